/- The reader, way by way, without a count of what it may still do; the rules of a text. -/
import Derived.Test.YtllcpoibnmhghaaGreatDoorTb01
namespace Lx

theorem rd_len {E m d : Nat} {e : Ex} {r : List Tk} {n : Nat} {e' : Ex} {r' : List Tk} {n' : Nat} (hm : m ≤ 8) (h : rd E m d e r n = .ok (e', r', n')) : r'.length + eats m ≤ r.length := goP_len E _ m d e r n e' r' n' hm h
theorem rd_0 (E d : Nat) (e : Ex) (r : List Tk) (n : Nat) : rd E 0 d e r n = andThen (rd E 2 d ex0 r n) fun e r n => rd E 1 d e r n := by
  have h : need 0 r = 4 * r.length + 3 + 1 := by simp [need, rank]
  show goP E (need 0 r) 0 d e r n = _
  rw [h, goP_0]
  refine andThen_congr (goP_rd E 2 d ex0 r n (by omega) _ (by simp [need, rank])) fun e1 r1 n1 h1 => ?_
  have a := rd_len (by omega) h1
  exact goP_rd E 1 d e1 r1 n1 (by omega) _ (by simp [need, rank, eats] at *; omega)
theorem rd_2 (E d : Nat) (e : Ex) (r : List Tk) (n : Nat) : rd E 2 d e r n = andThen (rd E 4 d ex0 r n) fun e r n => rd E 3 d e r n := by
  have h : need 2 r = 4 * r.length + 2 + 1 := by simp [need, rank]
  show goP E (need 2 r) 2 d e r n = _
  rw [h, goP_2]
  refine andThen_congr (goP_rd E 4 d ex0 r n (by omega) _ (by simp [need, rank])) fun e1 r1 n1 h1 => ?_
  have a := rd_len (by omega) h1
  exact goP_rd E 3 d e1 r1 n1 (by omega) _ (by simp [need, rank, eats] at *; omega)
theorem rd_4 (E d : Nat) (e : Ex) (r : List Tk) (n : Nat) : rd E 4 d e r n = andThen (rd E 6 d ex0 r n) fun e r n => rd E 5 d e r n := by
  have h : need 4 r = 4 * r.length + 1 + 1 := by simp [need, rank]
  show goP E (need 4 r) 4 d e r n = _
  rw [h, goP_4]
  refine andThen_congr (goP_rd E 6 d ex0 r n (by omega) _ (by simp [need, rank])) fun e1 r1 n1 h1 => ?_
  have a := rd_len (by omega) h1
  exact goP_rd E 5 d e1 r1 n1 (by omega) _ (by simp [need, rank, eats] at *; omega)
theorem rd_1 (E d : Nat) (e : Ex) (r : List Tk) (n : Nat) : rd E 1 d e r n =
    if isT wPlus r then andThen (rd E 2 d ex0 r.tail n) fun t r n => andThen (endedP E ⟨6, 0, 0, [], [e, t]⟩ r n) fun e r n => rd E 1 d e r n
    else if isT wMinus r then andThen (rd E 2 d ex0 r.tail n) fun t r n => andThen (endedP E ⟨7, 0, 0, [], [e, t]⟩ r n) fun e r n => rd E 1 d e r n
    else .ok (e, r, n) := by
  have h : need 1 r = 4 * r.length + 1 := by simp [need, rank]
  show goP E (need 1 r) 1 d e r n = _
  rw [h, goP_1]
  by_cases c1 : isT wPlus r = true
  · rw [if_pos c1, if_pos c1]
    have := isT_cons (by decide) c1
    refine andThen_congr (goP_rd E 2 d ex0 r.tail n (by omega) _ (by simp [need, rank]; omega)) fun e1 r1 n1 h1 => ?_
    have a := rd_len (by omega) h1
    refine andThen_congr rfl fun e2 r2 n2 h2 => ?_
    cases endedP_ok h2
    exact goP_rd E 1 d _ _ _ (by omega) _ (by simp [need, rank, eats] at *; omega)
  · rw [if_neg c1, if_neg c1]
    by_cases c2 : isT wMinus r = true
    · rw [if_pos c2, if_pos c2]
      have := isT_cons (by decide) c2
      refine andThen_congr (goP_rd E 2 d ex0 r.tail n (by omega) _ (by simp [need, rank]; omega)) fun e1 r1 n1 h1 => ?_
      have a := rd_len (by omega) h1
      refine andThen_congr rfl fun e2 r2 n2 h2 => ?_
      cases endedP_ok h2
      exact goP_rd E 1 d _ _ _ (by omega) _ (by simp [need, rank, eats] at *; omega)
    · rw [if_neg c2, if_neg c2]
theorem rd_3 (E d : Nat) (e : Ex) (r : List Tk) (n : Nat) : rd E 3 d e r n =
    if isT wAnd r then andThen (rd E 4 d ex0 r.tail n) fun t r n => andThen (endedP E ⟨8, 0, 0, [], [e, t]⟩ r n) fun e r n => rd E 3 d e r n
    else .ok (e, r, n) := by
  have h : need 3 r = 4 * r.length + 1 := by simp [need, rank]
  show goP E (need 3 r) 3 d e r n = _
  rw [h, goP_3]
  by_cases c1 : isT wAnd r = true
  · rw [if_pos c1, if_pos c1]
    have := isT_cons (by decide) c1
    refine andThen_congr (goP_rd E 4 d ex0 r.tail n (by omega) _ (by simp [need, rank]; omega)) fun e1 r1 n1 h1 => ?_
    have a := rd_len (by omega) h1
    refine andThen_congr rfl fun e2 r2 n2 h2 => ?_
    cases endedP_ok h2
    exact goP_rd E 3 d _ _ _ (by omega) _ (by simp [need, rank, eats] at *; omega)
  · rw [if_neg c1, if_neg c1]
theorem rd_5 (E d : Nat) (e : Ex) (r : List Tk) (n : Nat) : rd E 5 d e r n = if isT wShift r then
      if kindP (shiftAt r) ≠ 6 then failP E 2 (shiftAt r)
      else if 1440 ≤ numP (shiftAt r) ∨ numP (shiftAt r) < 1 then failP E 3 (shiftAt r)
      else andThen (endedP E ⟨9, if isT wMinus r.tail then - numP (shiftAt r) else numP (shiftAt r), 0, [], [e]⟩ (shiftAt r).tail n) fun e r n => rd E 5 d e r n
    else .ok (e, r, n) := by
  have h : need 5 r = 4 * r.length + 1 := by simp [need, rank]
  show goP E (need 5 r) 5 d e r n = _
  rw [h, goP_5]
  have hs := shiftAt_len r
  by_cases c1 : isT wShift r = true
  · rw [if_pos c1, if_pos c1]
    have := isT_cons (by decide) c1
    by_cases c2 : kindP (shiftAt r) ≠ 6
    · rw [if_pos c2, if_pos c2]
    rw [if_neg c2, if_neg c2]
    by_cases c3 : 1440 ≤ numP (shiftAt r) ∨ numP (shiftAt r) < 1
    · rw [if_pos c3, if_pos c3]
    rw [if_neg c3, if_neg c3]
    refine andThen_congr rfl fun e2 r2 n2 h2 => ?_
    cases endedP_ok h2
    exact goP_rd E 5 d _ _ _ (by omega) _ (by simp [need, rank] at *; omega)
  · rw [if_neg c1, if_neg c1]
theorem rd_6 (E d : Nat) (e : Ex) (r : List Tk) (n : Nat) : rd E 6 d e r n =
    if 40 < d then failP E 4 r
    else if isT wOpen r then andThen (rd E 0 (d + 1) ex0 r.tail n) fun e r n => if isT wShut r then .ok (e, r.tail, n) else failP E 2 r
    else if isT wNever r then endedP E ⟨1, 0, 0, [], []⟩ r.tail n
    else if isT wAlways r then endedP E ⟨2, 0, 0, [], []⟩ r.tail n
    else if isT wWeekly r then rd E 7 d ex0 r.tail n
    else if isT wDates r then
      if kindP r.tail ≠ 5 then failP E 2 r.tail
      else if isT wTo r.tail.tail then
        if kindP r.tail.tail.tail ≠ 5 then failP E 2 r.tail.tail.tail
        else if numP r.tail.tail.tail < numP r.tail then failP E 3 r.tail.tail.tail
        else rd E 8 d ⟨5, numP r.tail, numP r.tail.tail.tail, [], []⟩ r.tail.tail.tail.tail n
      else rd E 8 d ⟨5, numP r.tail, numP r.tail, [], []⟩ r.tail.tail n
    else if kindP r = 1 then endedP E ⟨10, 0, 0, textP r, []⟩ r.tail n
    else if kindP r ≠ 4 then failP E 2 r
    else if isT wMinus r.tail then
      if kindP r.tail.tail ≠ 4 then failP E 2 r.tail.tail
      else if numP r.tail.tail < numP r + 1 then failP E 3 r.tail.tail
      else endedP E ⟨3, numP r, numP r.tail.tail, [], []⟩ r.tail.tail.tail n
    else failP E 2 r.tail := by
  have h : need 6 r = 4 * r.length + 1 := by simp [need, rank]
  show goP E (need 6 r) 6 d e r n = _
  rw [h, goP_6]
  by_cases c0 : 40 < d
  · rw [if_pos c0, if_pos c0]
  rw [if_neg c0, if_neg c0]
  by_cases c1 : isT wOpen r = true
  · rw [if_pos c1, if_pos c1]
    have := isT_cons (by decide) c1
    exact andThen_congr (goP_rd E 0 _ _ _ _ (by omega) _ (by simp [need, rank] at *; omega)) fun e1 r1 n1 h1 => rfl
  rw [if_neg c1, if_neg c1]
  by_cases c2 : isT wNever r = true
  · rw [if_pos c2, if_pos c2]
  rw [if_neg c2, if_neg c2]
  by_cases c3 : isT wAlways r = true
  · rw [if_pos c3, if_pos c3]
  rw [if_neg c3, if_neg c3]
  by_cases c4 : isT wWeekly r = true
  · rw [if_pos c4, if_pos c4]
    have := isT_cons (by decide) c4
    exact goP_rd E 7 _ _ _ _ (by omega) _ (by simp [need, rank] at *; omega)
  rw [if_neg c4, if_neg c4]
  by_cases c5 : isT wDates r = true
  · rw [if_pos c5, if_pos c5]
    have := isT_cons (by decide) c5
    rw [goP_rd E 8 d ⟨5, numP r.tail, numP r.tail.tail.tail, [], []⟩ r.tail.tail.tail.tail n (by omega) _ (by simp [need, rank] at *; omega), goP_rd E 8 d ⟨5, numP r.tail, numP r.tail, [], []⟩ r.tail.tail n (by omega) _ (by simp [need, rank] at *; omega)]
  rw [if_neg c5, if_neg c5]
theorem rd_7 (E d : Nat) (e : Ex) (r : List Tk) (n : Nat) : rd E 7 d e r n =
    if dayBit (textP r) = 0 then failP E 2 r
    else if isT wComma r.tail then rd E 7 d ⟨0, ((e.a.toNat ||| dayBit (textP r) : Nat) : Int), 0, [], []⟩ r.tail.tail n
    else rd E 8 d ⟨4, ((e.a.toNat ||| dayBit (textP r) : Nat) : Int), 0, [], []⟩ r.tail n := by
  have h : need 7 r = 4 * r.length + 1 := by simp [need, rank]
  show goP E (need 7 r) 7 d e r n = _
  rw [h, goP_7]
  by_cases c1 : dayBit (textP r) = 0
  · rw [if_pos c1, if_pos c1]
  rw [if_neg c1, if_neg c1]
  have := dayBit_cons c1
  rw [goP_rd E 7 d _ r.tail.tail n (by omega) _ (by simp [need, rank] at *; omega), goP_rd E 8 d _ r.tail n (by omega) _ (by simp [need, rank] at *; omega)]
theorem rd_8 (E d : Nat) (e : Ex) (r : List Tk) (n : Nat) : rd E 8 d e r n =
    if isT wColon r then andThen (rd E 4 (d + 1) ex0 r.tail n) fun k r n => endedP E ⟨e.kind, e.a, e.b, [], [k]⟩ r n else failP E 2 r := by
  have h : need 8 r = 4 * r.length + 1 := by simp [need, rank]
  show goP E (need 8 r) 8 d e r n = _
  rw [h, goP_8]
  by_cases c1 : isT wColon r = true
  · rw [if_pos c1, if_pos c1]
    have := isT_cons (by decide) c1
    exact andThen_congr (goP_rd E 4 _ _ _ _ (by omega) _ (by simp [need, rank] at *; omega)) fun e1 r1 n1 h1 => rfl
  · rw [if_neg c1, if_neg c1]
end Lx

/- How deep an expression is: plain. -/
namespace Lx

theorem kid_lt {e k : Ex} (h : k ∈ e.kids) : sizeOf k < sizeOf e := by
  have h1 := List.sizeOf_lt_of_mem h
  cases e
  simp only [Ex.mk.sizeOf_spec] at *
  omega
/-- How many expressions stand within each other. -/
def hgt (e : Ex) : Nat := (e.kids.attach.map fun k => hgt k.1).foldl max 0 + 1
  termination_by sizeOf e
  decreasing_by exact kid_lt k.2
def hgtL (l : List Ex) : Nat := (l.map hgt).foldl max 0
theorem hgt_eq (e : Ex) : hgt e = hgtL e.kids + 1 := by
  rw [hgt, hgtL]
  show (List.map (hgt ∘ Subtype.val) e.kids.attach).foldl max 0 + 1 = _
  rw [← List.map_map, List.attach_map_subtype_val]
theorem foldl_max (l : List Nat) : ∀ a, l.foldl max a = max a (l.foldl max 0) := by
  induction l with
  | nil => intro a; simp
  | cons b l ih =>
    intro a
    simp only [List.foldl_cons]
    rw [ih (max a b), ih (max 0 b)]
    omega
theorem hgtL_nil : hgtL [] = 0 := rfl
theorem hgtL_cons (k : Ex) (l : List Ex) : hgtL (k :: l) = max (hgt k) (hgtL l) := by
  unfold hgtL
  simp only [List.map_cons, List.foldl_cons]
  rw [foldl_max]; omega
theorem hgtL_snoc (l : List Ex) (k : Ex) : hgtL (l ++ [k]) = max (hgtL l) (hgt k) := by
  unfold hgtL
  rw [List.map_append, List.foldl_append]
  rfl
theorem hgt_kid {e k : Ex} (h : k ∈ e.kids) : hgt k < hgt e := by
  rw [hgt_eq e]
  generalize e.kids = l at *
  induction l with
  | nil => cases h
  | cons q l ih =>
    rw [hgtL_cons]
    rcases List.mem_cons.1 h with rfl | h
    · omega
    · have := ih h; omega
/-- An expression is no deeper than so many have ended. -/
theorem goP_hgt (E : Nat) : ∀ (f m d : Nat) (e : Ex) (r : List Tk) (n : Nat) (e' : Ex) (r' : List Tk) (n' : Nat), m ≤ 8 → (m = 1 ∨ m = 3 ∨ m = 5 → hgt e ≤ n) → goP E f m d e r n = .ok (e', r', n') → hgt e' ≤ n' ∧ n ≤ n'
  | 0, m, d, e, r, n, e', r', n', _, _, h => (failP_ok h).elim
  | f + 1, m, d, e, r, n, e', r', n', hm, he, h => by
    have ih := goP_hgt E f
    have leaf : ∀ (k a b : Int) (x : List UInt8), hgt ⟨k, a, b, x, []⟩ = 1 := fun k a b x => by rw [hgt_eq]; rfl
    have one : ∀ (k a b : Int) (x : List UInt8) (t : Ex), hgt ⟨k, a, b, x, [t]⟩ = hgt t + 1 := fun k a b x t => by
      rw [hgt_eq]; show hgtL [t] + 1 = _; rw [hgtL_cons, hgtL_nil]; omega
    have two : ∀ (k a b : Int) (x : List UInt8) (s t : Ex), hgt ⟨k, a, b, x, [s, t]⟩ = max (hgt s) (hgt t) + 1 := fun k a b x s t => by
      rw [hgt_eq]; show hgtL [s, t] + 1 = _; rw [hgtL_cons, hgtL_cons, hgtL_nil]; omega
    match m, hm with
    | 0, _ =>
      rw [goP_0] at h
      obtain ⟨e1, r1, n1, h1, h2⟩ := andThen_ok h
      have a := ih 2 _ _ _ _ _ _ _ (by omega) (by omega) h1
      have b := ih 1 _ _ _ _ _ _ _ (by omega) (fun _ => a.1) h2
      omega
    | 1, _ =>
      rw [goP_1] at h
      have he' := he (by omega)
      split at h
      · obtain ⟨e1, r1, n1, h1, h2⟩ := andThen_ok h
        obtain ⟨e2, r2, n2, h3, h4⟩ := andThen_ok h2
        have a := ih 2 _ _ _ _ _ _ _ (by omega) (by omega) h1
        cases endedP_ok h3
        have b := ih 1 _ _ _ _ _ _ _ (by omega) (fun _ => by rw [two]; omega) h4
        omega
      · split at h
        · obtain ⟨e1, r1, n1, h1, h2⟩ := andThen_ok h
          obtain ⟨e2, r2, n2, h3, h4⟩ := andThen_ok h2
          have a := ih 2 _ _ _ _ _ _ _ (by omega) (by omega) h1
          cases endedP_ok h3
          have b := ih 1 _ _ _ _ _ _ _ (by omega) (fun _ => by rw [two]; omega) h4
          omega
        · cases h; omega
    | 2, _ =>
      rw [goP_2] at h
      obtain ⟨e1, r1, n1, h1, h2⟩ := andThen_ok h
      have a := ih 4 _ _ _ _ _ _ _ (by omega) (by omega) h1
      have b := ih 3 _ _ _ _ _ _ _ (by omega) (fun _ => a.1) h2
      omega
    | 3, _ =>
      rw [goP_3] at h
      have he' := he (by omega)
      split at h
      · obtain ⟨e1, r1, n1, h1, h2⟩ := andThen_ok h
        obtain ⟨e2, r2, n2, h3, h4⟩ := andThen_ok h2
        have a := ih 4 _ _ _ _ _ _ _ (by omega) (by omega) h1
        cases endedP_ok h3
        have b := ih 3 _ _ _ _ _ _ _ (by omega) (fun _ => by rw [two]; omega) h4
        omega
      · cases h; omega
    | 4, _ =>
      rw [goP_4] at h
      obtain ⟨e1, r1, n1, h1, h2⟩ := andThen_ok h
      have a := ih 6 _ _ _ _ _ _ _ (by omega) (by omega) h1
      have b := ih 5 _ _ _ _ _ _ _ (by omega) (fun _ => a.1) h2
      omega
    | 5, _ =>
      rw [goP_5] at h
      have he' := he (by omega)
      split at h
      · split at h
        · exact (failP_ok h).elim
        · split at h
          · exact (failP_ok h).elim
          · obtain ⟨e2, r2, n2, h3, h4⟩ := andThen_ok h
            cases endedP_ok h3
            have b := ih 5 _ _ _ _ _ _ _ (by omega) (fun _ => by rw [one]; omega) h4
            omega
      · cases h; omega
    | 6, _ =>
      rw [goP_6] at h
      by_cases c0 : 40 < d
      · rw [if_pos c0] at h; exact (failP_ok h).elim
      rw [if_neg c0] at h
      by_cases c1 : isT wOpen r = true
      · rw [if_pos c1] at h
        obtain ⟨e1, r1, n1, h1, h2⟩ := andThen_ok h
        have a := ih 0 _ _ _ _ _ _ _ (by omega) (by omega) h1
        split at h2
        · cases h2; omega
        · exact (failP_ok h2).elim
      rw [if_neg c1] at h
      by_cases c2 : isT wNever r = true
      · rw [if_pos c2] at h
        cases endedP_ok h
        rw [leaf]; omega
      rw [if_neg c2] at h
      by_cases c3 : isT wAlways r = true
      · rw [if_pos c3] at h
        cases endedP_ok h
        rw [leaf]; omega
      rw [if_neg c3] at h
      by_cases c4 : isT wWeekly r = true
      · rw [if_pos c4] at h
        exact ih 7 _ _ _ _ _ _ _ (by omega) (by omega) h
      rw [if_neg c4] at h
      by_cases c5 : isT wDates r = true
      · rw [if_pos c5] at h
        split at h
        · exact (failP_ok h).elim
        split at h
        · split at h
          · exact (failP_ok h).elim
          split at h
          · exact (failP_ok h).elim
          exact ih 8 _ _ _ _ _ _ _ (by omega) (by omega) h
        · exact ih 8 _ _ _ _ _ _ _ (by omega) (by omega) h
      rw [if_neg c5] at h
      by_cases c6 : kindP r = 1
      · rw [if_pos c6] at h
        cases endedP_ok h
        rw [leaf]; omega
      rw [if_neg c6] at h
      by_cases c7 : kindP r ≠ 4
      · rw [if_pos c7] at h; exact (failP_ok h).elim
      rw [if_neg c7] at h
      split at h
      · split at h
        · exact (failP_ok h).elim
        split at h
        · exact (failP_ok h).elim
        cases endedP_ok h
        rw [leaf]; omega
      · exact (failP_ok h).elim
    | 7, _ =>
      rw [goP_7] at h
      split at h
      · exact (failP_ok h).elim
      · split at h
        · exact ih 7 _ _ _ _ _ _ _ (by omega) (by omega) h
        · exact ih 8 _ _ _ _ _ _ _ (by omega) (by omega) h
    | 8, _ =>
      rw [goP_8] at h
      split at h
      · obtain ⟨e1, r1, n1, h1, h2⟩ := andThen_ok h
        cases endedP_ok h2
        have a := ih 4 _ _ _ _ _ _ _ (by omega) (by omega) h1
        rw [one]; omega
      · exact (failP_ok h).elim
theorem rd_hgt {E d : Nat} {e : Ex} {r : List Tk} {n : Nat} {e' : Ex} {r' : List Tk} {n' : Nat} (h : rd E 0 d e r n = .ok (e', r', n')) : hgt e' ≤ n' := (goP_hgt E _ 0 d e r n e' r' n' (by omega) (by omega) h).1
/-- A rule: its name, and its expression. -/
abbrev Ru := List UInt8 × Ex
/-- One rule, behind its word. -/
def ruleR (E : Nat) (r : List Tk) : Except (Int × Nat) (Ru × List Tk) :=
  if kindP r ≠ 1 then .error (2, atP E r)
  else if isT wIs r.tail then
    match rd E 0 1 ex0 r.tail.tail 0 with
    | .error q => .error q
    | .ok (e, q, _) => if 40 < hgt e then .error (4, atP E q) else if isT wSemi q then .ok ((textP r, e), q.tail) else .error (2, atP E q)
  else .error (2, atP E r.tail)
/-- The rules of tokens; so many at most are still to come. -/
def rulesR (E : Nat) : Nat → List Ru → List Tk → Except (Int × Nat) (List Ru)
  | 0, acc, _ => .ok acc
  | f + 1, acc, r =>
    if r.length = 0 then .ok acc
    else if isT wRule r then
      if acc.length = 40 then .error (5, atP E r.tail)
      else match ruleR E r.tail with
        | .error q => .error q
        | .ok (u, q) => rulesR E f (acc ++ [u]) q
    else .error (2, atP E r)
end Lx

/- What is read of tokens is read of the same tokens at other places, and with others behind, where something is left: plain. -/
namespace Lx

/-- The same tokens, and these behind. -/
def Mo (ts : List T1) (r q : List Tk) : Prop := q.map (fun p => p.1) = r.map (fun p => p.1) ++ ts
/-- Something is left, or nothing is behind. -/
def Co (ts : List T1) (r : List Tk) : Prop := 0 < r.length ∨ ts = []
theorem Co.up {ts : List T1} {r q : List Tk} (h : Co ts r) (hl : r.length ≤ q.length) : Co ts q := by
  rcases h with h | h
  · exact .inl (by omega)
  · exact .inr h
theorem Mo.tail {ts : List T1} {r q : List Tk} (h : Mo ts r q) (hc : Co ts r) : Mo ts r.tail q.tail := by
  unfold Mo at *
  rcases r with _ | ⟨p, r⟩
  · rcases hc with hc | rfl
    · simp at hc
    · simp at h
      subst h; rfl
  · rcases q with _ | ⟨p', q⟩
    · simp at h
    · simp at h ⊢
      exact h.2
theorem Mo.same {ts : List T1} {r q : List Tk} (h : Mo ts r q) (hc : Co ts r) : textP q = textP r ∧ kindP q = kindP r ∧ numP q = numP r := by
  unfold Mo at *
  rcases r with _ | ⟨p, r⟩
  · rcases hc with hc | rfl
    · simp at hc
    · simp at h
      subst h; exact ⟨rfl, rfl, rfl⟩
  · rcases q with _ | ⟨p', q⟩
    · simp at h
    · simp at h
      simp [textP, kindP, numP, h.1]
theorem Mo.isT {ts : List T1} {r q : List Tk} (h : Mo ts r q) (hc : Co ts r) (x : List UInt8) : isT x q = isT x r := by
  unfold Lx.isT; rw [(h.same hc).1]
theorem then_mk {x : Res} {e : Ex} {r : List Tk} {n : Nat} {f : Ex → List Tk → Nat → Res} (h : x = .ok (e, r, n)) : andThen x f = f e r n := by subst h; rfl
theorem ended_mk {E E' : Nat} {e : Ex} {r q : List Tk} {n : Nat} {z : Ex × List Tk × Nat} (h : endedP E e r n = .ok z) : endedP E' e q n = .ok (e, q, n + 1) := by
  unfold endedP at *
  split at h
  · cases h
  · rename_i c; rw [if_neg c]
theorem isT_pos {x : List UInt8} {r : List Tk} (hx : x ≠ []) (h : isT x r = true) : 0 < r.length := isT_cons hx h

set_option maxHeartbeats 1000000 in
theorem goP_join (E E' : Nat) (ts : List T1) : ∀ (f m d : Nat) (e : Ex) (r q : List Tk) (n : Nat) (e' : Ex) (r' : List Tk) (n' : Nat), m ≤ 8 → Mo ts r q → Co ts r' → goP E f m d e r n = .ok (e', r', n') → ∃ q', goP E' f m d e q n = .ok (e', q', n') ∧ Mo ts r' q'
  | 0, m, d, e, r, q, n, e', r', n', _, _, _, h => (failP_ok h).elim
  | f + 1, m, d, e, r, q, n, e', r', n', hm, hM, hC, h => by
    have ih := goP_join E E' ts f
    have hlen := fun (m d : Nat) (e : Ex) (r : List Tk) (n : Nat) (e' : Ex) (r' : List Tk) (n' : Nat) (hm : m ≤ 8) (h : goP E f m d e r n = .ok (e', r', n')) => goP_len E f m d e r n e' r' n' hm h
    have hCr : Co ts r := hC.up (by have := goP_len E (f + 1) m d e r n e' r' n' hm h; omega)
    have iT := hM.isT hCr
    have hMt := hM.tail hCr
    match m, hm with
    | 0, _ =>
      rw [goP_0] at h ⊢
      obtain ⟨e1, r1, n1, h1, h2⟩ := andThen_ok h
      have l2 := hlen 1 _ _ _ _ _ _ _ (by omega) h2
      obtain ⟨q1, g1, M1⟩ := ih 2 _ _ _ _ _ _ _ _ (by omega) hM (hC.up (by omega)) h1
      obtain ⟨q2, g2, M2⟩ := ih 1 _ _ _ _ _ _ _ _ (by omega) M1 hC h2
      exact ⟨q2, by rw [then_mk g1]; exact g2, M2⟩
    | 2, _ =>
      rw [goP_2] at h ⊢
      obtain ⟨e1, r1, n1, h1, h2⟩ := andThen_ok h
      have l2 := hlen 3 _ _ _ _ _ _ _ (by omega) h2
      obtain ⟨q1, g1, M1⟩ := ih 4 _ _ _ _ _ _ _ _ (by omega) hM (hC.up (by omega)) h1
      obtain ⟨q2, g2, M2⟩ := ih 3 _ _ _ _ _ _ _ _ (by omega) M1 hC h2
      exact ⟨q2, by rw [then_mk g1]; exact g2, M2⟩
    | 4, _ =>
      rw [goP_4] at h ⊢
      obtain ⟨e1, r1, n1, h1, h2⟩ := andThen_ok h
      have l2 := hlen 5 _ _ _ _ _ _ _ (by omega) h2
      obtain ⟨q1, g1, M1⟩ := ih 6 _ _ _ _ _ _ _ _ (by omega) hM (hC.up (by omega)) h1
      obtain ⟨q2, g2, M2⟩ := ih 5 _ _ _ _ _ _ _ _ (by omega) M1 hC h2
      exact ⟨q2, by rw [then_mk g1]; exact g2, M2⟩
    | 1, _ =>
      rw [goP_1] at h ⊢
      rw [iT, iT]
      by_cases c1 : isT wPlus r = true
      · rw [if_pos c1] at h ⊢
        obtain ⟨e1, r1, n1, h1, h2⟩ := andThen_ok h
        obtain ⟨e2, r2, n2, h3, h4⟩ := andThen_ok h2
        have g3 := fun q => ended_mk (E' := E') (q := q) h3
        cases endedP_ok h3
        have l2 := hlen 1 _ _ _ _ _ _ _ (by omega) h4
        obtain ⟨q1, g1, M1⟩ := ih 2 _ _ _ _ _ _ _ _ (by omega) hMt (hC.up (by omega)) h1
        obtain ⟨q2, g2, M2⟩ := ih 1 _ _ _ _ _ _ _ _ (by omega) M1 hC h4
        exact ⟨q2, by rw [then_mk g1, then_mk (g3 q1)]; exact g2, M2⟩
      · rw [if_neg c1] at h ⊢
        by_cases c2 : isT wMinus r = true
        · rw [if_pos c2] at h ⊢
          obtain ⟨e1, r1, n1, h1, h2⟩ := andThen_ok h
          obtain ⟨e2, r2, n2, h3, h4⟩ := andThen_ok h2
          have g3 := fun q => ended_mk (E' := E') (q := q) h3
          cases endedP_ok h3
          have l2 := hlen 1 _ _ _ _ _ _ _ (by omega) h4
          obtain ⟨q1, g1, M1⟩ := ih 2 _ _ _ _ _ _ _ _ (by omega) hMt (hC.up (by omega)) h1
          obtain ⟨q2, g2, M2⟩ := ih 1 _ _ _ _ _ _ _ _ (by omega) M1 hC h4
          exact ⟨q2, by rw [then_mk g1, then_mk (g3 q1)]; exact g2, M2⟩
        · rw [if_neg c2] at h ⊢
          cases h
          exact ⟨q, rfl, hM⟩
    | 3, _ =>
      rw [goP_3] at h ⊢
      rw [iT]
      by_cases c1 : isT wAnd r = true
      · rw [if_pos c1] at h ⊢
        obtain ⟨e1, r1, n1, h1, h2⟩ := andThen_ok h
        obtain ⟨e2, r2, n2, h3, h4⟩ := andThen_ok h2
        have g3 := fun q => ended_mk (E' := E') (q := q) h3
        cases endedP_ok h3
        have l2 := hlen 3 _ _ _ _ _ _ _ (by omega) h4
        obtain ⟨q1, g1, M1⟩ := ih 4 _ _ _ _ _ _ _ _ (by omega) hMt (hC.up (by omega)) h1
        obtain ⟨q2, g2, M2⟩ := ih 3 _ _ _ _ _ _ _ _ (by omega) M1 hC h4
        exact ⟨q2, by rw [then_mk g1, then_mk (g3 q1)]; exact g2, M2⟩
      · rw [if_neg c1] at h ⊢
        cases h
        exact ⟨q, rfl, hM⟩
    | 5, _ =>
      rw [goP_5] at h ⊢
      rw [iT]
      by_cases c1 : isT wShift r = true
      · rw [if_pos c1] at h ⊢
        by_cases c2 : kindP (shiftAt r) ≠ 6
        · rw [if_pos c2] at h; exact (failP_ok h).elim
        rw [if_neg c2] at h
        by_cases c3 : 1440 ≤ numP (shiftAt r) ∨ numP (shiftAt r) < 1
        · rw [if_pos c3] at h; exact (failP_ok h).elim
        rw [if_neg c3] at h
        obtain ⟨e2, r2, n2, h3, h4⟩ := andThen_ok h
        have g3 := fun q => ended_mk (E' := E') (q := q) h3
        cases endedP_ok h3
        have l2 := hlen 5 _ _ _ _ _ _ _ (by omega) h4
        have hk6 : 0 < (shiftAt r).length := kindP_cons (by intro e; exact c2 (by rw [e]; decide))
        have hCs : Co ts (shiftAt r) := .inl hk6
        have hCt : Co ts r.tail := .inl (by
          have : (shiftAt r).length ≤ r.tail.length := by unfold shiftAt; split <;> simp
          omega)
        have jT := hMt.isT hCt
        have hMs : Mo ts (shiftAt r) (shiftAt q) := by
          unfold shiftAt
          rw [jT]
          split
          · exact hMt.tail hCt
          · exact hMt
        obtain ⟨_, s2, s3⟩ := hMs.same hCs
        obtain ⟨q2, g2, M2⟩ := ih 5 _ _ _ _ _ _ _ _ (by omega) (hMs.tail hCs) hC h4
        refine ⟨q2, ?_, M2⟩
        rw [s2, s3, if_neg c2, if_neg c3, jT, then_mk (g3 _)]
        exact g2
      · rw [if_neg c1] at h ⊢
        cases h
        exact ⟨q, rfl, hM⟩
    | 8, _ =>
      rw [goP_8] at h ⊢
      rw [iT]
      by_cases c1 : isT wColon r = true
      · rw [if_pos c1] at h ⊢
        obtain ⟨e1, r1, n1, h1, h2⟩ := andThen_ok h
        have g3 := fun q => ended_mk (E' := E') (q := q) h2
        cases endedP_ok h2
        obtain ⟨q1, g1, M1⟩ := ih 4 _ _ _ _ _ _ _ _ (by omega) hMt hC h1
        exact ⟨q1, by rw [then_mk g1]; exact g3 q1, M1⟩
      · rw [if_neg c1] at h; exact (failP_ok h).elim
    | 7, _ =>
      rw [goP_7] at h ⊢
      obtain ⟨s1, _, _⟩ := hM.same hCr
      rw [s1]
      by_cases c0 : dayBit (textP r) = 0
      · rw [if_pos c0] at h; exact (failP_ok h).elim
      rw [if_neg c0] at h ⊢
      by_cases c1 : isT wComma r.tail = true
      · rw [if_pos c1] at h
        have hCt : Co ts r.tail := .inl (isT_pos (by decide) c1)
        rw [hMt.isT hCt, if_pos c1]
        exact ih 7 _ _ _ _ _ _ _ _ (by omega) (hMt.tail hCt) hC h
      · rw [if_neg c1] at h
        have l2 := hlen 8 _ _ _ _ _ _ _ (by omega) h
        have hCt : Co ts r.tail := hC.up (by omega)
        rw [hMt.isT hCt, if_neg c1]
        exact ih 8 _ _ _ _ _ _ _ _ (by omega) hMt hC h
    | 6, _ =>
      rw [goP_6] at h ⊢
      obtain ⟨s1, s2, s3⟩ := hM.same hCr
      rw [iT, iT, iT, iT, iT, s1, s2, s3]
      by_cases c0 : 40 < d
      · rw [if_pos c0] at h; exact (failP_ok h).elim
      rw [if_neg c0] at h ⊢
      by_cases c1 : isT wOpen r = true
      · rw [if_pos c1] at h ⊢
        obtain ⟨e1, r1, n1, h1, h2⟩ := andThen_ok h
        by_cases c2 : isT wShut r1 = true
        · rw [if_pos c2] at h2
          cases h2
          have hC1 : Co ts r1 := .inl (isT_pos (by decide) c2)
          obtain ⟨q1, g1, M1⟩ := ih 0 _ _ _ _ _ _ _ _ (by omega) hMt hC1 h1
          refine ⟨q1.tail, ?_, M1.tail hC1⟩
          rw [then_mk g1, M1.isT hC1, if_pos c2]
        · rw [if_neg c2] at h2; exact (failP_ok h2).elim
      rw [if_neg c1] at h ⊢
      by_cases c3 : isT wNever r = true
      · rw [if_pos c3] at h ⊢
        have g := ended_mk (E' := E') (q := q.tail) h
        cases endedP_ok h
        exact ⟨q.tail, g, hMt⟩
      rw [if_neg c3] at h ⊢
      by_cases c4 : isT wAlways r = true
      · rw [if_pos c4] at h ⊢
        have g := ended_mk (E' := E') (q := q.tail) h
        cases endedP_ok h
        exact ⟨q.tail, g, hMt⟩
      rw [if_neg c4] at h ⊢
      by_cases c5 : isT wWeekly r = true
      · rw [if_pos c5] at h ⊢
        exact ih 7 _ _ _ _ _ _ _ _ (by omega) hMt hC h
      rw [if_neg c5] at h ⊢
      by_cases c6 : isT wDates r = true
      · rw [if_pos c6] at h ⊢
        by_cases k5 : kindP r.tail ≠ 5
        · rw [if_pos k5] at h; exact (failP_ok h).elim
        rw [if_neg k5] at h
        have hC1 : Co ts r.tail := .inl (kindP_cons (by intro e; exact k5 (by rw [e]; decide)))
        obtain ⟨t1, t2, t3⟩ := hMt.same hC1
        have hM2 := hMt.tail hC1
        rw [t2, t3, if_neg k5]
        by_cases c7 : isT wTo r.tail.tail = true
        · rw [if_pos c7] at h
          have hC2 : Co ts r.tail.tail := .inl (isT_pos (by decide) c7)
          rw [hM2.isT hC2, if_pos c7]
          by_cases k6 : kindP r.tail.tail.tail ≠ 5
          · rw [if_pos k6] at h; exact (failP_ok h).elim
          rw [if_neg k6] at h
          have hM3 := hM2.tail hC2
          have hC3 : Co ts r.tail.tail.tail := .inl (kindP_cons (by intro e; exact k6 (by rw [e]; decide)))
          obtain ⟨v1, v2, v3⟩ := hM3.same hC3
          rw [v2, v3, if_neg k6]
          by_cases k7 : numP r.tail.tail.tail < numP r.tail
          · rw [if_pos k7] at h; exact (failP_ok h).elim
          rw [if_neg k7] at h ⊢
          exact ih 8 _ _ _ _ _ _ _ _ (by omega) (hM3.tail hC3) hC h
        · rw [if_neg c7] at h
          have l2 := hlen 8 _ _ _ _ _ _ _ (by omega) h
          have hC2 : Co ts r.tail.tail := hC.up (by omega)
          rw [hM2.isT hC2, if_neg c7]
          exact ih 8 _ _ _ _ _ _ _ _ (by omega) hM2 hC h
      rw [if_neg c6] at h ⊢
      by_cases k1 : kindP r = 1
      · rw [if_pos k1] at h ⊢
        have g := ended_mk (E' := E') (q := q.tail) h
        cases endedP_ok h
        exact ⟨q.tail, g, hMt⟩
      rw [if_neg k1] at h ⊢
      by_cases k2 : kindP r ≠ 4
      · rw [if_pos k2] at h; exact (failP_ok h).elim
      rw [if_neg k2] at h ⊢
      by_cases c8 : isT wMinus r.tail = true
      · rw [if_pos c8] at h
        have hC1 : Co ts r.tail := .inl (isT_pos (by decide) c8)
        have hM2 := hMt.tail hC1
        rw [hMt.isT hC1, if_pos c8]
        by_cases k3 : kindP r.tail.tail ≠ 4
        · rw [if_pos k3] at h; exact (failP_ok h).elim
        rw [if_neg k3] at h
        have hC2 : Co ts r.tail.tail := .inl (kindP_cons (by intro e; exact k3 (by rw [e]; decide)))
        obtain ⟨t1, t2, t3⟩ := hM2.same hC2
        rw [t2, t3, if_neg k3]
        by_cases k4 : numP r.tail.tail < numP r + 1
        · rw [if_pos k4] at h; exact (failP_ok h).elim
        rw [if_neg k4] at h ⊢
        have g := ended_mk (E' := E') (q := q.tail.tail.tail) h
        cases endedP_ok h
        exact ⟨q.tail.tail.tail, g, hM2.tail hC2⟩
      · rw [if_neg c8] at h; exact (failP_ok h).elim
end Lx

/- The rules of two rows of tokens, one behind the other: plain. -/
namespace Lx

theorem rd_join {E E' m d : Nat} {e : Ex} {r q : List Tk} {n : Nat} {e' : Ex} {r' : List Tk} {n' : Nat} {ts : List T1} (hm : m ≤ 8) (hM : Mo ts r q) (hC : Co ts r') (h : rd E m d e r n = .ok (e', r', n')) : ∃ q', rd E' m d e q n = .ok (e', q', n') ∧ Mo ts r' q' := by
  have h1 := goP_rd E m d e r n hm (need m r + need m q) (by omega)
  rw [h] at h1
  obtain ⟨q', g, M⟩ := goP_join E E' ts _ m d e r q n e' r' n' hm hM hC h1
  rw [goP_rd E' m d e q n hm (need m r + need m q) (by omega)] at g
  exact ⟨q', g, M⟩
theorem ruleR_join {E E' : Nat} {r q r' : List Tk} {u : Ru} {ts : List T1} (hM : Mo ts r q) (h : ruleR E r = .ok (u, r')) : ∃ q', ruleR E' q = .ok (u, q') ∧ Mo ts r' q' ∧ r'.length < r.length := by
  unfold ruleR at h ⊢
  by_cases k1 : kindP r ≠ 1
  · rw [if_pos k1] at h; cases h
  rw [if_neg k1] at h
  have hr : 0 < r.length := kindP_cons (by intro e; exact k1 (by rw [e]; decide))
  have hC : Co ts r := .inl hr
  obtain ⟨s1, s2, _⟩ := hM.same hC
  have hMt := hM.tail hC
  rw [s1, s2, if_neg k1]
  by_cases c1 : isT wIs r.tail = true
  · rw [if_pos c1] at h
    have hC1 : Co ts r.tail := .inl (isT_pos (by decide) c1)
    rw [hMt.isT hC1, if_pos c1]
    cases hx : rd E 0 1 ex0 r.tail.tail 0 with
    | error z => rw [hx] at h; cases h
    | ok z =>
      obtain ⟨e, q0, n0⟩ := z
      rw [hx] at h
      dsimp only at h
      by_cases c2 : 40 < hgt e
      · rw [if_pos c2] at h; cases h
      rw [if_neg c2] at h
      by_cases c3 : isT wSemi q0 = true
      · rw [if_pos c3] at h
        cases h
        have hC2 : Co ts q0 := .inl (isT_pos (by decide) c3)
        obtain ⟨q1, g1, M1⟩ := rd_join (E' := E') (by omega) (hMt.tail hC1) hC2 hx
        have l1 := rd_len (by omega) hx
        refine ⟨q1.tail, ?_, M1.tail hC2, ?_⟩
        · rw [g1]
          dsimp only
          rw [if_neg c2, M1.isT hC2, if_pos c3]
        · simp at l1 ⊢; omega
      · rw [if_neg c3] at h; cases h
  · rw [if_neg c1] at h; cases h
theorem rulesR_first {E E' : Nat} {ts : List T1} : ∀ (f : Nat) (acc : List Ru) (r q : List Tk) (l : List Ru), Mo ts r q → r.length < f → rulesR E f acc r = .ok l → ∃ q2 k, Mo ts [] q2 ∧ k ≤ r.length ∧ ∀ g, rulesR E' (k + g) acc q = rulesR E' g l q2
  | 0, _, _, _, _, _, hf, _ => by omega
  | f + 1, acc, r, q, l, hM, hf, h => by
    rw [rulesR] at h
    by_cases c0 : r.length = 0
    · rw [if_pos c0] at h
      cases h
      have : r = [] := List.length_eq_zero_iff.1 c0
      subst this
      exact ⟨q, 0, hM, by simp, fun g => by rw [Nat.zero_add]⟩
    rw [if_neg c0] at h
    have hC : Co ts r := .inl (by omega)
    by_cases c1 : isT wRule r = true
    · rw [if_pos c1] at h
      by_cases c2 : acc.length = 40
      · rw [if_pos c2] at h; cases h
      rw [if_neg c2] at h
      cases hx : ruleR E r.tail with
      | error z => rw [hx] at h; cases h
      | ok z =>
        obtain ⟨u, r1⟩ := z
        rw [hx] at h
        dsimp only at h
        obtain ⟨q1, g1, M1, hl⟩ := ruleR_join (E' := E') (hM.tail hC) hx
        have hl' : r.tail.length = r.length - 1 := by simp
        obtain ⟨q2, k, M2, hk, hg⟩ := rulesR_first (E := E) (E' := E') f _ r1 q1 l M1 (by omega) h
        refine ⟨q2, k + 1, M2, by omega, fun g => ?_⟩
        rw [show k + 1 + g = (k + g) + 1 by omega, rulesR]
        have hq : ¬ q.length = 0 := fun e => by
          have : q = [] := List.length_eq_zero_iff.1 e
          subst this
          unfold Mo at hM
          have := congrArg List.length hM
          simp at this
          omega
        rw [if_neg hq, hM.isT hC, if_pos c1, if_neg c2, g1]
        exact hg g
    · rw [if_neg c1] at h; cases h
theorem rulesR_len {E : Nat} : ∀ (f : Nat) (acc : List Ru) (r : List Tk) (l : List Ru), rulesR E f acc r = .ok l → acc.length ≤ l.length
  | 0, _, _, _, h => by cases h; omega
  | f + 1, acc, r, l, h => by
    rw [rulesR] at h
    split at h
    · cases h; omega
    split at h
    · split at h
      · cases h
      · cases hx : ruleR E r.tail with
        | error z => rw [hx] at h; cases h
        | ok z =>
          rw [hx] at h
          have := rulesR_len f _ _ l h
          simp at this
          omega
    · cases h
theorem rulesR_second {E E' : Nat} (pre : List Ru) : ∀ (f : Nat) (acc : List Ru) (r q : List Tk) (l : List Ru), Mo [] r q → pre.length + l.length ≤ 40 → rulesR E f acc r = .ok l → rulesR E' f (pre ++ acc) q = .ok (pre ++ l)
  | 0, _, _, _, _, _, _, h => by cases h; rfl
  | f + 1, acc, r, q, l, hM, hl, h => by
    have hln := rulesR_len _ _ _ _ h
    rw [rulesR] at h ⊢
    have hq : q.length = r.length := by
      unfold Mo at hM
      have := congrArg List.length hM
      simpa using this
    rw [hq]
    have hC : Co ([] : List T1) r := .inr rfl
    by_cases c0 : r.length = 0
    · rw [if_pos c0] at h ⊢
      cases h; rfl
    rw [if_neg c0] at h ⊢
    rw [hM.isT hC]
    by_cases c1 : isT wRule r = true
    · rw [if_pos c1] at h ⊢
      by_cases c2 : acc.length = 40
      · rw [if_pos c2] at h; cases h
      rw [if_neg c2] at h
      cases hx : ruleR E r.tail with
      | error z => rw [hx] at h; cases h
      | ok z =>
        obtain ⟨u, r1⟩ := z
        rw [hx] at h
        dsimp only at h
        obtain ⟨q1, g1, M1, _⟩ := ruleR_join (E' := E') (hM.tail hC) hx
        have hln' := rulesR_len _ _ _ _ h
        simp at hln'
        rw [if_neg (by simp; omega), g1]
        dsimp only
        rw [List.append_assoc]
        exact rulesR_second (E := E) pre f _ r1 q1 l M1 hl h
    · rw [if_neg c1] at h; cases h
/-- The rules of tokens, with others behind them. -/
theorem rulesR_joined {E1 E2 E : Nat} {r1 r2 q : List Tk} {a b : List Ru} {f1 f2 g : Nat} (h1 : rulesR E1 f1 [] r1 = .ok a) (l1 : r1.length < f1) (h2 : rulesR E2 f2 [] r2 = .ok b) (l2 : r2.length < f2) (hq : q.map (fun p => p.1) = r1.map (fun p => p.1) ++ r2.map (fun p => p.1)) (hl : a.length + b.length ≤ 40) (hg : q.length < g) : rulesR E g [] q = .ok (a ++ b) := by
  obtain ⟨q2, k, M2, hk, hx⟩ := rulesR_first (E := E1) (E' := E) (ts := r2.map (fun p : Tk => p.1)) f1 [] r1 q a hq l1 h1
  have hlen := congrArg List.length hq
  simp at hlen
  have hM : Mo [] r2 q2 := by
    unfold Mo at *
    simpa using M2
  have hq2 : q2.length = r2.length := by
    unfold Mo at hM
    have := congrArg List.length hM
    simpa using this
  obtain ⟨g', rfl⟩ : ∃ g', g = k + g' := ⟨g - k, by omega⟩
  rw [hx g']
  obtain ⟨q3, k3, M3, hk3, hy⟩ := rulesR_first (E' := E2) (ts := []) f2 [] r2 r2 b (by unfold Mo; simp) l2 h2
  have h2' : rulesR E2 g' [] r2 = .ok b := by
    obtain ⟨g3, rfl⟩ : ∃ g3, g' = k3 + g3 := ⟨g' - k3, by omega⟩
    rw [hy g3]
    have : q3 = [] := by
      unfold Mo at M3
      simpa using M3
    subst this
    cases g3 with
    | zero => rfl
    | succ g3 => rw [rulesR]; rfl
  have := rulesR_second (E' := E) a g' [] r2 q2 b hM hl h2'
  simpa using this
end Lx
