/- The reader over the tokens of a text, sign by sign: plain. -/
import Derived.Test.YteheahhifihmjaaGreatDoorQa09
import Derived.Test.YteheahhifihmjaaGreatDoorQa10
namespace Go.Proofs.YteheahhifihmjaaGreatDoor
open Go.RowKit Lx

/-- These tokens, and the rest. -/
def Rs (ts : List T1) (q r : List Tk) : Prop := ∃ p : List Tk, p.map (fun x => x.1) = ts ∧ q = p ++ r
theorem Rs.nil {q r : List Tk} (h : Rs [] q r) : q = r := by
  obtain ⟨p, h1, rfl⟩ := h
  have : p = [] := by simpa using h1
  subst this; rfl
theorem Rs.cons {t : T1} {ts : List T1} {q r : List Tk} (h : Rs (t :: ts) q r) : ∃ k q', q = (t, k) :: q' ∧ Rs ts q' r := by
  obtain ⟨p, h1, rfl⟩ := h
  cases p with
  | nil => cases h1
  | cons x p =>
    obtain ⟨x1, x2⟩ := x
    simp only [List.map_cons, List.cons.injEq] at h1
    obtain ⟨rfl, h1⟩ := h1
    exact ⟨x2, p ++ r, rfl, p, h1, rfl⟩
theorem Rs.app : ∀ {ts us : List T1} {q r : List Tk}, Rs (ts ++ us) q r → ∃ q', Rs ts q q' ∧ Rs us q' r
  | [], _, q, _, h => ⟨q, ⟨[], rfl, rfl⟩, h⟩
  | t :: ts, us, q, r, h => by
    obtain ⟨k, q1, rfl, h1⟩ := Rs.cons h
    obtain ⟨q', ⟨p, p1, rfl⟩, h3⟩ := Rs.app h1
    exact ⟨q', ⟨(t, k) :: p, by simp [p1], rfl⟩, h3⟩
/-- The same, or too much, which may be where it is too deep. -/
def Or4 (h d : Nat) (e : Ex) (x y : Res) : Prop := x = y ∨ (h < d + hgt e ∧ ∃ at_, x = .error (4, at_))
/-- Tokens that are read as an expression, where a sum, a term or a factor may stand. -/
def K0 (e : Ex) (ts : List T1) (h : Nat) : Prop := ∀ (E d : Nat) (x : Ex) (q r : List Tk) (n : Nat), Rs ts q r → n + cnt e ≤ 600 → isT wAnd r = false → isT wShift r = false → Or4 h d e (rd E 0 d x q n) (rd E 1 d (bareE e) r (n + cnt e))
def K1 (e : Ex) (ts : List T1) (h : Nat) : Prop := ∀ (E d : Nat) (x : Ex) (q r : List Tk) (n : Nat), Rs ts q r → n + cnt e ≤ 600 → isT wShift r = false → Or4 h d e (rd E 2 d x q n) (rd E 3 d (bareE e) r (n + cnt e))
def K2 (e : Ex) (ts : List T1) (h : Nat) : Prop := ∀ (E d : Nat) (x : Ex) (q r : List Tk) (n : Nat), Rs ts q r → n + cnt e ≤ 600 → isT wShift r = false → Or4 h d e (rd E 4 d x q n) (rd E 5 d (bareE e) r (n + cnt e))
def K3 (e : Ex) (ts : List T1) (h : Nat) : Prop := ∀ (E d : Nat) (x : Ex) (q r : List Tk) (n : Nat), Rs ts q r → n + cnt e ≤ 600 → Or4 h d e (rd E 4 d x q n) (rd E 5 d (bareE e) r (n + cnt e))
theorem Or4.mono {h h' d : Nat} {e : Ex} {x y : Res} (H : Or4 h d e x y) (hh : h' ≤ h) : Or4 h' d e x y := by
  rcases H with H | ⟨H1, H2⟩
  · exact .inl H
  · exact .inr ⟨by omega, H2⟩
theorem K0.mono {e : Ex} {ts : List T1} {h h' : Nat} (H : K0 e ts h) (hh : h' ≤ h) : K0 e ts h' := fun E d x q r n a b c k => (H E d x q r n a b c k).mono hh
theorem K1.mono {e : Ex} {ts : List T1} {h h' : Nat} (H : K1 e ts h) (hh : h' ≤ h) : K1 e ts h' := fun E d x q r n a b c => (H E d x q r n a b c).mono hh
theorem K2.mono {e : Ex} {ts : List T1} {h h' : Nat} (H : K2 e ts h) (hh : h' ≤ h) : K2 e ts h' := fun E d x q r n a b c => (H E d x q r n a b c).mono hh
theorem K3.mono {e : Ex} {ts : List T1} {h h' : Nat} (H : K3 e ts h) (hh : h' ≤ h) : K3 e ts h' := fun E d x q r n a b => (H E d x q r n a b).mono hh
theorem rd1_stop {E d : Nat} {e : Ex} {r : List Tk} {n : Nat} (h1 : isT wPlus r = false) (h2 : isT wMinus r = false) : rd E 1 d e r n = .ok (e, r, n) := by
  rw [rd_1, if_neg (by rw [h1]; decide), if_neg (by rw [h2]; decide)]
theorem rd3_stop {E d : Nat} {e : Ex} {r : List Tk} {n : Nat} (h1 : isT wAnd r = false) : rd E 3 d e r n = .ok (e, r, n) := by
  rw [rd_3, if_neg (by rw [h1]; decide)]
theorem rd5_stop {E d : Nat} {e : Ex} {r : List Tk} {n : Nat} (h1 : isT wShift r = false) : rd E 5 d e r n = .ok (e, r, n) := by
  rw [rd_5, if_neg (by rw [h1]; decide)]
theorem ended_yes {E : Nat} {e : Ex} {r : List Tk} {n : Nat} (h : n + 1 ≤ 600) : endedP E e r n = .ok (e, r, n + 1) := by
  unfold endedP
  rw [if_neg (by omega)]
theorem isT_no {x : List UInt8} {t : T1} {k : Nat} {q : List Tk} (h : (t.text == x) = false) : ¬ isT x ((t, k) :: q) = true := by
  show ¬ (t.text == x) = true
  rw [h]; decide
theorem then_bad {x : Res} {z : Int × Nat} {f : Ex → List Tk → Nat → Res} (h : x = .error z) : andThen x f = .error z := by subst h; rfl
theorem K3.k2 {e : Ex} {ts : List T1} {h : Nat} (H : K3 e ts h) : K2 e ts h := fun E d x q r n a b _ => H E d x q r n a b
theorem K2.k1 {e : Ex} {ts : List T1} {h : Nat} (H : K2 e ts h) : K1 e ts h := fun E d x q r n a b c => by
  rw [rd_2]
  rcases H E d ex0 q r n a b c with H | ⟨H1, at_, H⟩
  · rw [H, rd5_stop c]
    exact .inl (then_mk rfl)
  · exact .inr ⟨H1, at_, then_bad H⟩
theorem K1.k0 {e : Ex} {ts : List T1} {h : Nat} (H : K1 e ts h) : K0 e ts h := fun E d x q r n a b c k => by
  rw [rd_0]
  rcases H E d ex0 q r n a b k with H | ⟨H1, at_, H⟩
  · rw [H, rd3_stop c]
    exact .inl (then_mk rfl)
  · exact .inr ⟨H1, at_, then_bad H⟩
/-- In brackets. -/
theorem K0.brackets {e : Ex} {ts : List T1} {h : Nat} (H : K0 e ts h) (hh : h ≤ 42) : K3 e (sgT 40 :: (ts ++ [sgT 41])) (h - 1) := fun E d x q r n a b => by
  obtain ⟨k, q1, rfl, a1⟩ := a.cons
  obtain ⟨q2, a2, a3⟩ := a1.app
  obtain ⟨k', q3, rfl, a4⟩ := a3.cons
  obtain rfl := a4.nil
  have hp := hgt_pos e
  rw [rd_4, rd_6]
  by_cases hd : 40 < d
  · rw [if_pos hd]
    exact .inr ⟨by omega, _, then_bad rfl⟩
  rw [if_neg hd, if_pos (show isT wOpen ((sgT 40, k) :: q1) = true from rfl)]
  simp only [List.tail_cons]
  rcases H E (d + 1) ex0 q1 _ n a2 b rfl rfl with H | ⟨H1, at_, H⟩
  · rw [H, rd1_stop rfl rfl]
    exact .inl rfl
  · exact .inr ⟨by omega, at_, by rw [H]; rfl⟩
theorem cnt_two {e k0 k1 : Ex} (h : e.kids = [k0, k1]) : cnt e = cnt k0 + cnt k1 + 1 := by rw [cnt_eq, h]; simp
theorem cnt_one {e k0 : Ex} (h : e.kids = [k0]) : cnt e = cnt k0 + 1 := by rw [cnt_eq, h]; simp
theorem cnt_none {e : Ex} (h : e.kids = []) : cnt e = 1 := by rw [cnt_eq, h]; simp
theorem k_plus {e k0 k1 : Ex} {t0 t1 : List T1} (hk : e.kind = 6) (he : e.kids = [k0, k1]) (h0 : K0 k0 t0 41) (h1 : K1 k1 t1 41) : K0 e (t0 ++ sgT 43 :: t1) 42 := fun E d x q r n a b hA hS => by
  obtain ⟨q1, a1, a2⟩ := a.app
  obtain ⟨p, q2, rfl, a3⟩ := a2.cons
  have hc := cnt_two he
  have g0 : hgt k0 < hgt e := hgt_kid (by rw [he]; simp)
  have g1 : hgt k1 < hgt e := hgt_kid (by rw [he]; simp)
  rcases h0 E d x q _ n a1 (by omega) rfl rfl with H | ⟨H1, at_, H⟩
  · rw [H, rd_1, if_pos (show isT wPlus ((sgT 43, p) :: q2) = true from rfl)]
    simp only [List.tail_cons]
    rcases h1 E d ex0 q2 r (n + cnt k0) a3 (by omega) hS with H' | ⟨H1, at_, H'⟩
    · rw [H', rd3_stop hA, then_mk rfl, ended_yes (by omega), then_mk rfl]
      refine .inl ?_
      rw [bareE_eq e, hk, he, show n + cnt k0 + cnt k1 + 1 = n + cnt e by omega]
      rfl
    · exact .inr ⟨by omega, at_, then_bad H'⟩
  · exact .inr ⟨by omega, at_, H⟩
theorem k_minus {e k0 k1 : Ex} {t0 t1 : List T1} (hk : e.kind = 7) (he : e.kids = [k0, k1]) (h0 : K0 k0 t0 41) (h1 : K1 k1 t1 41) : K0 e (t0 ++ sgT 45 :: t1) 42 := fun E d x q r n a b hA hS => by
  obtain ⟨q1, a1, a2⟩ := a.app
  obtain ⟨p, q2, rfl, a3⟩ := a2.cons
  have hc := cnt_two he
  have g0 : hgt k0 < hgt e := hgt_kid (by rw [he]; simp)
  have g1 : hgt k1 < hgt e := hgt_kid (by rw [he]; simp)
  rcases h0 E d x q _ n a1 (by omega) rfl rfl with H | ⟨H1, at_, H⟩
  · rw [H, rd_1, if_neg (isT_no (x := wPlus) (t := sgT 45) (by decide)), if_pos (show isT wMinus ((sgT 45, p) :: q2) = true from rfl)]
    simp only [List.tail_cons]
    rcases h1 E d ex0 q2 r (n + cnt k0) a3 (by omega) hS with H' | ⟨H1, at_, H'⟩
    · rw [H', rd3_stop hA, then_mk rfl, ended_yes (by omega), then_mk rfl]
      refine .inl ?_
      rw [bareE_eq e, hk, he, show n + cnt k0 + cnt k1 + 1 = n + cnt e by omega]
      rfl
    · exact .inr ⟨by omega, at_, then_bad H'⟩
  · exact .inr ⟨by omega, at_, H⟩
theorem k_both {e k0 k1 : Ex} {t0 t1 : List T1} (hk : e.kind = 8) (he : e.kids = [k0, k1]) (h0 : K1 k0 t0 41) (h1 : K2 k1 t1 41) : K1 e (t0 ++ sgT 38 :: t1) 42 := fun E d x q r n a b hS => by
  obtain ⟨q1, a1, a2⟩ := a.app
  obtain ⟨p, q2, rfl, a3⟩ := a2.cons
  have hc := cnt_two he
  have g0 : hgt k0 < hgt e := hgt_kid (by rw [he]; simp)
  have g1 : hgt k1 < hgt e := hgt_kid (by rw [he]; simp)
  rcases h0 E d x q _ n a1 (by omega) rfl with H | ⟨H1, at_, H⟩
  · rw [H, rd_3, if_pos (show isT wAnd ((sgT 38, p) :: q2) = true from rfl)]
    simp only [List.tail_cons]
    rcases h1 E d ex0 q2 r (n + cnt k0) a3 (by omega) hS with H' | ⟨H1, at_, H'⟩
    · rw [H', rd5_stop hS, then_mk rfl, ended_yes (by omega), then_mk rfl]
      refine .inl ?_
      rw [bareE_eq e, hk, he, show n + cnt k0 + cnt k1 + 1 = n + cnt e by omega]
      rfl
    · exact .inr ⟨by omega, at_, then_bad H'⟩
  · exact .inr ⟨by omega, at_, H⟩
/-- The tokens of a number with its sign. -/
def shTk (a : Int) : List T1 := if a < 0 then [sgT 45, nbT a.natAbs (Lib.decDigits a.natAbs).length] else [nbT a.toNat (Lib.decDigits a.toNat).length]
theorem k_shift {e k0 : Ex} {t0 : List T1} (hk : e.kind = 9) (he : e.kids = [k0]) (ha : e.a ≠ 0 ∧ -1440 < e.a ∧ e.a < 1440) (h0 : K3 k0 t0 40) : K3 e (t0 ++ wdT wShift :: shTk e.a) 41 := fun E d x q r n a b => by
  obtain ⟨q1, a1, a2⟩ := a.app
  obtain ⟨p, q2, rfl, a3⟩ := a2.cons
  have hc := cnt_one he
  have g0 : hgt k0 < hgt e := hgt_kid (by rw [he]; simp)
  rcases h0 E d x q _ n a1 (by omega) with H | ⟨H1, at_, H⟩
  · rw [H, rd_5, if_pos (show isT wShift ((wdT wShift, p) :: q2) = true from rfl)]
    refine .inl ?_
    unfold shTk at a3
    have eb : bareE e = ⟨9, e.a, 0, [], [bareE k0]⟩ := by rw [bareE_eq e, hk, he]; rfl
    by_cases hneg : e.a < 0
    · rw [if_pos hneg] at a3
      obtain ⟨p1, q3, rfl, a4⟩ := a3.cons
      obtain ⟨p2, q4, rfl, a5⟩ := a4.cons
      obtain rfl := a5.nil
      have es : shiftAt ((wdT wShift, p) :: (sgT 45, p1) :: (nbT e.a.natAbs (Lib.decDigits e.a.natAbs).length, p2) :: q4) = (nbT e.a.natAbs (Lib.decDigits e.a.natAbs).length, p2) :: q4 := rfl
      have em : isT wMinus ((wdT wShift, p) :: (sgT 45, p1) :: (nbT e.a.natAbs (Lib.decDigits e.a.natAbs).length, p2) :: q4).tail = true := rfl
      rw [es, em, if_neg (show ¬ kindP ((nbT e.a.natAbs (Lib.decDigits e.a.natAbs).length, p2) :: q4) ≠ 6 from fun h => h rfl)]
      have en : numP ((nbT e.a.natAbs (Lib.decDigits e.a.natAbs).length, p2) :: q4) = (e.a.natAbs : Int) := rfl
      rw [en, if_neg (by omega), if_pos rfl, ended_yes (by omega), then_mk rfl]
      rw [eb, show -(e.a.natAbs : Int) = e.a by omega, show n + cnt k0 + 1 = n + cnt e by omega]
      rfl
    · rw [if_neg hneg] at a3
      obtain ⟨p2, q4, rfl, a5⟩ := a3.cons
      obtain rfl := a5.nil
      have es : shiftAt ((wdT wShift, p) :: (nbT e.a.toNat (Lib.decDigits e.a.toNat).length, p2) :: q4) = (nbT e.a.toNat (Lib.decDigits e.a.toNat).length, p2) :: q4 := rfl
      have em : isT wMinus ((wdT wShift, p) :: (nbT e.a.toNat (Lib.decDigits e.a.toNat).length, p2) :: q4).tail = false := rfl
      rw [es, em, if_neg (show ¬ kindP ((nbT e.a.toNat (Lib.decDigits e.a.toNat).length, p2) :: q4) ≠ 6 from fun h => h rfl)]
      have en : numP ((nbT e.a.toNat (Lib.decDigits e.a.toNat).length, p2) :: q4) = (e.a.toNat : Int) := rfl
      rw [en, if_neg (by omega), if_neg (by decide), ended_yes (by omega), then_mk rfl]
      rw [eb, show (e.a.toNat : Int) = e.a by omega, show n + cnt k0 + 1 = n + cnt e by omega]
      rfl
  · exact .inr ⟨by omega, at_, H⟩
/-- Behind a guard's colon. -/
theorem rd8_kid {E d n : Nat} {e k0 g : Ex} {t0 : List T1} {q r : List Tk} {p : Nat} (he : e.kids = [k0]) (h0 : K2 k0 t0 41) (a : Rs t0 q r) (b : n + cnt e ≤ 600) (hS : isT wShift r = false) (hg : (⟨g.kind, g.a, g.b, [], [bareE k0]⟩ : Ex) = bareE e) :
    Or4 41 d e (rd E 8 d g ((sgT 58, p) :: q) n) (.ok (bareE e, r, n + cnt e)) := by
  have hc := cnt_one he
  have g0 : hgt k0 < hgt e := hgt_kid (by rw [he]; simp)
  rw [rd_8, if_pos (show isT wColon ((sgT 58, p) :: q) = true from rfl)]
  simp only [List.tail_cons]
  rcases h0 E (d + 1) ex0 q r n a (by omega) hS with H | ⟨H1, at_, H⟩
  · rw [H, rd5_stop hS, then_mk rfl, ended_yes (by omega), hg, show n + cnt k0 + 1 = n + cnt e by omega]
    exact .inl rfl
  · exact .inr ⟨by omega, at_, then_bad H⟩
theorem day_bit : ∀ x ∈ wDays, dayBit x ≠ 0 := by decide
theorem rd7_days {E d n p : Nat} {q' : List Tk} : ∀ (l : List (List UInt8)), l ≠ [] → (∀ x ∈ l, x ∈ wDays) → ∀ (q : List Tk) (s : Nat), Rs (daysTk l) q ((sgT 58, p) :: q') →
    rd E 7 d ⟨0, (s : Int), 0, [], []⟩ q n = rd E 8 d ⟨4, ((l.foldl (fun s x => s ||| dayBit x) s : Nat) : Int), 0, [], []⟩ ((sgT 58, p) :: q') n
  | [], h, _, _, _, _ => absurd rfl h
  | [x], _, hx, q, s, a => by
    obtain ⟨k, q1, rfl, a1⟩ := Rs.cons a
    obtain rfl := a1.nil
    have hb := day_bit x (hx x List.mem_cons_self)
    rw [rd_7, if_neg (show ¬ dayBit (textP ((wdT x, k) :: (sgT 58, p) :: q')) = 0 from hb), if_neg (show ¬ isT wComma ((wdT x, k) :: (sgT 58, p) :: q').tail = true from isT_no (t := sgT 58) (by decide))]
    rfl
  | x :: y :: l, _, hx, q, s, a => by
    obtain ⟨k, q1, rfl, a1⟩ := Rs.cons a
    obtain ⟨k', q2, rfl, a2⟩ := a1.cons
    have hb := day_bit x (hx x List.mem_cons_self)
    rw [rd_7, if_neg (show ¬ dayBit (textP ((wdT x, k) :: (sgT 44, k') :: q2)) = 0 from hb), if_pos (show isT wComma ((wdT x, k) :: (sgT 44, k') :: q2).tail = true from rfl)]
    exact rd7_days (y :: l) (by simp) (fun z hz => hx z (List.mem_cons_of_mem _ hz)) q2 (s ||| dayBit x) a2
theorem k_week {e k0 : Ex} {t0 : List T1} (hk : e.kind = 4) (he : e.kids = [k0]) (ha : 1 ≤ e.a ∧ e.a < 128) (h0 : K2 k0 t0 41) : K2 e (wdT wWeekly :: (daysTk (daysUp e.a 7) ++ sgT 58 :: t0)) 41 := fun E d x q r n a b hS => by
  obtain ⟨k, q1, rfl, a1⟩ := a.cons
  obtain ⟨q2, a2, a3⟩ := a1.app
  obtain ⟨p, q3, rfl, a4⟩ := a3.cons
  have hp := hgt_pos e
  obtain ⟨d1, d2, d3⟩ := daysUp_ok ha.1 ha.2
  rw [rd_4, rd_6]
  by_cases hd : 40 < d
  · rw [if_pos hd]
    exact .inr ⟨by omega, _, then_bad rfl⟩
  rw [if_neg hd, if_neg (isT_no (x := wOpen) (t := wdT wWeekly) (by decide)), if_neg (isT_no (x := wNever) (t := wdT wWeekly) (by decide)), if_neg (isT_no (x := wAlways) (t := wdT wWeekly) (by decide)), if_pos (show isT wWeekly ((wdT wWeekly, k) :: q1) = true from rfl)]
  simp only [List.tail_cons]
  have h7 := rd7_days (E := E) (d := d) (n := n) (daysUp e.a 7) d2 d1 q1 0 a2
  rw [d3] at h7
  have h7' : rd E 7 d ex0 q1 n = rd E 8 d ⟨4, ((e.a.toNat : Nat) : Int), 0, [], []⟩ ((sgT 58, p) :: q3) n := h7
  rw [h7']
  rcases rd8_kid (E := E) (d := d) (g := ⟨4, ((e.a.toNat : Nat) : Int), 0, [], []⟩) (p := p) he h0 a4 b hS (by rw [bareE_eq e, hk, he, show ((e.a.toNat : Nat) : Int) = e.a by omega]; rfl) with H | ⟨H1, at_, H⟩
  · rw [H]
    exact .inl rfl
  · exact .inr ⟨H1, at_, then_bad H⟩
/-- The tokens of dates. -/
def dsTk (a b : Int) : List T1 := if a = b then [dtT a] else [dtT a, toT, dtT b]
theorem rd6_dates {E d : Nat} {e : Ex} {r : List Tk} {n : Nat} (hd : ¬ 40 < d) (h1 : ¬ isT wOpen r = true) (h2 : ¬ isT wNever r = true) (h3 : ¬ isT wAlways r = true) (h4 : ¬ isT wWeekly r = true) (h5 : isT wDates r = true) (hk : ¬ kindP r.tail ≠ 5) :
    rd E 6 d e r n = if isT wTo r.tail.tail then
        if kindP r.tail.tail.tail ≠ 5 then failP E 2 r.tail.tail.tail
        else if numP r.tail.tail.tail < numP r.tail then failP E 3 r.tail.tail.tail
        else rd E 8 d ⟨5, numP r.tail, numP r.tail.tail.tail, [], []⟩ r.tail.tail.tail.tail n
      else rd E 8 d ⟨5, numP r.tail, numP r.tail, [], []⟩ r.tail.tail n := by
  rw [rd_6, if_neg hd, if_neg h1, if_neg h2, if_neg h3, if_neg h4, if_pos h5, if_neg hk]
theorem rd6_one {E d : Nat} {e : Ex} {r : List Tk} {n : Nat} (hd : ¬ 40 < d) (h1 : ¬ isT wOpen r = true) (h2 : ¬ isT wNever r = true) (h3 : ¬ isT wAlways r = true) (h4 : ¬ isT wWeekly r = true) (h5 : isT wDates r = true) (hk : ¬ kindP r.tail ≠ 5) (ht : ¬ isT wTo r.tail.tail = true) :
    rd E 6 d e r n = rd E 8 d ⟨5, numP r.tail, numP r.tail, [], []⟩ r.tail.tail n := by
  rw [rd6_dates hd h1 h2 h3 h4 h5 hk, if_neg ht]
theorem rd6_two {E d : Nat} {e : Ex} {r : List Tk} {n : Nat} (hd : ¬ 40 < d) (h1 : ¬ isT wOpen r = true) (h2 : ¬ isT wNever r = true) (h3 : ¬ isT wAlways r = true) (h4 : ¬ isT wWeekly r = true) (h5 : isT wDates r = true) (hk : ¬ kindP r.tail ≠ 5) (ht : isT wTo r.tail.tail = true) (hk2 : ¬ kindP r.tail.tail.tail ≠ 5) (hn : ¬ numP r.tail.tail.tail < numP r.tail) :
    rd E 6 d e r n = rd E 8 d ⟨5, numP r.tail, numP r.tail.tail.tail, [], []⟩ r.tail.tail.tail.tail n := by
  rw [rd6_dates hd h1 h2 h3 h4 h5 hk, if_pos ht, if_neg hk2, if_neg hn]
theorem k_dates {e k0 : Ex} {t0 : List T1} (hk : e.kind = 5) (he : e.kids = [k0]) (ha : e.a ≤ e.b) (h0 : K2 k0 t0 41) : K2 e (wdT wDates :: (dsTk e.a e.b ++ sgT 58 :: t0)) 41 := fun E d x q r n a b hS => by
  obtain ⟨k, q1, rfl, a1⟩ := a.cons
  obtain ⟨q2, a2, a3⟩ := a1.app
  obtain ⟨p, q3, rfl, a4⟩ := a3.cons
  have hp := hgt_pos e
  by_cases hd : 40 < d
  · rw [rd_4, rd_6, if_pos hd]
    exact .inr ⟨by omega, _, then_bad rfl⟩
  have h1 := isT_no (x := wOpen) (t := wdT wDates) (k := k) (q := q1) (by decide)
  have h2 := isT_no (x := wNever) (t := wdT wDates) (k := k) (q := q1) (by decide)
  have h3 := isT_no (x := wAlways) (t := wdT wDates) (k := k) (q := q1) (by decide)
  have h4 := isT_no (x := wWeekly) (t := wdT wDates) (k := k) (q := q1) (by decide)
  have h5 : isT wDates ((wdT wDates, k) :: q1) = true := rfl
  have key : rd E 6 d ex0 ((wdT wDates, k) :: q1) n = rd E 8 d ⟨5, e.a, e.b, [], []⟩ ((sgT 58, p) :: q3) n := by
    unfold dsTk at a2
    by_cases hab : e.a = e.b
    · rw [if_pos hab] at a2
      obtain ⟨k1, q4, rfl, a5⟩ := a2.cons
      obtain rfl := a5.nil
      refine (rd6_one hd h1 h2 h3 h4 h5 (fun h => h rfl) (isT_no (x := wTo) (t := sgT 58) (by decide))).trans ?_
      rw [← hab]; rfl
    · rw [if_neg hab] at a2
      obtain ⟨k1, q4, rfl, a5⟩ := a2.cons
      obtain ⟨k2, q5, rfl, a6⟩ := a5.cons
      obtain ⟨k3, q6, rfl, a7⟩ := a6.cons
      obtain rfl := a7.nil
      exact (rd6_two hd h1 h2 h3 h4 h5 (fun h => h rfl) rfl (fun h => h rfl) (by show ¬ (e.b < e.a); omega)).trans rfl
  rw [rd_4, key]
  rcases rd8_kid (E := E) (d := d) (g := ⟨5, e.a, e.b, [], []⟩) (p := p) he h0 a4 b hS (by rw [bareE_eq e, hk, he]; rfl) with H | ⟨H1, at_, H⟩
  · rw [H]
    exact .inl rfl
  · exact .inr ⟨H1, at_, then_bad H⟩
/-- What has no kids. -/
theorem k_leaf {e : Ex} {ts : List T1} (he : e.kids = []) (h6 : ∀ (E d : Nat) (q r : List Tk) (n : Nat), ¬ 40 < d → n + 1 ≤ 600 → Rs ts q r → rd E 6 d ex0 q n = .ok (bareE e, r, n + 1)) : K3 e ts 41 := fun E d x q r n a b => by
  have hp := hgt_pos e
  have hc := cnt_none he
  rw [rd_4]
  by_cases hd : 40 < d
  · rw [rd_6, if_pos hd]
    exact .inr ⟨by omega, _, then_bad rfl⟩
  rw [h6 E d q r n hd (by omega) a, hc]
  exact .inl rfl
theorem k_never {e : Ex} (hk : e.kind = 1) (he : e.kids = []) : K3 e [wdT wNever] 41 := k_leaf he fun E d q r n hd hn a => by
  obtain ⟨k, q1, rfl, a1⟩ := a.cons
  obtain rfl := a1.nil
  rw [rd_6, if_neg hd, if_neg (isT_no (x := wOpen) (t := wdT wNever) (by decide)), if_pos (show isT wNever ((wdT wNever, k) :: q1) = true from rfl), ended_yes hn, bareE_eq e, hk, he]
  rfl
theorem k_always {e : Ex} (hk : e.kind = 2) (he : e.kids = []) : K3 e [wdT wAlways] 41 := k_leaf he fun E d q r n hd hn a => by
  obtain ⟨k, q1, rfl, a1⟩ := a.cons
  obtain rfl := a1.nil
  rw [rd_6, if_neg hd, if_neg (isT_no (x := wOpen) (t := wdT wAlways) (by decide)), if_neg (isT_no (x := wNever) (t := wdT wAlways) (by decide)), if_pos (show isT wAlways ((wdT wAlways, k) :: q1) = true from rfl), ended_yes hn, bareE_eq e, hk, he]
  rfl
theorem rd6_span {E d : Nat} {e : Ex} {r : List Tk} {n : Nat} (hd : ¬ 40 < d) (h1 : ¬ isT wOpen r = true) (h2 : ¬ isT wNever r = true) (h3 : ¬ isT wAlways r = true) (h4 : ¬ isT wWeekly r = true) (h5 : ¬ isT wDates r = true) (k1 : ¬ kindP r = 1) (k2 : ¬ kindP r ≠ 4) (hm : isT wMinus r.tail = true) (k3 : ¬ kindP r.tail.tail ≠ 4) (hn : ¬ numP r.tail.tail < numP r + 1) :
    rd E 6 d e r n = endedP E ⟨3, numP r, numP r.tail.tail, [], []⟩ r.tail.tail.tail n := by
  rw [rd_6, if_neg hd, if_neg h1, if_neg h2, if_neg h3, if_neg h4, if_neg h5, if_neg k1, if_neg k2, if_pos hm, if_neg k3, if_neg hn]
theorem k_span {e : Ex} (hk : e.kind = 3) (he : e.kids = []) (hab : e.a < e.b) : K3 e [tmT e.a, sgT 45, tmT e.b] 41 := k_leaf he fun E d q r n hd hn a => by
  obtain ⟨k, q1, rfl, a1⟩ := a.cons
  obtain ⟨k1, q2, rfl, a2⟩ := a1.cons
  obtain ⟨k2, q3, rfl, a3⟩ := a2.cons
  obtain rfl := a3.nil
  have t0 : ∀ x : List UInt8, x ≠ [] → ¬ isT x ((tmT e.a, k) :: (sgT 45, k1) :: (tmT e.b, k2) :: q3) = true := fun x hx h => by
    have : ([] : List UInt8) = x := by simpa [isT, textP, tmT] using h
    exact hx this.symm
  refine (rd6_span hd (t0 _ (by decide)) (t0 _ (by decide)) (t0 _ (by decide)) (t0 _ (by decide)) (t0 _ (by decide)) (show ¬ (4 : Int) = 1 by decide) (fun h => h rfl) rfl (fun h => h rfl) (show ¬ (e.b < e.a + 1) by omega)).trans ?_
  refine (ended_yes hn).trans ?_
  rw [bareE_eq e, hk, he]
  rfl
theorem named_no {x : List UInt8} (h : namedL x = true) : ∀ w ∈ wordsL, x ≠ w := fun w hw e => by
  have := (named_word h).2.2.2
  subst e
  unfold isWordL at this
  rw [List.any_eq_false] at this
  exact this x hw (by simp)
theorem named_open {x : List UInt8} (h : namedL x = true) : x ≠ [40] := fun e => by
  subst e
  exact absurd h (by decide)
theorem k_name {e : Ex} (hk : e.kind = 10) (he : e.kids = []) (hn : namedL e.name = true) : K3 e [nmT e.name] 41 := k_leaf he fun E d q r n hd hn' a => by
  obtain ⟨k, q1, rfl, a1⟩ := a.cons
  obtain rfl := a1.nil
  have t0 : ∀ x : List UInt8, e.name ≠ x → ¬ isT x ((nmT e.name, k) :: q1) = true := fun x hx h => hx (by simpa [isT, textP, nmT] using h)
  have hw := named_no hn
  rw [rd_6, if_neg hd, if_neg (t0 wOpen (named_open hn)), if_neg (t0 wNever (hw _ (by decide))), if_neg (t0 wAlways (hw _ (by decide))), if_neg (t0 wWeekly (hw _ (by decide))), if_neg (t0 wDates (hw _ (by decide))),
    if_pos (show kindP ((nmT e.name, k) :: q1) = 1 from rfl), ended_yes hn', bareE_eq e, hk, he]
  rfl
end Go.Proofs.YteheahhifihmjaaGreatDoor
