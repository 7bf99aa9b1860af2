/- The tokens that a text goes through, from its start on, piece by piece: plain. -/
import Derived.Test.YteheahhifihmjaaGreatDoorQa05
import Derived.Test.YteheahhifihmjaaGreatDoorQa08
namespace Go.Proofs.YteheahhifihmjaaGreatDoor
open Go.RowKit Lx

/-- A text without what is skipped at its start. -/
def skp (l : List UInt8) : List UInt8 := l.drop (skipS false l)
/-- From one text to another one these tokens are met. -/
def Goes : List T1 → List UInt8 → List UInt8 → Prop
  | [], l, l' => l = l'
  | t :: ts, l, l' => 0 < l.length ∧ firstT l = t ∧ t.err = 0 ∧ Goes ts (skp (l.drop t.len)) l'
theorem Goes.trans : ∀ {ts us : List T1} {l m n : List UInt8}, Goes ts l m → Goes us m n → Goes (ts ++ us) l n
  | [], _, _, _, _, h, g => by
    have e : _ = _ := h
    subst e
    exact g
  | _ :: _, _, _, _, _, ⟨a, b, c, d⟩, g => ⟨a, b, c, Goes.trans d g⟩
/-- The tokens, with their places. -/
theorem goes_lexed {l : List UInt8} : ∀ (ts : List T1) {pre : List (T1 × Nat)} {k : Nat}, Lexed l pre k → Goes ts (l.drop k) [] → ∃ us k', Lexed l (pre ++ us) k' ∧ us.map (fun p => p.1) = ts ∧ ¬ k' < l.length
  | [], pre, k, h, g => by
    have e : l.drop k = [] := g
    have := congrArg List.length e
    simp at this
    exact ⟨[], k, by simpa using h, rfl, by omega⟩
  | t :: ts, pre, k, h, ⟨g1, g2, g3, g4⟩ => by
    simp only [List.length_drop] at g1
    have s := h.step (by omega) (by rw [g2]; exact g3)
    rw [g2] at s
    unfold skp at g4
    rw [List.drop_drop, List.drop_drop, List.drop_drop, ← Nat.add_assoc] at g4
    obtain ⟨us, k', h1, h2, h3⟩ := goes_lexed ts s g4
    exact ⟨(t, k) :: us, k', by simpa using h1, by simp [h2], h3⟩
theorem goes_all {l : List UInt8} {ts : List T1} (h : Goes ts (skp l) []) : ∃ us k, Lexed l us k ∧ us.map (fun p => p.1) = ts ∧ ¬ k < l.length := by
  have s := Lexed.start (l := l)
  simp only [List.drop_zero, Nat.zero_add] at s
  obtain ⟨us, k, h1, h2, h3⟩ := goes_lexed ts s h
  exact ⟨us, k, by simpa using h1, h2, h3⟩
/-- A text that begins with something. -/
def Starts (l : List UInt8) : Prop := ∃ c r, l = c :: r ∧ c.toNat ≠ 32 ∧ c.toNat ≠ 9 ∧ c.toNat ≠ 10 ∧ c.toNat ≠ 35
theorem Starts.app {l : List UInt8} (h : Starts l) (r : List UInt8) : Starts (l ++ r) := by
  obtain ⟨c, q, rfl, h⟩ := h
  exact ⟨c, q ++ r, rfl, h⟩
theorem skp_starts {l : List UInt8} (h : Starts l) : skp l = l := by
  obtain ⟨c, r, rfl, h1, h2, h3, h4⟩ := h
  simp [skp, skipS, h1, h2, h3, h4]
theorem skp_blank (r : List UInt8) : skp (32 :: r) = skp r := by simp [skp, skipS]
theorem skp_lf (r : List UInt8) : skp (10 :: r) = skp r := by simp [skp, skipS]
theorem skp_nil : skp [] = [] := rfl
/-- What stands behind an expression: a blank, a bracket or a semicolon. -/
def Ends (r : List UInt8) : Prop := ∃ c q, r = c :: q ∧ (c = 32 ∨ c = 41 ∨ c = 59)

def sgT (c : UInt8) : T1 := ⟨3, 0, [c], 1, 0⟩
def toT : T1 := ⟨3, 0, [46, 46], 2, 0⟩
def wdT (x : List UInt8) : T1 := ⟨2, 0, x, x.length, 0⟩
def nmT (x : List UInt8) : T1 := ⟨1, 0, x, x.length, 0⟩
def tmT (n : Int) : T1 := ⟨4, n, [], 5, 0⟩
def dtT (n : Int) : T1 := ⟨5, n, [], 10, 0⟩
def nbT (n : Int) (k : Nat) : T1 := ⟨6, n, [], k, 0⟩

theorem fits_head {c : UInt8} {r m : List UInt8} (hm : 0 < m.length) (h48 : (m.getD 0 0).toNat = 48) (hc : isD c = false) : fitsL (c :: r) m = false := fitsL_no 0 hm (by unfold okB; rw [if_pos h48]; simpa using hc)
theorem goes_one {t : T1} {l r : List UInt8} (h0 : 0 < l.length) (h1 : firstT l = t) (h2 : t.err = 0) (h3 : l.drop t.len = r) : Goes [t] l (skp r) := ⟨h0, h1, h2, by rw [h3]; rfl⟩
theorem first_nodig {c : UInt8} {r : List UInt8} (hc : isD c = false) : firstT (c :: r) = if isL c then wordT (c :: r) else signT (c :: r) := by
  unfold firstT
  rw [fits_head (by decide) (by decide) hc, fits_head (by decide) (by decide) hc]
  simp [hc]
theorem goes_sign {c : UInt8} (r : List UInt8) (hD : isD c = false) (hL : isL c = false) (h46 : c ≠ 46) (hi : ¬ Lib.indexByte signsL c < 0) : Goes [sgT c] (c :: r) (skp r) := by
  refine goes_one (by simp) ?_ rfl rfl
  rw [first_nodig hD, hL]
  unfold signT
  have hp : Lib.hasPrefix (c :: r) [46, 46] = false := by
    unfold Lib.hasPrefix
    simp [List.isPrefixOf, Ne.symm h46]
  rw [hp]
  simp only [List.getD_cons_zero]
  simp [hi, sgT]
theorem goes_to (r : List UInt8) : Goes [toT] (46 :: 46 :: r) (skp r) := by
  refine goes_one (by simp) ?_ rfl rfl
  rw [first_nodig (by decide)]
  rw [show isL 46 = false by decide]
  unfold signT
  have hp : Lib.hasPrefix (46 :: 46 :: r) [46, 46] = true := by
    unfold Lib.hasPrefix
    simp [List.isPrefixOf]
  rw [hp]; rfl
theorem runOf_app {p : UInt8 → Bool} {r : List UInt8} (hr : ∀ c q, r = c :: q → p c = false) : ∀ y : List UInt8, runOf p y = y.length → runOf p (y ++ r) = y.length
  | [], _ => by
    cases r with
    | nil => rfl
    | cons c q => simp [runOf, hr c q rfl]
  | c :: y, h => by
    simp only [runOf] at h
    split at h
    · rename_i hc
      have := runOf_app hr y (by simpa using h)
      simp [runOf, hc, this]
    · simp at h
theorem word_app {x r : List UInt8} (hx : wordLen x = x.length) (h0 : x ≠ []) (hr : ∀ c q, r = c :: q → isC c = false) : wordLen (x ++ r) = x.length ∧ isL (x.getD 0 0) = true := by
  cases x with
  | nil => exact absurd rfl h0
  | cons c y =>
    simp only [wordLen] at hx
    split at hx
    · rename_i hc
      have := runOf_app hr y (by simpa using hx)
      simp [wordLen, hc, this]
    · simp at hx
theorem isL_noD {c : UInt8} (h : isL c = true) : isD c = false := by
  unfold isL isD at *
  simp at h ⊢
  omega
theorem goes_word {x r : List UInt8} (hx : wordLen x = x.length) (h0 : x ≠ []) (h20 : x.length ≤ 20) (hr : ∀ c q, r = c :: q → isC c = false) : Goes [⟨if isWordL x then 2 else 1, 0, x, x.length, 0⟩] (x ++ r) (skp r) := by
  obtain ⟨h1, h2⟩ := word_app hx h0 hr
  cases x with
  | nil => exact absurd rfl h0
  | cons c y =>
    have hc : isL c = true := by simpa using h2
    refine goes_one (by simp) ?_ rfl (by simp)
    rw [List.cons_append, first_nodig (isL_noD hc), hc, if_pos rfl]
    unfold wordT
    rw [← List.cons_append, h1, if_neg (by omega)]
    simp
/-- What stands behind a word. -/
theorem ends_noC {r : List UInt8} (h : Ends r) : ∀ c q, r = c :: q → isC c = false := by
  rintro c q rfl
  obtain ⟨c', q', e, h⟩ := h
  cases e
  rcases h with rfl | rfl | rfl <;> decide
theorem named_word {x : List UInt8} (h : namedL x = true) : wordLen x = x.length ∧ x ≠ [] ∧ x.length ≤ 20 ∧ isWordL x = false := by
  unfold namedL at h
  simp at h
  exact ⟨h.2.2.1, fun e => h.1 e, h.2.1, h.2.2.2⟩
theorem goes_name {x r : List UInt8} (h : namedL x = true) (hr : ∀ c q, r = c :: q → isC c = false) : Goes [nmT x] (x ++ r) (skp r) := by
  obtain ⟨h1, h2, h3, h4⟩ := named_word h
  have := goes_word h1 h2 h3 hr
  rw [h4] at this
  exact this
theorem goes_wd {x r : List UInt8} (h1 : wordLen x = x.length) (h2 : x ≠ []) (h3 : x.length ≤ 20) (h4 : isWordL x = true) (hr : ∀ c q, r = c :: q → isC c = false) : Goes [wdT x] (x ++ r) (skp r) := by
  have := goes_word h1 h2 h3 hr
  rw [h4] at this
  exact this
theorem blank_noC (q : List UInt8) : ∀ c r, (32 :: q : List UInt8) = c :: r → isC c = false := by
  rintro c r h; cases h; decide
theorem Starts.word {x : List UInt8} (hx : wordLen x = x.length) (h0 : x ≠ []) : Starts x := by
  cases x with
  | nil => exact absurd rfl h0
  | cons c y =>
    have h := (word_app (r := []) hx h0 (by rintro c q h; cases h)).2
    have hc : isL c = true := by simpa using h
    unfold isL at hc
    simp at hc
    exact ⟨c, y, rfl, by omega, by omega, by omega, by omega⟩
end Go.Proofs.YteheahhifihmjaaGreatDoor

/- The tokens of times, dates, numbers and days of the week: plain. -/
namespace Go.Proofs.YteheahhifihmjaaGreatDoor
open Go.RowKit Lx

theorem dig_nat {k : Nat} (h : k ≤ 9) : (UInt8.ofNat (48 + k)).toNat = 48 + k := by
  rw [UInt8.toNat_ofNat']
  omega
theorem dig_isD {k : Nat} (h : k ≤ 9) : isD (UInt8.ofNat (48 + k)) = true := by
  unfold isD
  rw [dig_nat h]
  simp; omega
theorem val_two {a b : Nat} (ha : a ≤ 9) (hb : b ≤ 9) : valL [UInt8.ofNat (48 + a), UInt8.ofNat (48 + b)] = 10 * (a : Int) + b := by
  simp only [valL, List.foldl_cons, List.foldl_nil, dig_nat ha, dig_nat hb]
  omega
theorem val_pad {n : Nat} (h : n ≤ 99) : valL (pad2 n) = n := by
  unfold pad2
  rw [val_two (by omega) (by omega)]
  omega
theorem fits5 {a b c d e : UInt8} {r : List UInt8} (ha : isD a = true) (hb : isD b = true) (hc : c = 58) (hd : isD d = true) (he : isD e = true) : fitsL (a :: b :: c :: d :: e :: r) timeF = true := by
  subst hc
  refine fitsL_yes (by simp [timeF]) fun i hi => ?_
  have hi : i < 5 := hi
  match i, hi with
  | 0, _ => simpa [timeF, okB] using ha
  | 1, _ => simpa [timeF, okB] using hb
  | 2, _ => simp [timeF, okB]
  | 3, _ => simpa [timeF, okB] using hd
  | 4, _ => simpa [timeF, okB] using he
theorem goes_time {a : Int} (h0 : 0 ≤ a) (h1 : a ≤ 1440) (r : List UInt8) : Goes [tmT a] (clockL a ++ r) (skp r) := by
  refine goes_one (by simp [clockL, pad2]) ?_ rfl (by simp [clockL, pad2, tmT])
  have e : clockL a ++ r = UInt8.ofNat (48 + a.toNat / 60 / 10) :: UInt8.ofNat (48 + a.toNat / 60 % 10) :: 58 :: UInt8.ofNat (48 + a.toNat % 60 / 10) :: UInt8.ofNat (48 + a.toNat % 60 % 10) :: r := by simp [clockL, pad2]
  have hf := fits5 (r := r) (dig_isD (k := a.toNat / 60 / 10) (by omega)) (dig_isD (k := a.toNat / 60 % 10) (by omega)) rfl (dig_isD (k := a.toNat % 60 / 10) (by omega)) (dig_isD (k := a.toNat % 60 % 10) (by omega))
  rw [← e] at hf
  unfold firstT
  have hn : fitsL (clockL a ++ r) dateF = false := fitsL_no 2 (by decide) (by rw [e]; simp only [List.getD_cons_succ, List.getD_cons_zero]; decide)
  rw [hn, hf]
  have v1 : valL (((clockL a ++ r).drop 0).take 2) = ((a.toNat / 60 : Nat) : Int) := by
    rw [e]
    show valL [_, _] = _
    rw [val_two (by omega) (by omega)]
    omega
  have v2 : valL (((clockL a ++ r).drop 3).take 2) = ((a.toNat % 60 : Nat) : Int) := by
    rw [e]
    show valL [_, _] = _
    rw [val_two (by omega) (by omega)]
    omega
  unfold timeT
  rw [v1, v2, if_neg (by simp), if_pos rfl, if_neg (by omega)]
  unfold tmT
  congr 1
  omega
theorem dec_val : ∀ (N u : Nat), u ≤ N → valL (Lib.decDigits u) = (u : Int) ∧ ∀ c ∈ Lib.decDigits u, isD c = true
  | N, u, hN => by
    by_cases h : u < 10
    · rw [Lib.decDigits_one h]
      refine ⟨?_, ?_⟩
      · simp only [valL, List.foldl_cons, List.foldl_nil, dig_nat (show u ≤ 9 by omega)]
        omega
      · intro c hc
        rw [List.mem_singleton.1 hc]
        exact dig_isD (by omega)
    · match N with
      | 0 => omega
      | N + 1 =>
        obtain ⟨i1, i2⟩ := dec_val N (u / 10) (by omega)
        rw [Lib.decDigits, dif_neg h]
        refine ⟨?_, ?_⟩
        · rw [valL_snoc, i1, dig_nat (by omega)]
          omega
        · intro c hc
          rcases List.mem_append.1 hc with hc | hc
          · exact i2 c hc
          · rw [List.mem_singleton.1 hc]
            exact dig_isD (by omega)
theorem run_digs {r : List UInt8} (hr : ∀ c q, r = c :: q → isD c = false) : ∀ x : List UInt8, (∀ c ∈ x, isD c = true) → runOf isD (x ++ r) = x.length
  | [], _ => by
    cases r with
    | nil => rfl
    | cons c q => simp [runOf, hr c q rfl]
  | c :: x, h => by
    have := run_digs hr x fun c hc => h c (List.mem_cons_of_mem _ hc)
    simp [runOf, h c List.mem_cons_self, this]
theorem fits_num {x : List UInt8} {c : UInt8} {q : List UInt8} (hx : ∀ c ∈ x, isD c = true) (h1 : 1 ≤ x.length) (h4 : x.length ≤ 4) (hc : c = 32 ∨ c = 41 ∨ c = 59) : fitsL (x ++ c :: q) dateF = false ∧ fitsL (x ++ c :: q) timeF = false := by
  have ge : (x ++ c :: q).getD x.length 0 = c := by simp
  have hd : isD c = false := by rcases hc with rfl | rfl | rfl <;> decide
  have h5 : okB 45 c = false := by rcases hc with rfl | rfl | rfl <;> decide
  have h8 : okB 58 c = false := by rcases hc with rfl | rfl | rfl <;> decide
  match x, hx, h1, h4 with
  | [a], _, _, _ => exact ⟨fitsL_no 1 (by decide) (by simpa [okB, dateF] using hd), fitsL_no 1 (by decide) (by simpa [okB, timeF] using hd)⟩
  | [a, b], _, _, _ => exact ⟨fitsL_no 2 (by decide) (by simpa [okB, dateF] using hd), fitsL_no 2 (by decide) (by simpa [timeF] using h8)⟩
  | [a, b, d], hx, _, _ =>
    refine ⟨fitsL_no 3 (by decide) (by simpa [okB, dateF] using hd), fitsL_no 2 (by decide) ?_⟩
    have := hx d (by simp)
    unfold isD at this
    simp at this
    simp [okB, timeF]
    omega
  | [a, b, d, e], hx, _, _ =>
    refine ⟨fitsL_no 4 (by decide) (by simpa [dateF] using h5), fitsL_no 2 (by decide) ?_⟩
    have := hx d (by simp)
    unfold isD at this
    simp at this
    simp [okB, timeF]
    omega
theorem goes_num {k : Nat} (hk : k < 10000) {r : List UInt8} (hr : Ends r) : Goes [nbT k (Lib.decDigits k).length] (Lib.decDigits k ++ r) (skp r) := by
  obtain ⟨v1, v2⟩ := dec_val k k (Nat.le_refl _)
  have hl := dec_len hk
  have hp : 1 ≤ (Lib.decDigits k).length := by rw [Lib.decDigits_length]; exact Lib.nDigits_pos k
  obtain ⟨c, q, rfl, hc⟩ := hr
  refine goes_one (by simp; omega) ?_ rfl (by simp [nbT])
  obtain ⟨f1, f2⟩ := fits_num (q := q) v2 hp hl hc
  have hd : isD c = false := by rcases hc with rfl | rfl | rfl <;> decide
  have hrun := run_digs (r := c :: q) (by rintro c' q' h; cases h; exact hd) _ v2
  unfold firstT
  rw [f1, f2]
  have hh : isD ((Lib.decDigits k ++ c :: q).getD 0 0) = true := by
    generalize Lib.decDigits k = x at *
    cases x with
    | nil => simp at hp
    | cons d x => simpa using v2 d List.mem_cons_self
  rw [hh]
  unfold numT
  rw [hrun, if_neg (by simp), if_neg (by simp), if_pos rfl, if_neg (by omega)]
  simp [nbT, v1]
theorem dec_four {y : Nat} (h0 : 1000 ≤ y) (h1 : y ≤ 9999) : Lib.decDigits y = [UInt8.ofNat (48 + y / 1000), UInt8.ofNat (48 + y / 100 % 10), UInt8.ofNat (48 + y / 10 % 10), UInt8.ofNat (48 + y % 10)] := by
  rw [Lib.decDigits, dif_neg (by omega), Lib.decDigits, dif_neg (by omega), Lib.decDigits_two (by omega) (by omega)]
  have e1 : y / 10 / 10 / 10 = y / 1000 := by omega
  have e2 : y / 10 / 10 % 10 = y / 100 % 10 := by omega
  rw [e1, e2]
  rfl
theorem val_four {a b c d : Nat} (ha : a ≤ 9) (hb : b ≤ 9) (hc : c ≤ 9) (hd : d ≤ 9) : valL [UInt8.ofNat (48 + a), UInt8.ofNat (48 + b), UInt8.ofNat (48 + c), UInt8.ofNat (48 + d)] = 1000 * (a : Int) + 100 * b + 10 * c + d := by
  simp only [valL, List.foldl_cons, List.foldl_nil, dig_nat ha, dig_nat hb, dig_nat hc, dig_nat hd]
  omega
/-- The date of each day. -/
theorem ymd_yes {n : Int} (h0 : 0 ≤ n) (h1 : n < 146097) : ∃ y m d : Int, ymd n = (y, m, d) ∧ 1 ≤ d ∧ d ≤ Cal.dim y m ∧ Cal.num y m d = n := by
  obtain ⟨a, b, c, e⟩ := Cal.yearOf_ok n h0 h1
  rw [Cal.ys_succ] at e
  have hl := Cal.lp_01 (Cal.yearOf n)
  have hm : ∀ k : Nat, k ≤ 11 → n - Cal.ys (Cal.yearOf n) < Cal.cum (Cal.yearOf n) ((k : Int) + 2) → ∃ m : Int, 1 ≤ m ∧ m ≤ 12 ∧ Cal.cum (Cal.yearOf n) m ≤ n - Cal.ys (Cal.yearOf n) ∧ n - Cal.ys (Cal.yearOf n) < Cal.cum (Cal.yearOf n) (m + 1) := by
    intro k
    induction k with
    | zero =>
      intro _ hlt
      exact ⟨1, by omega, by omega, by rw [Cal.cum_one]; omega, by simpa using hlt⟩
    | succ k ih =>
      intro hk hlt
      by_cases g : n - Cal.ys (Cal.yearOf n) < Cal.cum (Cal.yearOf n) ((k : Int) + 2)
      · exact ih (by omega) g
      · exact ⟨(k : Int) + 2, by omega, by omega, by omega, by rw [show (k : Int) + 2 + 1 = ((k + 1 : Nat) : Int) + 2 by omega]; exact hlt⟩
  obtain ⟨m, m1, m2, m3, m4⟩ := hm 11 (by omega) (by rw [show ((11 : Nat) : Int) + 2 = 13 by omega, Cal.cum_13]; omega)
  have hs := Cal.cum_succ (Cal.yearOf n) m a b m1 m2
  refine ⟨Cal.yearOf n, m, n - Cal.ys (Cal.yearOf n) - Cal.cum (Cal.yearOf n) m + 1, ymd_eq (by omega) (by omega) (by unfold Cal.num; omega), by omega, by omega, by unfold Cal.num; omega⟩
theorem fits10 {a b c d e f g h i j : UInt8} {r : List UInt8} (ha : isD a = true) (hb : isD b = true) (hc : isD c = true) (hd : isD d = true) (he : e = 45) (hf : isD f = true) (hg : isD g = true) (hh : h = 45) (hi : isD i = true) (hj : isD j = true) : fitsL (a :: b :: c :: d :: e :: f :: g :: h :: i :: j :: r) dateF = true := by
  subst he hh
  refine fitsL_yes (by simp [dateF]) fun k hk => ?_
  have hk : k < 10 := hk
  match k, hk with
  | 0, _ => simpa [dateF, okB] using ha
  | 1, _ => simpa [dateF, okB] using hb
  | 2, _ => simpa [dateF, okB] using hc
  | 3, _ => simpa [dateF, okB] using hd
  | 4, _ => simp [dateF, okB]
  | 5, _ => simpa [dateF, okB] using hf
  | 6, _ => simpa [dateF, okB] using hg
  | 7, _ => simp [dateF, okB]
  | 8, _ => simpa [dateF, okB] using hi
  | 9, _ => simpa [dateF, okB] using hj
theorem goes_date {n : Int} (h0 : 0 ≤ n) (h1 : n < 146097) (r : List UInt8) : Goes [dtT n] (dateL n ++ r) (skp r) ∧ Starts (dateL n) := by
  obtain ⟨y, m, d, e, d1, d2, hn⟩ := ymd_yes h0 h1
  obtain ⟨y1, y2, m1, m2⟩ := Cal.dim_pos y m (by omega)
  have d3 := (Cal.dim_31 y m).2
  have ed : dateL n = UInt8.ofNat (48 + y.toNat / 1000) :: UInt8.ofNat (48 + y.toNat / 100 % 10) :: UInt8.ofNat (48 + y.toNat / 10 % 10) :: UInt8.ofNat (48 + y.toNat % 10) :: 45 :: UInt8.ofNat (48 + m.toNat / 10) :: UInt8.ofNat (48 + m.toNat % 10) :: 45 :: UInt8.ofNat (48 + d.toNat / 10) :: UInt8.ofNat (48 + d.toNat % 10) :: [] := by
    unfold dateL
    rw [e]
    dsimp only
    rw [dec_four (by omega) (by omega)]
    rfl
  rw [ed]
  refine ⟨goes_one (by simp) ?_ rfl (by simp [dtT]), ⟨_, _, rfl, ?_, ?_, ?_, ?_⟩⟩
  · simp only [List.cons_append, List.nil_append]
    unfold firstT
    rw [fits10 (dig_isD (by omega)) (dig_isD (by omega)) (dig_isD (by omega)) (dig_isD (by omega)) rfl (dig_isD (by omega)) (dig_isD (by omega)) rfl (dig_isD (by omega)) (dig_isD (by omega)), if_pos rfl]
    have v1 := val_four (a := y.toNat / 1000) (b := y.toNat / 100 % 10) (c := y.toNat / 10 % 10) (d := y.toNat % 10) (by omega) (by omega) (by omega) (by omega)
    have v2 := val_two (a := m.toNat / 10) (b := m.toNat % 10) (by omega) (by omega)
    have v3 := val_two (a := d.toNat / 10) (b := d.toNat % 10) (by omega) (by omega)
    rw [show 1000 * ((y.toNat / 1000 : Nat) : Int) + 100 * ((y.toNat / 100 % 10 : Nat) : Int) + 10 * ((y.toNat / 10 % 10 : Nat) : Int) + ((y.toNat % 10 : Nat) : Int) = y by omega] at v1
    rw [show 10 * ((m.toNat / 10 : Nat) : Int) + ((m.toNat % 10 : Nat) : Int) = m by omega] at v2
    rw [show 10 * ((d.toNat / 10 : Nat) : Int) + ((d.toNat % 10 : Nat) : Int) = d by omega] at v3
    unfold dateT
    simp only [List.drop_zero, List.drop_succ_cons, List.take_succ_cons, List.take_zero]
    rw [v1, v2, v3]
    have : numE y m d = (n, 0) := by unfold numE; rw [if_pos ⟨d1, d2⟩, hn]
    rw [this]; rfl
  · rw [dig_nat (by omega)]; omega
  · rw [dig_nat (by omega)]; omega
  · rw [dig_nat (by omega)]; omega
  · rw [dig_nat (by omega)]; omega
/-- The tokens of words with commas between them. -/
def daysTk : List (List UInt8) → List T1
  | [] => []
  | [x] => [wdT x]
  | x :: y :: l => wdT x :: sgT 44 :: daysTk (y :: l)
theorem day_word : ∀ x ∈ wDays, wordLen x = x.length ∧ x ≠ [] ∧ x.length ≤ 20 ∧ isWordL x = true := by decide
theorem goes_days {q : List UInt8} : ∀ (l : List (List UInt8)), l ≠ [] → (∀ x ∈ l, x ∈ wDays) → Goes (daysTk l) (Lib.join l [44] ++ 58 :: q) (58 :: q) ∧ Starts (Lib.join l [44])
  | [], h, _ => absurd rfl h
  | [x], _, hx => by
    obtain ⟨h1, h2, h3, h4⟩ := day_word x (hx x List.mem_cons_self)
    rw [Lib.join_one]
    have := goes_wd (r := 58 :: q) h1 h2 h3 h4 (by rintro c q h; cases h; decide)
    rw [skp_starts ⟨58, q, rfl, by decide, by decide, by decide, by decide⟩] at this
    exact ⟨this, Starts.word h1 h2⟩
  | x :: y :: l, _, hx => by
    obtain ⟨h1, h2, h3, h4⟩ := day_word x (hx x List.mem_cons_self)
    obtain ⟨i1, i2⟩ := goes_days (q := q) (y :: l) (by simp) fun z hz => hx z (List.mem_cons_of_mem _ hz)
    have ej : Lib.join (x :: y :: l) [44] = x ++ 44 :: Lib.join (y :: l) [44] := by simp [Lib.join, List.intercalate]
    rw [ej, List.append_assoc, List.cons_append]
    have g1 := goes_wd (r := 44 :: (Lib.join (y :: l) [44] ++ 58 :: q)) h1 h2 h3 h4 (by rintro c q h; cases h; decide)
    rw [skp_starts ⟨44, _, rfl, by decide, by decide, by decide, by decide⟩] at g1
    have g2 := goes_sign (c := 44) (Lib.join (y :: l) [44] ++ 58 :: q) (by decide) (by decide) (by decide) (by decide)
    rw [skp_starts (i2.app _)] at g2
    exact ⟨g1.trans (g2.trans i1), (Starts.word h1 h2).app _⟩
set_option maxRecDepth 100000 in
theorem daysUp_fin : ∀ n : Fin 128, (∀ x ∈ daysUp (n.1 : Int) 7, x ∈ wDays) ∧ (n.1 = 0 ∨ daysUp (n.1 : Int) 7 ≠ []) ∧ (daysUp (n.1 : Int) 7).foldl (fun s x => s ||| dayBit x) 0 = n.1 := by decide +kernel
theorem daysUp_ok {a : Int} (h0 : 1 ≤ a) (h1 : a < 128) : (∀ x ∈ daysUp a 7, x ∈ wDays) ∧ daysUp a 7 ≠ [] ∧ (daysUp a 7).foldl (fun s x => s ||| dayBit x) 0 = a.toNat := by
  have := daysUp_fin ⟨a.toNat, by omega⟩
  rw [show (((⟨a.toNat, by omega⟩ : Fin 128).1 : Nat) : Int) = a from by simp; omega] at this
  refine ⟨this.1, ?_, this.2.2⟩
  rcases this.2.1 with h | h
  · simp at h; omega
  · exact h
end Go.Proofs.YteheahhifihmjaaGreatDoor

/- How many expressions there are within one, an expression with what its kind has alone, and when nothing is wrong with one: plain. -/
namespace Lx

/-- How many expressions there are. -/
def cnt (e : Ex) : Nat := (e.kids.attach.map fun k => cnt k.1).sum + 1
  termination_by sizeOf e
  decreasing_by exact kid_lt k.2
theorem cnt_eq (e : Ex) : cnt e = (e.kids.map cnt).sum + 1 := by
  rw [cnt]
  show (List.map (cnt ∘ Subtype.val) e.kids.attach).sum + 1 = _
  rw [← List.map_map, List.attach_map_subtype_val]
/-- What a kind has alone. -/
def bareA (k a : Int) : Int := if k = 3 ∨ k = 4 ∨ k = 5 ∨ k = 9 then a else 0
def bareB (k b : Int) : Int := if k = 3 ∨ k = 5 then b else 0
def bareN (k : Int) (n : List UInt8) : List UInt8 := if k = 10 then n else []
def bareE (e : Ex) : Ex := ⟨e.kind, bareA e.kind e.a, bareB e.kind e.b, bareN e.kind e.name, e.kids.attach.map fun k => bareE k.1⟩
  termination_by sizeOf e
  decreasing_by exact kid_lt k.2
theorem bareE_eq (e : Ex) : bareE e = ⟨e.kind, bareA e.kind e.a, bareB e.kind e.b, bareN e.kind e.name, e.kids.map bareE⟩ := by
  rw [bareE]
  congr 1
  show List.map (bareE ∘ Subtype.val) e.kids.attach = _
  rw [← List.map_map, List.attach_map_subtype_val]
/-- Nothing is wrong with any, by itself. -/
def allA (e : Ex) : Bool := decide (aloneP e = 0) && (e.kids.attach.all fun k => allA k.1)
  termination_by sizeOf e
  decreasing_by exact kid_lt k.2
theorem allA_iff (e : Ex) : allA e = true ↔ aloneP e = 0 ∧ ∀ k ∈ e.kids, allA k = true := by
  rw [allA, Bool.and_eq_true, decide_eq_true_eq, List.all_eq_true]
  refine and_congr_right fun _ => ⟨fun h k hk => h ⟨k, hk⟩ (List.mem_attach _ _), fun h k _ => h k.1 k.2⟩
theorem hgt_pos (e : Ex) : 1 ≤ hgt e := by rw [hgt_eq]; omega
theorem cnt_pos (e : Ex) : 1 ≤ cnt e := by rw [cnt_eq]; omega
theorem hgtL_le {ks : List Ex} {m : Nat} (h : hgtL ks ≤ m) : ∀ k ∈ ks, hgt k ≤ m := by
  induction ks with
  | nil => intro k hk; cases hk
  | cons q ks ih =>
    rw [hgtL_cons] at h
    intro k hk
    rcases List.mem_cons.1 hk with rfl | hk
    · omega
    · exact ih (by omega) k hk
theorem hgtL_of {ks : List Ex} {m : Nat} (h : ∀ k ∈ ks, hgt k ≤ m) : hgtL ks ≤ m := by
  induction ks with
  | nil => rw [hgtL_nil]; omega
  | cons q ks ih =>
    rw [hgtL_cons]
    have h1 := h q List.mem_cons_self
    have h2 := ih fun k hk => h k (List.mem_cons_of_mem _ hk)
    omega
/-- What nothing is wrong with. -/
theorem shape_of : ∀ (N : Nat) (e : Ex) (deep n : Nat), sizeOf e ≤ N → allA e = true → n + cnt e ≤ 600 → deep + hgt e ≤ 41 → shapeP e deep n = (0, n + cnt e)
  | 0, e, _, _, hN, _, _, _ => by cases e; simp at hN
  | N + 1, e, deep, n, hN, ha, hc, hh => by
    obtain ⟨a1, a2⟩ := (allA_iff e).1 ha
    have := hgt_pos e
    have := cnt_pos e
    rw [shapeP_eq, if_neg (by omega), if_neg (by simpa using a1)]
    have aux : ∀ (ks : List Ex), (∀ k ∈ ks, sizeOf k ≤ N ∧ allA k = true ∧ hgt k < hgt e) → ∀ m : Nat, m + (ks.map cnt).sum ≤ 600 → shapeL ks (deep + 1) (0, m) = (0, m + (ks.map cnt).sum) := by
      intro ks
      induction ks with
      | nil => intro _ m _; rfl
      | cons k ks ih =>
        intro hk m hm
        obtain ⟨k1, k2, k3⟩ := hk k List.mem_cons_self
        simp only [List.map_cons, List.sum_cons] at hm ⊢
        rw [shapeL_cons, if_neg (by simp), shape_of N k (deep + 1) m k1 k2 (by omega) (by omega), ih (fun q hq => hk q (List.mem_cons_of_mem _ hq)) _ (by omega), Nat.add_assoc]
    rw [cnt_eq] at hc ⊢
    rw [aux e.kids (fun k hk => ⟨by have := kid_lt hk; omega, a2 k hk, hgt_kid hk⟩) (n + 1) (by omega)]
    congr 1
    omega
theorem of_shape : ∀ (N : Nat) (e : Ex) (deep n : Nat), sizeOf e ≤ N → (shapeP e deep n).1 = 0 → (shapeP e deep n).2 = n + cnt e ∧ deep + hgt e ≤ 41
  | 0, e, _, _, hN, _ => by cases e; simp at hN
  | N + 1, e, deep, n, hN, h => by
    rw [shapeP_eq] at h ⊢
    by_cases c1 : 600 < n + 1 ∨ 40 < deep
    · rw [if_pos c1] at h; cases h
    rw [if_neg c1] at h ⊢
    by_cases c2 : aloneP e ≠ 0
    · rw [if_pos c2] at h; exact absurd h c2
    rw [if_neg c2] at h ⊢
    have aux : ∀ (ks : List Ex), (∀ k ∈ ks, sizeOf k ≤ N) → ∀ m : Nat, (shapeL ks (deep + 1) (0, m)).1 = 0 → (shapeL ks (deep + 1) (0, m)).2 = m + (ks.map cnt).sum ∧ ∀ k ∈ ks, deep + 1 + hgt k ≤ 41 := by
      intro ks
      induction ks with
      | nil => intro _ m _; exact ⟨rfl, fun k hk => by cases hk⟩
      | cons k ks ih =>
        intro hk m h0
        rw [shapeL_cons, if_neg (by simp)] at h0 ⊢
        have hz : (shapeP k (deep + 1) m).1 = 0 := by
          by_cases hz : (shapeP k (deep + 1) m).1 = 0
          · exact hz
          · rw [shapeL_bad hz] at h0; exact h0
        obtain ⟨i1, i2⟩ := of_shape N k (deep + 1) m (hk k List.mem_cons_self) hz
        have e : shapeP k (deep + 1) m = (0, m + cnt k) := Prod.ext hz i1
        rw [e] at h0 ⊢
        obtain ⟨j1, j2⟩ := ih (fun q hq => hk q (List.mem_cons_of_mem _ hq)) _ h0
        refine ⟨by simp only [List.map_cons, List.sum_cons]; omega, fun q hq => ?_⟩
        rcases List.mem_cons.1 hq with rfl | hq
        · exact i2
        · exact j2 q hq
    obtain ⟨b1, b2⟩ := aux e.kids (fun k hk => by have := kid_lt hk; omega) (n + 1) h
    rw [b1, cnt_eq, hgt_eq]
    refine ⟨by omega, ?_⟩
    have := hgtL_of (ks := e.kids) (m := 40 - deep) fun k hk => by have := b2 k hk; omega
    omega
theorem OKE.all : ∀ (N : Nat) (e : Ex), sizeOf e ≤ N → OKE e → allA e = true
  | 0, e, hN, _ => by cases e; simp at hN
  | N + 1, e, hN, h => (allA_iff e).2 ⟨h.alone, fun k hk => OKE.all N k (by have := kid_lt hk; omega) (h.kid hk)⟩
theorem two_kids {ks : List Ex} {j k : Ex} (hl : ks.length = 2) (h0 : ks[0]? = some j) (h1 : ks[1]? = some k) : ks = [j, k] := by
  match ks, hl with
  | [a, b], _ =>
    simp at h0 h1
    rw [h0, h1]
theorem one_kid {ks : List Ex} {j : Ex} (hl : ks.length = 1) (h0 : ks[0]? = some j) : ks = [j] := by
  match ks, hl with
  | [a], _ =>
    simp at h0
    rw [h0]
end Lx
