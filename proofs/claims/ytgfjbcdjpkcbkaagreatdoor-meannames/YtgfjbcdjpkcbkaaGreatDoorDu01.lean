/- Plain facts about texts, byte by byte, that speak of no program: what is a digit, a letter, a word, a number. -/
import Derived.Lib.Strings
import Derived.Lib.Bytealg
import Derived.Test.YtgfjbcdjpkcbkaaGreatDoorRows
import Derived.WalkKit
import Derived.WalkSpells
import Derived.WalkLawsBesides
import Derived.Deep.QuietTactic
import Derived.BigQuiet
namespace Lx
def isD (c : UInt8) : Bool := decide (48 ≤ c.toNat) && decide (c.toNat ≤ 57)
def isL (c : UInt8) : Bool := decide (97 ≤ c.toNat) && decide (c.toNat ≤ 122)
def isC (c : UInt8) : Bool := isL c || (isD c || decide (c.toNat = 95))
def runOf (p : UInt8 → Bool) : List UInt8 → Nat
  | [] => 0
  | c :: l => if p c then runOf p l + 1 else 0
def wordLen : List UInt8 → Nat
  | [] => 0
  | c :: l => if isL c then runOf isC l + 1 else 0
theorem runOf_le (p : UInt8 → Bool) : ∀ l, runOf p l ≤ l.length
  | [] => by simp [runOf]
  | c :: l => by have := runOf_le p l; simp only [runOf]; split <;> simp; omega
theorem runOf_all (p : UInt8 → Bool) : ∀ l i, i < runOf p l → p (l.getD i 0) = true
  | [], i, h => by simp [runOf] at h
  | c :: l, i, h => by
    simp only [runOf] at h
    split at h
    · cases i with
      | zero => simpa
      | succ i => simpa using runOf_all p l i (by omega)
    · omega
theorem runOf_eq (p : UInt8 → Bool) : ∀ (l : List UInt8) (k : Nat), k ≤ l.length → (∀ i, i < k → p (l.getD i 0) = true) → (k < l.length → p (l.getD k 0) = false) → runOf p l = k
  | [], k, h, _, _ => by simp at h; subst h; rfl
  | c :: l, 0, _, _, h2 => by
    have := h2 (by simp)
    simp at this
    simp [runOf, this]
  | c :: l, k + 1, h, h1, h2 => by
    have hc := h1 0 (by omega)
    simp at hc
    have := runOf_eq p l k (by simpa using h) (fun i hi => by simpa using h1 (i + 1) (by omega)) (fun hk => by simpa using h2 (by simpa using hk))
    simp [runOf, hc, this]
theorem wordLen_le : ∀ l, wordLen l ≤ l.length
  | [] => by simp [wordLen]
  | c :: l => by have := runOf_le isC l; simp only [wordLen]; split <;> simp; omega
def valL (l : List UInt8) : Int := l.foldl (fun n c => 10 * n + ((c.toNat : Int) - 48)) 0
theorem valL_snoc (l : List UInt8) (c : UInt8) : valL (l ++ [c]) = 10 * valL l + ((c.toNat : Int) - 48) := by simp [valL]
theorem valL_take (l : List UInt8) (k : Nat) (hk : k < l.length) : valL (l.take (k + 1)) = 10 * valL (l.take k) + (((l.getD k 0).toNat : Int) - 48) := by
  rw [List.take_succ_eq_append_getElem hk, valL_snoc]
  simp [List.getD, hk]
theorem valL_bound (l : List UInt8) (h : ∀ i, i < l.length → isD (l.getD i 0) = true) : ∀ k, k ≤ l.length → 0 ≤ valL (l.take k) ∧ valL (l.take k) < ((10 ^ k : Nat) : Int)
  | 0, _ => by simp [valL]
  | k + 1, hk => by
    have ih := valL_bound l h k (by omega)
    have hd := h k (by omega)
    simp only [isD, Bool.and_eq_true, decide_eq_true_eq] at hd
    rw [valL_take l k (by omega), Nat.pow_succ]
    omega
theorem valL_small (l : List UInt8) (h : ∀ i, i < l.length → isD (l.getD i 0) = true) (k : Nat) (hk : k ≤ l.length) (h6 : k ≤ 6) : 0 ≤ valL (l.take k) ∧ valL (l.take k) < 1000000 := by
  have b := valL_bound l h k hk
  have : (10 : Nat) ^ k ≤ 10 ^ 6 := Nat.pow_le_pow_right (by omega) h6
  have e : (10 : Nat) ^ 6 = 1000000 := by decide
  omega
def okB (f c : UInt8) : Bool := if f.toNat = 48 then isD c else decide (f.toNat = c.toNat)
def fitsL (l m : List UInt8) : Bool := decide (m.length ≤ l.length) && (List.range m.length).all fun i => okB (m.getD i 0) (l.getD i 0)
theorem fitsL_yes {l m : List UInt8} (h1 : m.length ≤ l.length) (h2 : ∀ i, i < m.length → okB (m.getD i 0) (l.getD i 0) = true) : fitsL l m = true := by
  unfold fitsL
  rw [decide_eq_true h1, Bool.true_and, List.all_eq_true]
  intro i hi
  exact h2 i (by simpa using hi)
theorem fitsL_no {l m : List UInt8} (i : Nat) (h1 : i < m.length) (h2 : okB (m.getD i 0) (l.getD i 0) = false) : fitsL l m = false := by
  cases e : fitsL l m with
  | false => rfl
  | true =>
    unfold fitsL at e
    rw [Bool.and_eq_true, List.all_eq_true] at e
    have := e.2 i (by simpa using h1)
    rw [h2] at this; cases this
theorem fitsL_short {l m : List UInt8} (h : ¬ m.length ≤ l.length) : fitsL l m = false := by simp [fitsL, h]
theorem fitsL_at {l m : List UInt8} (h : fitsL l m = true) : m.length ≤ l.length ∧ ∀ i, i < m.length → okB (m.getD i 0) (l.getD i 0) = true := by
  unfold fitsL at h
  rw [Bool.and_eq_true, List.all_eq_true] at h
  exact ⟨by simpa using h.1, fun i hi => h.2 i (by simpa using hi)⟩
def pcAt (l : List UInt8) (i : Nat) : Bool := if i = 0 then isL (l.getD 0 0) else isC (l.getD i 0)
theorem wordLen_eq : ∀ (l : List UInt8) (k : Nat), k ≤ l.length → (∀ i, i < k → pcAt l i = true) → (k < l.length → pcAt l k = false) → wordLen l = k
  | [], k, h, _, _ => by simp at h; subst h; rfl
  | c :: l, 0, _, _, h2 => by
    have := h2 (by simp)
    simp [pcAt] at this
    simp [wordLen, this]
  | c :: l, k + 1, h, h1, h2 => by
    have hc := h1 0 (by omega)
    simp [pcAt] at hc
    have e := runOf_eq isC l k (by simpa using h) (fun i hi => by simpa [pcAt] using h1 (i + 1) (by omega)) (fun hk => by simpa [pcAt] using h2 (by simpa using hk))
    simp [wordLen, hc, e]
structure T1 where
  kind : Int
  n : Int
  text : List UInt8
  len : Nat
  err : Int
def bad (e : Int) : T1 := ⟨0, 0, [], 0, e⟩
def numT (l : List UInt8) : T1 := if 6 < runOf isD l then bad 3 else ⟨6, valL (l.take (runOf isD l)), [], runOf isD l, 0⟩
def dateF : List UInt8 := [48, 48, 48, 48, 45, 48, 48, 45, 48, 48]
def timeF : List UInt8 := [48, 48, 58, 48, 48]
def timeT (l : List UInt8) : T1 := if 59 < valL ((l.drop 3).take 2) ∨ 1440 < 60 * valL ((l.drop 0).take 2) + valL ((l.drop 3).take 2) then bad 3 else ⟨4, 60 * valL ((l.drop 0).take 2) + valL ((l.drop 3).take 2), [], 5, 0⟩
theorem dig_part {l m : List UInt8} (h : fitsL l m = true) (a n : Nat) (ha : a + n ≤ m.length) (hf : ∀ i, i < n → (m.getD (a + i) 0).toNat = 48) :
    ((l.drop a).take n).length = n ∧ ∀ i, i < ((l.drop a).take n).length → isD (((l.drop a).take n).getD i 0) = true := by
  obtain ⟨h1, h2⟩ := fitsL_at h
  have e : ((l.drop a).take n).length = n := by simp; omega
  refine ⟨e, fun i hi => ?_⟩
  rw [e] at hi
  have := h2 (a + i) (by omega)
  unfold okB at this
  rw [if_pos (hf i hi)] at this
  rw [List.getD_eq_getElem?_getD] at this ⊢
  rw [List.getElem?_take, if_pos hi, List.getElem?_drop]
  exact this
def skipS : Bool → List UInt8 → Nat
  | _, [] => 0
  | true, c :: l => if c.toNat = 10 then skipS false l + 1 else skipS true l + 1
  | false, c :: l => if c.toNat = 32 ∨ c.toNat = 9 ∨ c.toNat = 10 then skipS false l + 1 else if c.toNat = 35 then skipS true l + 1 else 0
theorem skipS_le : ∀ (b : Bool) (l : List UInt8), skipS b l ≤ l.length
  | true, [] => by simp [skipS]
  | false, [] => by simp [skipS]
  | true, c :: l => by
    have h1 := skipS_le true l
    have h2 := skipS_le false l
    simp only [skipS, List.length_cons]; split <;> omega
  | false, c :: l => by
    have h1 := skipS_le true l
    have h2 := skipS_le false l
    simp only [skipS, List.length_cons]
    split
    · omega
    · split <;> omega
def noLf (c : UInt8) : Bool := decide (c.toNat ≠ 10)
def remL (l : List UInt8) : Nat := runOf noLf l
theorem skip_rem : ∀ (l : List UInt8), skipS true l = remL l + skipS false (l.drop (remL l))
  | [] => by simp [remL, runOf, skipS]
  | c :: l => by
    by_cases h : c.toNat = 10
    · simp [remL, runOf, noLf, skipS, h]
    · have ih := skip_rem l
      have e : remL (c :: l) = remL l + 1 := by simp [remL, runOf, noLf, h]
      rw [e]
      simp only [skipS, h, if_false, List.drop_succ_cons]
      omega
theorem skip_hash (l : List UInt8) (h0 : 0 < l.length) (hc : (l.getD 0 0).toNat = 35) : skipS false l = remL l + skipS false (l.drop (remL l)) ∧ 1 ≤ remL l := by
  match l, h0 with
  | c :: r, _ =>
    have hc' : c.toNat = 35 := by simpa using hc
    have e : remL (c :: r) = remL r + 1 := by simp [remL, runOf, noLf, hc']
    have := skip_rem r
    rw [e]
    refine ⟨?_, by omega⟩
    simp only [skipS, hc', List.drop_succ_cons]
    simp
    omega
theorem skip_blank (l : List UInt8) (h0 : 0 < l.length) (hc : (l.getD 0 0).toNat = 32 ∨ (l.getD 0 0).toNat = 9 ∨ (l.getD 0 0).toNat = 10) : skipS false l = 1 + skipS false (l.drop 1) := by
  match l, h0 with
  | c :: r, _ =>
    have hc' : c.toNat = 32 ∨ c.toNat = 9 ∨ c.toNat = 10 := by simpa using hc
    simp only [skipS, if_pos hc', List.drop_succ_cons, List.drop_zero]
    omega
theorem skip_stop (l : List UInt8) (hc : 0 < l.length → ¬ ((l.getD 0 0).toNat = 32 ∨ (l.getD 0 0).toNat = 9 ∨ (l.getD 0 0).toNat = 10) ∧ (l.getD 0 0).toNat ≠ 35) : skipS false l = 0 := by
  match l with
  | [] => rfl
  | c :: r =>
    have := hc (by simp)
    simp only [List.getD_cons_zero] at this
    simp only [skipS, if_neg this.1, if_neg this.2]
theorem index_rem : ∀ l : List UInt8, Go.Lib.indexByte l 10 = if remL l < l.length then (remL l : Int) else -1
  | [] => by simp [Go.Lib.indexByte, remL, runOf]
  | c :: l => by
    have ih := index_rem l
    by_cases h : c.toNat = 10
    · have e : c = 10 := by apply UInt8.toNat_inj.1; simpa using h
      subst e
      simp [Go.Lib.indexByte, remL, runOf, noLf]
    · have hne : (c == 10) = false := by
        rw [beq_eq_false_iff_ne]; intro e; subst e; simp at h
      have e : remL (c :: l) = remL l + 1 := by simp [remL, runOf, noLf, h]
      have hle : remL l ≤ l.length := runOf_le _ l
      unfold Go.Lib.indexByte
      rw [hne, ih, e]
      by_cases hh : remL l < l.length
      · have n1 : ((remL l : Int) == -1) = false := by simp
        rw [if_pos hh, n1]
        simp [hh]
      · rw [if_neg hh]
        simp [hh]
end Lx

/- What a text's tokens are read as: plain, of no program. An expression; the reader, told by how much it may still do; and that it hangs on that no more, where it is enough. -/
namespace Lx
structure Ex where
  kind : Int
  a : Int
  b : Int
  name : List UInt8
  kids : List Ex
abbrev Tk := T1 × Nat
def ex0 : Ex := ⟨0, 0, 0, [], []⟩
abbrev Res := Except (Int × Nat) (Ex × List Tk × Nat)
def atP (E : Nat) : List Tk → Nat
  | [] => E
  | p :: _ => p.2
def textP : List Tk → List UInt8
  | [] => []
  | p :: _ => p.1.text
def kindP : List Tk → Int
  | [] => 0
  | p :: _ => p.1.kind
def numP : List Tk → Int
  | [] => 0
  | p :: _ => p.1.n
def isT (x : List UInt8) (r : List Tk) : Bool := textP r == x
def andThen (x : Res) (f : Ex → List Tk → Nat → Res) : Res :=
  match x with
  | .error e => .error e
  | .ok (e, r, n) => f e r n
def endedP (E : Nat) (e : Ex) (r : List Tk) (n : Nat) : Res := if 600 < n + 1 then .error (4, atP E r) else .ok (e, r, n + 1)
def failP (E : Nat) (err : Int) (r : List Tk) : Res := .error (err, atP E r)
def wPlus : List UInt8 := [43]
def wMinus : List UInt8 := [45]
def wAnd : List UInt8 := [38]
def wOpen : List UInt8 := [40]
def wShut : List UInt8 := [41]
def wComma : List UInt8 := [44]
def wColon : List UInt8 := [58]
def wSemi : List UInt8 := [59]
def wIs : List UInt8 := [61]
def wTo : List UInt8 := [46, 46]
def wRule : List UInt8 := [114, 117, 108, 101]
def wNever : List UInt8 := [110, 101, 118, 101, 114]
def wAlways : List UInt8 := [97, 108, 119, 97, 121, 115]
def wWeekly : List UInt8 := [119, 101, 101, 107, 108, 121]
def wDates : List UInt8 := [100, 97, 116, 101, 115]
def wShift : List UInt8 := [115, 104, 105, 102, 116]
def wDays : List (List UInt8) := [[109, 111, 110], [116, 117, 101], [119, 101, 100], [116, 104, 117], [102, 114, 105], [115, 97, 116], [115, 117, 110]]
def dayBit (x : List UInt8) : Nat :=
  if x = wDays.getD 0 [] then 1 else if x = wDays.getD 1 [] then 2 else if x = wDays.getD 2 [] then 4 else if x = wDays.getD 3 [] then 8
  else if x = wDays.getD 4 [] then 16 else if x = wDays.getD 5 [] then 32 else if x = wDays.getD 6 [] then 64 else 0
def goP (E : Nat) : Nat → Nat → Nat → Ex → List Tk → Nat → Res
  | 0, _, _, _, r, _ => failP E 0 r
  | f + 1, 0, d, _, r, n => andThen (goP E f 2 d ex0 r n) fun e r n => goP E f 1 d e r n
  | f + 1, 1, d, e, r, n =>
    if isT wPlus r then andThen (goP E f 2 d ex0 r.tail n) fun t r n => andThen (endedP E ⟨6, 0, 0, [], [e, t]⟩ r n) fun e r n => goP E f 1 d e r n
    else if isT wMinus r then andThen (goP E f 2 d ex0 r.tail n) fun t r n => andThen (endedP E ⟨7, 0, 0, [], [e, t]⟩ r n) fun e r n => goP E f 1 d e r n
    else .ok (e, r, n)
  | f + 1, 2, d, _, r, n => andThen (goP E f 4 d ex0 r n) fun e r n => goP E f 3 d e r n
  | f + 1, 3, d, e, r, n =>
    if isT wAnd r then andThen (goP E f 4 d ex0 r.tail n) fun t r n => andThen (endedP E ⟨8, 0, 0, [], [e, t]⟩ r n) fun e r n => goP E f 3 d e r n
    else .ok (e, r, n)
  | f + 1, 4, d, _, r, n => andThen (goP E f 6 d ex0 r n) fun e r n => goP E f 5 d e r n
  | f + 1, 5, d, e, r, n =>
    if isT wShift r then
      let m := isT wMinus r.tail
      let q := if m then r.tail.tail else r.tail
      if kindP q ≠ 6 then failP E 2 q
      else if 1440 ≤ numP q ∨ numP q < 1 then failP E 3 q
      else andThen (endedP E ⟨9, if m then - numP q else numP q, 0, [], [e]⟩ q.tail n) fun e r n => goP E f 5 d e r n
    else .ok (e, r, n)
  | f + 1, 6, d, _, r, n =>
    if 40 < d then failP E 4 r
    else if isT wOpen r then andThen (goP E f 0 (d + 1) ex0 r.tail n) fun e r n => if isT wShut r then .ok (e, r.tail, n) else failP E 2 r
    else if isT wNever r then endedP E ⟨1, 0, 0, [], []⟩ r.tail n
    else if isT wAlways r then endedP E ⟨2, 0, 0, [], []⟩ r.tail n
    else if isT wWeekly r then goP E f 7 d ex0 r.tail n
    else if isT wDates r then
      let q := r.tail
      if kindP q ≠ 5 then failP E 2 q
      else if isT wTo q.tail then
        let p := q.tail.tail
        if kindP p ≠ 5 then failP E 2 p
        else if numP p < numP q then failP E 3 p
        else goP E f 8 d ⟨5, numP q, numP p, [], []⟩ p.tail n
      else goP E f 8 d ⟨5, numP q, numP q, [], []⟩ q.tail n
    else if kindP r = 1 then endedP E ⟨10, 0, 0, textP r, []⟩ r.tail n
    else if kindP r ≠ 4 then failP E 2 r
    else if isT wMinus r.tail then
      let q := r.tail.tail
      if kindP q ≠ 4 then failP E 2 q
      else if numP q < numP r + 1 then failP E 3 q
      else endedP E ⟨3, numP r, numP q, [], []⟩ q.tail n
    else failP E 2 r.tail
  | f + 1, 7, d, e, r, n =>
    if dayBit (textP r) = 0 then failP E 2 r
    else if isT wComma r.tail then goP E f 7 d ⟨0, ((e.a.toNat ||| dayBit (textP r) : Nat) : Int), 0, [], []⟩ r.tail.tail n
    else goP E f 8 d ⟨4, ((e.a.toNat ||| dayBit (textP r) : Nat) : Int), 0, [], []⟩ r.tail n
  | f + 1, _, d, e, r, n =>
    if isT wColon r then andThen (goP E f 4 (d + 1) ex0 r.tail n) fun k r n => endedP E ⟨e.kind, e.a, e.b, [], [k]⟩ r n else failP E 2 r
theorem isT_cons {x : List UInt8} {r : List Tk} (hx : x ≠ []) (h : isT x r = true) : 1 ≤ r.length := by
  cases r with
  | nil => simp [isT, textP] at h; exact absurd h (fun e => hx (by first | exact e | exact e.symm))
  | cons p r => simp
theorem kindP_cons {r : List Tk} (h : kindP r ≠ 0) : 1 ≤ r.length := by
  cases r with
  | nil => simp [kindP] at h
  | cons p r => simp
theorem dayBit_cons {r : List Tk} (h : dayBit (textP r) ≠ 0) : 1 ≤ r.length := by
  cases r with
  | nil => exact absurd (by decide) h
  | cons p r => simp
def eats (m : Nat) : Nat := if m = 1 ∨ m = 3 ∨ m = 5 then 0 else 1
theorem andThen_ok {x : Res} {f : Ex → List Tk → Nat → Res} {z : Ex × List Tk × Nat} (h : andThen x f = .ok z) : ∃ e r n, x = .ok (e, r, n) ∧ f e r n = .ok z := by
  match x with
  | .error _ => cases h
  | .ok (e, r, n) => exact ⟨e, r, n, rfl, h⟩
theorem endedP_ok {E : Nat} {e : Ex} {r : List Tk} {n : Nat} {z : Ex × List Tk × Nat} (h : endedP E e r n = .ok z) : z = (e, r, n + 1) := by
  unfold endedP at h
  split at h
  · cases h
  · cases h; rfl
theorem failP_ok {E : Nat} {err : Int} {r : List Tk} {z : Ex × List Tk × Nat} (h : failP E err r = .ok z) : False := by
  unfold failP at h; cases h
theorem goP_0 (E f d : Nat) (e : Ex) (r : List Tk) (n : Nat) : goP E (f + 1) 0 d e r n = andThen (goP E f 2 d ex0 r n) fun e r n => goP E f 1 d e r n := rfl
theorem goP_1 (E f d : Nat) (e : Ex) (r : List Tk) (n : Nat) : goP E (f + 1) 1 d e r n = if isT wPlus r then andThen (goP E f 2 d ex0 r.tail n) fun t r n => andThen (endedP E ⟨6, 0, 0, [], [e, t]⟩ r n) fun e r n => goP E f 1 d e r n
    else if isT wMinus r then andThen (goP E f 2 d ex0 r.tail n) fun t r n => andThen (endedP E ⟨7, 0, 0, [], [e, t]⟩ r n) fun e r n => goP E f 1 d e r n
    else .ok (e, r, n) := rfl
theorem goP_2 (E f d : Nat) (e : Ex) (r : List Tk) (n : Nat) : goP E (f + 1) 2 d e r n = andThen (goP E f 4 d ex0 r n) fun e r n => goP E f 3 d e r n := rfl
theorem goP_3 (E f d : Nat) (e : Ex) (r : List Tk) (n : Nat) : goP E (f + 1) 3 d e r n = if isT wAnd r then andThen (goP E f 4 d ex0 r.tail n) fun t r n => andThen (endedP E ⟨8, 0, 0, [], [e, t]⟩ r n) fun e r n => goP E f 3 d e r n
    else .ok (e, r, n) := rfl
theorem goP_4 (E f d : Nat) (e : Ex) (r : List Tk) (n : Nat) : goP E (f + 1) 4 d e r n = andThen (goP E f 6 d ex0 r n) fun e r n => goP E f 5 d e r n := rfl
def shiftAt (r : List Tk) : List Tk := if isT wMinus r.tail then r.tail.tail else r.tail
theorem goP_5 (E f d : Nat) (e : Ex) (r : List Tk) (n : Nat) : goP E (f + 1) 5 d e r n = if isT wShift r then
      if kindP (shiftAt r) ≠ 6 then failP E 2 (shiftAt r)
      else if 1440 ≤ numP (shiftAt r) ∨ numP (shiftAt r) < 1 then failP E 3 (shiftAt r)
      else andThen (endedP E ⟨9, if isT wMinus r.tail then - numP (shiftAt r) else numP (shiftAt r), 0, [], [e]⟩ (shiftAt r).tail n) fun e r n => goP E f 5 d e r n
    else .ok (e, r, n) := rfl
theorem goP_6 (E f d : Nat) (e : Ex) (r : List Tk) (n : Nat) : goP E (f + 1) 6 d e r n =
    if 40 < d then failP E 4 r
    else if isT wOpen r then andThen (goP E f 0 (d + 1) ex0 r.tail n) fun e r n => if isT wShut r then .ok (e, r.tail, n) else failP E 2 r
    else if isT wNever r then endedP E ⟨1, 0, 0, [], []⟩ r.tail n
    else if isT wAlways r then endedP E ⟨2, 0, 0, [], []⟩ r.tail n
    else if isT wWeekly r then goP E f 7 d ex0 r.tail n
    else if isT wDates r then
      if kindP r.tail ≠ 5 then failP E 2 r.tail
      else if isT wTo r.tail.tail then
        if kindP r.tail.tail.tail ≠ 5 then failP E 2 r.tail.tail.tail
        else if numP r.tail.tail.tail < numP r.tail then failP E 3 r.tail.tail.tail
        else goP E f 8 d ⟨5, numP r.tail, numP r.tail.tail.tail, [], []⟩ r.tail.tail.tail.tail n
      else goP E f 8 d ⟨5, numP r.tail, numP r.tail, [], []⟩ r.tail.tail n
    else if kindP r = 1 then endedP E ⟨10, 0, 0, textP r, []⟩ r.tail n
    else if kindP r ≠ 4 then failP E 2 r
    else if isT wMinus r.tail then
      if kindP r.tail.tail ≠ 4 then failP E 2 r.tail.tail
      else if numP r.tail.tail < numP r + 1 then failP E 3 r.tail.tail
      else endedP E ⟨3, numP r, numP r.tail.tail, [], []⟩ r.tail.tail.tail n
    else failP E 2 r.tail := rfl
theorem goP_7 (E f d : Nat) (e : Ex) (r : List Tk) (n : Nat) : goP E (f + 1) 7 d e r n =
    if dayBit (textP r) = 0 then failP E 2 r
    else if isT wComma r.tail then goP E f 7 d ⟨0, ((e.a.toNat ||| dayBit (textP r) : Nat) : Int), 0, [], []⟩ r.tail.tail n
    else goP E f 8 d ⟨4, ((e.a.toNat ||| dayBit (textP r) : Nat) : Int), 0, [], []⟩ r.tail n := rfl
theorem goP_8 (E f d : Nat) (e : Ex) (r : List Tk) (n : Nat) : goP E (f + 1) 8 d e r n =
    if isT wColon r then andThen (goP E f 4 (d + 1) ex0 r.tail n) fun k r n => endedP E ⟨e.kind, e.a, e.b, [], [k]⟩ r n else failP E 2 r := rfl
theorem tail_len (r : List Tk) : r.tail.length = r.length - 1 := by simp
theorem shiftAt_len (r : List Tk) : (shiftAt r).length ≤ r.length - 1 := by
  unfold shiftAt
  split <;> simp only [tail_len] <;> omega
theorem goP_len (E : Nat) : ∀ (f m d : Nat) (e : Ex) (r : List Tk) (n : Nat) (e' : Ex) (r' : List Tk) (n' : Nat), m ≤ 8 → goP E f m d e r n = .ok (e', r', n') → r'.length + eats m ≤ r.length
  | 0, m, d, e, r, n, e', r', n', _, h => (failP_ok h).elim
  | f + 1, m, d, e, r, n, e', r', n', hm, h => by
    have ih := goP_len E f
    match m, hm with
    | 0, _ =>
      rw [goP_0] at h
      obtain ⟨e1, r1, n1, h1, h2⟩ := andThen_ok h
      have a := ih 2 _ _ _ _ _ _ _ (by omega) h1
      have b := ih 1 _ _ _ _ _ _ _ (by omega) h2
      simp [eats] at *; omega
    | 1, _ =>
      rw [goP_1] at h
      split at h
      · obtain ⟨e1, r1, n1, h1, h2⟩ := andThen_ok h
        obtain ⟨e2, r2, n2, h3, h4⟩ := andThen_ok h2
        have c := endedP_ok h3
        cases c
        have a := ih 2 _ _ _ _ _ _ _ (by omega) h1
        have b := ih 1 _ _ _ _ _ _ _ (by omega) h4
        simp [eats] at *; omega
      · split at h
        · obtain ⟨e1, r1, n1, h1, h2⟩ := andThen_ok h
          obtain ⟨e2, r2, n2, h3, h4⟩ := andThen_ok h2
          have c := endedP_ok h3
          cases c
          have a := ih 2 _ _ _ _ _ _ _ (by omega) h1
          have b := ih 1 _ _ _ _ _ _ _ (by omega) h4
          simp [eats] at *; omega
        · cases h; simp [eats]
    | 2, _ =>
      rw [goP_2] at h
      obtain ⟨e1, r1, n1, h1, h2⟩ := andThen_ok h
      have a := ih 4 _ _ _ _ _ _ _ (by omega) h1
      have b := ih 3 _ _ _ _ _ _ _ (by omega) h2
      simp [eats] at *; omega
    | 3, _ =>
      rw [goP_3] at h
      split at h
      · obtain ⟨e1, r1, n1, h1, h2⟩ := andThen_ok h
        obtain ⟨e2, r2, n2, h3, h4⟩ := andThen_ok h2
        have c := endedP_ok h3
        cases c
        have a := ih 4 _ _ _ _ _ _ _ (by omega) h1
        have b := ih 3 _ _ _ _ _ _ _ (by omega) h4
        simp [eats] at *; omega
      · cases h; simp [eats]
    | 4, _ =>
      rw [goP_4] at h
      obtain ⟨e1, r1, n1, h1, h2⟩ := andThen_ok h
      have a := ih 6 _ _ _ _ _ _ _ (by omega) h1
      have b := ih 5 _ _ _ _ _ _ _ (by omega) h2
      simp [eats] at *; omega
    | 5, _ =>
      rw [goP_5] at h
      have hs := shiftAt_len r
      split at h
      · split at h
        · exact (failP_ok h).elim
        · split at h
          · exact (failP_ok h).elim
          · obtain ⟨e2, r2, n2, h3, h4⟩ := andThen_ok h
            have c := endedP_ok h3
            cases c
            have b := ih 5 _ _ _ _ _ _ _ (by omega) h4
            simp [eats] at *; omega
      · cases h; simp [eats]
    | 6, _ =>
      rw [goP_6] at h
      by_cases c0 : 40 < d
      · rw [if_pos c0] at h; exact (failP_ok h).elim
      rw [if_neg c0] at h
      by_cases c1 : isT wOpen r = true
      · rw [if_pos c1] at h
        have := isT_cons (by decide) c1
        obtain ⟨e1, r1, n1, h1, h2⟩ := andThen_ok h
        have a := ih 0 _ _ _ _ _ _ _ (by omega) h1
        split at h2
        · cases h2
          simp [eats] at *; omega
        · exact (failP_ok h2).elim
      rw [if_neg c1] at h
      by_cases c2 : isT wNever r = true
      · rw [if_pos c2] at h
        have := isT_cons (by decide) c2
        cases endedP_ok h
        simp [eats] at *; omega
      rw [if_neg c2] at h
      by_cases c3 : isT wAlways r = true
      · rw [if_pos c3] at h
        have := isT_cons (by decide) c3
        cases endedP_ok h
        simp [eats] at *; omega
      rw [if_neg c3] at h
      by_cases c4 : isT wWeekly r = true
      · rw [if_pos c4] at h
        have := isT_cons (by decide) c4
        have a := ih 7 _ _ _ _ _ _ _ (by omega) h
        simp [eats] at *; omega
      rw [if_neg c4] at h
      by_cases c5 : isT wDates r = true
      · rw [if_pos c5] at h
        have := isT_cons (by decide) c5
        split at h
        · exact (failP_ok h).elim
        split at h
        · split at h
          · exact (failP_ok h).elim
          split at h
          · exact (failP_ok h).elim
          have a := ih 8 _ _ _ _ _ _ _ (by omega) h
          simp [eats] at *; omega
        · have a := ih 8 _ _ _ _ _ _ _ (by omega) h
          simp [eats] at *; omega
      rw [if_neg c5] at h
      by_cases c6 : kindP r = 1
      · rw [if_pos c6] at h
        have := kindP_cons (r := r) (by omega)
        cases endedP_ok h
        simp [eats] at *; omega
      rw [if_neg c6] at h
      by_cases c7 : kindP r ≠ 4
      · rw [if_pos c7] at h; exact (failP_ok h).elim
      rw [if_neg c7] at h
      have := kindP_cons (r := r) (by omega)
      split at h
      · split at h
        · exact (failP_ok h).elim
        split at h
        · exact (failP_ok h).elim
        cases endedP_ok h
        simp [eats] at *; omega
      · exact (failP_ok h).elim
    | 7, _ =>
      rw [goP_7] at h
      split at h
      · exact (failP_ok h).elim
      · rename_i hd
        have := dayBit_cons hd
        split at h
        · have a := ih 7 _ _ _ _ _ _ _ (by omega) h
          simp [eats] at *; omega
        · have a := ih 8 _ _ _ _ _ _ _ (by omega) h
          simp [eats] at *; omega
    | 8, _ =>
      rw [goP_8] at h
      split at h
      · rename_i ho
        have := isT_cons (by decide) ho
        obtain ⟨e1, r1, n1, h1, h2⟩ := andThen_ok h
        cases endedP_ok h2
        have a := ih 4 _ _ _ _ _ _ _ (by omega) h1
        simp [eats] at *; omega
      · exact (failP_ok h).elim
theorem andThen_congr {x y : Res} {f g : Ex → List Tk → Nat → Res} (h : x = y) (hf : ∀ e r n, y = .ok (e, r, n) → f e r n = g e r n) : andThen x f = andThen y g := by
  subst h
  match x with
  | .error _ => rfl
  | .ok (e, r, n) => exact hf e r n rfl
def rank (m : Nat) : Nat := if m = 0 then 4 else if m = 2 then 3 else if m = 4 then 2 else 1
def need (m : Nat) (r : List Tk) : Nat := 4 * r.length + rank m
theorem goP_more (E : Nat) : ∀ (f m d : Nat) (e : Ex) (r : List Tk) (n : Nat), m ≤ 8 → need m r ≤ f → goP E (f + 1) m d e r n = goP E f m d e r n
  | 0, m, d, e, r, n, _, h => by
    unfold need rank at h
    exfalso
    split at h
    · omega
    split at h
    · omega
    split at h <;> omega
  | f + 1, m, d, e, r, n, hm, h => by
    have ih := goP_more E f
    have len := goP_len E f
    unfold need at h ih
    match m, hm with
    | 0, _ =>
      rw [goP_0, goP_0]
      refine andThen_congr (ih 2 _ _ _ _ (by omega) (by simp [rank] at *; omega)) fun e1 r1 n1 h1 => ?_
      have a := len 2 _ _ _ _ _ _ _ (by omega) h1
      exact ih 1 _ _ _ _ (by omega) (by simp [rank, eats] at *; omega)
    | 1, _ =>
      rw [goP_1, goP_1]
      split
      · rename_i ho
        have := isT_cons (by decide) ho
        refine andThen_congr (ih 2 _ _ _ _ (by omega) (by simp [rank] at *; omega)) fun e1 r1 n1 h1 => ?_
        have a := len 2 _ _ _ _ _ _ _ (by omega) h1
        refine andThen_congr rfl fun e2 r2 n2 h2 => ?_
        cases endedP_ok h2
        exact ih 1 _ _ _ _ (by omega) (by simp [rank, eats] at *; omega)
      · split
        · rename_i ho
          have := isT_cons (by decide) ho
          refine andThen_congr (ih 2 _ _ _ _ (by omega) (by simp [rank] at *; omega)) fun e1 r1 n1 h1 => ?_
          have a := len 2 _ _ _ _ _ _ _ (by omega) h1
          refine andThen_congr rfl fun e2 r2 n2 h2 => ?_
          cases endedP_ok h2
          exact ih 1 _ _ _ _ (by omega) (by simp [rank, eats] at *; omega)
        · rfl
    | 2, _ =>
      rw [goP_2, goP_2]
      refine andThen_congr (ih 4 _ _ _ _ (by omega) (by simp [rank] at *; omega)) fun e1 r1 n1 h1 => ?_
      have a := len 4 _ _ _ _ _ _ _ (by omega) h1
      exact ih 3 _ _ _ _ (by omega) (by simp [rank, eats] at *; omega)
    | 3, _ =>
      rw [goP_3, goP_3]
      split
      · rename_i ho
        have := isT_cons (by decide) ho
        refine andThen_congr (ih 4 _ _ _ _ (by omega) (by simp [rank] at *; omega)) fun e1 r1 n1 h1 => ?_
        have a := len 4 _ _ _ _ _ _ _ (by omega) h1
        refine andThen_congr rfl fun e2 r2 n2 h2 => ?_
        cases endedP_ok h2
        exact ih 3 _ _ _ _ (by omega) (by simp [rank, eats] at *; omega)
      · rfl
    | 4, _ =>
      rw [goP_4, goP_4]
      refine andThen_congr (ih 6 _ _ _ _ (by omega) (by simp [rank] at *; omega)) fun e1 r1 n1 h1 => ?_
      have a := len 6 _ _ _ _ _ _ _ (by omega) h1
      exact ih 5 _ _ _ _ (by omega) (by simp [rank, eats] at *; omega)
    | 5, _ =>
      rw [goP_5, goP_5]
      have hs := shiftAt_len r
      split
      · rename_i ho
        have := isT_cons (by decide) ho
        split
        · rfl
        split
        · rfl
        refine andThen_congr rfl fun e2 r2 n2 h2 => ?_
        cases endedP_ok h2
        exact ih 5 _ _ _ _ (by omega) (by simp [rank] at *; omega)
      · rfl
    | 6, _ =>
      rw [goP_6 E (f + 1), goP_6 E f]
      by_cases c0 : 40 < d
      · rw [if_pos c0, if_pos c0]
      rw [if_neg c0, if_neg c0]
      by_cases c1 : isT wOpen r = true
      · rw [if_pos c1, if_pos c1]
        have := isT_cons (by decide) c1
        exact andThen_congr (ih 0 _ _ _ _ (by omega) (by simp [rank] at *; omega)) fun e1 r1 n1 h1 => rfl
      rw [if_neg c1, if_neg c1]
      by_cases c2 : isT wNever r = true
      · rw [if_pos c2, if_pos c2]
      rw [if_neg c2, if_neg c2]
      by_cases c3 : isT wAlways r = true
      · rw [if_pos c3, if_pos c3]
      rw [if_neg c3, if_neg c3]
      by_cases c4 : isT wWeekly r = true
      · rw [if_pos c4, if_pos c4]
        have := isT_cons (by decide) c4
        exact ih 7 _ _ _ _ (by omega) (by simp [rank] at *; omega)
      rw [if_neg c4, if_neg c4]
      by_cases c5 : isT wDates r = true
      · rw [if_pos c5, if_pos c5]
        have := isT_cons (by decide) c5
        rw [ih 8 d ⟨5, numP r.tail, numP r.tail.tail.tail, [], []⟩ r.tail.tail.tail.tail n (by omega) (by simp [rank] at *; omega), ih 8 d ⟨5, numP r.tail, numP r.tail, [], []⟩ r.tail.tail n (by omega) (by simp [rank] at *; omega)]
      rw [if_neg c5, if_neg c5]
    | 7, _ =>
      rw [goP_7 E (f + 1) d e r n, goP_7 E f d e r n]
      split
      · rfl
      · rename_i hd
        have := dayBit_cons hd
        split
        · exact ih 7 _ _ _ _ (by omega) (by simp [rank] at *; omega)
        · exact ih 8 _ _ _ _ (by omega) (by simp [rank] at *; omega)
    | 8, _ =>
      rw [goP_8, goP_8]
      split
      · rename_i ho
        have := isT_cons (by decide) ho
        exact andThen_congr (ih 4 _ _ _ _ (by omega) (by simp [rank] at *; omega)) fun e1 r1 n1 h1 => rfl
      · rfl
def rd (E m d : Nat) (e : Ex) (r : List Tk) (n : Nat) : Res := goP E (need m r) m d e r n
theorem goP_rd (E m d : Nat) (e : Ex) (r : List Tk) (n : Nat) (hm : m ≤ 8) : ∀ f, need m r ≤ f → goP E f m d e r n = rd E m d e r n
  | f, h => by
    obtain ⟨k, rfl⟩ : ∃ k, f = need m r + k := ⟨f - need m r, by omega⟩
    clear h
    induction k with
    | zero => rfl
    | succ k ih => rw [← Nat.add_assoc, goP_more E _ m d e r n hm (by omega)]; exact ih
end Lx

/- The reader, way by way, without a count of what it may still do; the rules of a text. -/
namespace Lx
theorem rd_len {E m d : Nat} {e : Ex} {r : List Tk} {n : Nat} {e' : Ex} {r' : List Tk} {n' : Nat} (hm : m ≤ 8) (h : rd E m d e r n = .ok (e', r', n')) : r'.length + eats m ≤ r.length := goP_len E _ m d e r n e' r' n' hm h
theorem rd_0 (E d : Nat) (e : Ex) (r : List Tk) (n : Nat) : rd E 0 d e r n = andThen (rd E 2 d ex0 r n) fun e r n => rd E 1 d e r n := by
  have h : need 0 r = 4 * r.length + 3 + 1 := by simp [need, rank]
  show goP E (need 0 r) 0 d e r n = _
  rw [h, goP_0]
  refine andThen_congr (goP_rd E 2 d ex0 r n (by omega) _ (by simp [need, rank])) fun e1 r1 n1 h1 => ?_
  have a := rd_len (by omega) h1
  exact goP_rd E 1 d e1 r1 n1 (by omega) _ (by simp [need, rank, eats] at *; omega)
theorem rd_2 (E d : Nat) (e : Ex) (r : List Tk) (n : Nat) : rd E 2 d e r n = andThen (rd E 4 d ex0 r n) fun e r n => rd E 3 d e r n := by
  have h : need 2 r = 4 * r.length + 2 + 1 := by simp [need, rank]
  show goP E (need 2 r) 2 d e r n = _
  rw [h, goP_2]
  refine andThen_congr (goP_rd E 4 d ex0 r n (by omega) _ (by simp [need, rank])) fun e1 r1 n1 h1 => ?_
  have a := rd_len (by omega) h1
  exact goP_rd E 3 d e1 r1 n1 (by omega) _ (by simp [need, rank, eats] at *; omega)
theorem rd_4 (E d : Nat) (e : Ex) (r : List Tk) (n : Nat) : rd E 4 d e r n = andThen (rd E 6 d ex0 r n) fun e r n => rd E 5 d e r n := by
  have h : need 4 r = 4 * r.length + 1 + 1 := by simp [need, rank]
  show goP E (need 4 r) 4 d e r n = _
  rw [h, goP_4]
  refine andThen_congr (goP_rd E 6 d ex0 r n (by omega) _ (by simp [need, rank])) fun e1 r1 n1 h1 => ?_
  have a := rd_len (by omega) h1
  exact goP_rd E 5 d e1 r1 n1 (by omega) _ (by simp [need, rank, eats] at *; omega)
theorem rd_1 (E d : Nat) (e : Ex) (r : List Tk) (n : Nat) : rd E 1 d e r n =
    if isT wPlus r then andThen (rd E 2 d ex0 r.tail n) fun t r n => andThen (endedP E ⟨6, 0, 0, [], [e, t]⟩ r n) fun e r n => rd E 1 d e r n
    else if isT wMinus r then andThen (rd E 2 d ex0 r.tail n) fun t r n => andThen (endedP E ⟨7, 0, 0, [], [e, t]⟩ r n) fun e r n => rd E 1 d e r n
    else .ok (e, r, n) := by
  have h : need 1 r = 4 * r.length + 1 := by simp [need, rank]
  show goP E (need 1 r) 1 d e r n = _
  rw [h, goP_1]
  by_cases c1 : isT wPlus r = true
  · rw [if_pos c1, if_pos c1]
    have := isT_cons (by decide) c1
    refine andThen_congr (goP_rd E 2 d ex0 r.tail n (by omega) _ (by simp [need, rank]; omega)) fun e1 r1 n1 h1 => ?_
    have a := rd_len (by omega) h1
    refine andThen_congr rfl fun e2 r2 n2 h2 => ?_
    cases endedP_ok h2
    exact goP_rd E 1 d _ _ _ (by omega) _ (by simp [need, rank, eats] at *; omega)
  · rw [if_neg c1, if_neg c1]
    by_cases c2 : isT wMinus r = true
    · rw [if_pos c2, if_pos c2]
      have := isT_cons (by decide) c2
      refine andThen_congr (goP_rd E 2 d ex0 r.tail n (by omega) _ (by simp [need, rank]; omega)) fun e1 r1 n1 h1 => ?_
      have a := rd_len (by omega) h1
      refine andThen_congr rfl fun e2 r2 n2 h2 => ?_
      cases endedP_ok h2
      exact goP_rd E 1 d _ _ _ (by omega) _ (by simp [need, rank, eats] at *; omega)
    · rw [if_neg c2, if_neg c2]
theorem rd_3 (E d : Nat) (e : Ex) (r : List Tk) (n : Nat) : rd E 3 d e r n =
    if isT wAnd r then andThen (rd E 4 d ex0 r.tail n) fun t r n => andThen (endedP E ⟨8, 0, 0, [], [e, t]⟩ r n) fun e r n => rd E 3 d e r n
    else .ok (e, r, n) := by
  have h : need 3 r = 4 * r.length + 1 := by simp [need, rank]
  show goP E (need 3 r) 3 d e r n = _
  rw [h, goP_3]
  by_cases c1 : isT wAnd r = true
  · rw [if_pos c1, if_pos c1]
    have := isT_cons (by decide) c1
    refine andThen_congr (goP_rd E 4 d ex0 r.tail n (by omega) _ (by simp [need, rank]; omega)) fun e1 r1 n1 h1 => ?_
    have a := rd_len (by omega) h1
    refine andThen_congr rfl fun e2 r2 n2 h2 => ?_
    cases endedP_ok h2
    exact goP_rd E 3 d _ _ _ (by omega) _ (by simp [need, rank, eats] at *; omega)
  · rw [if_neg c1, if_neg c1]
theorem rd_5 (E d : Nat) (e : Ex) (r : List Tk) (n : Nat) : rd E 5 d e r n = if isT wShift r then
      if kindP (shiftAt r) ≠ 6 then failP E 2 (shiftAt r)
      else if 1440 ≤ numP (shiftAt r) ∨ numP (shiftAt r) < 1 then failP E 3 (shiftAt r)
      else andThen (endedP E ⟨9, if isT wMinus r.tail then - numP (shiftAt r) else numP (shiftAt r), 0, [], [e]⟩ (shiftAt r).tail n) fun e r n => rd E 5 d e r n
    else .ok (e, r, n) := by
  have h : need 5 r = 4 * r.length + 1 := by simp [need, rank]
  show goP E (need 5 r) 5 d e r n = _
  rw [h, goP_5]
  have hs := shiftAt_len r
  by_cases c1 : isT wShift r = true
  · rw [if_pos c1, if_pos c1]
    have := isT_cons (by decide) c1
    by_cases c2 : kindP (shiftAt r) ≠ 6
    · rw [if_pos c2, if_pos c2]
    rw [if_neg c2, if_neg c2]
    by_cases c3 : 1440 ≤ numP (shiftAt r) ∨ numP (shiftAt r) < 1
    · rw [if_pos c3, if_pos c3]
    rw [if_neg c3, if_neg c3]
    refine andThen_congr rfl fun e2 r2 n2 h2 => ?_
    cases endedP_ok h2
    exact goP_rd E 5 d _ _ _ (by omega) _ (by simp [need, rank] at *; omega)
  · rw [if_neg c1, if_neg c1]
theorem rd_6 (E d : Nat) (e : Ex) (r : List Tk) (n : Nat) : rd E 6 d e r n =
    if 40 < d then failP E 4 r
    else if isT wOpen r then andThen (rd E 0 (d + 1) ex0 r.tail n) fun e r n => if isT wShut r then .ok (e, r.tail, n) else failP E 2 r
    else if isT wNever r then endedP E ⟨1, 0, 0, [], []⟩ r.tail n
    else if isT wAlways r then endedP E ⟨2, 0, 0, [], []⟩ r.tail n
    else if isT wWeekly r then rd E 7 d ex0 r.tail n
    else if isT wDates r then
      if kindP r.tail ≠ 5 then failP E 2 r.tail
      else if isT wTo r.tail.tail then
        if kindP r.tail.tail.tail ≠ 5 then failP E 2 r.tail.tail.tail
        else if numP r.tail.tail.tail < numP r.tail then failP E 3 r.tail.tail.tail
        else rd E 8 d ⟨5, numP r.tail, numP r.tail.tail.tail, [], []⟩ r.tail.tail.tail.tail n
      else rd E 8 d ⟨5, numP r.tail, numP r.tail, [], []⟩ r.tail.tail n
    else if kindP r = 1 then endedP E ⟨10, 0, 0, textP r, []⟩ r.tail n
    else if kindP r ≠ 4 then failP E 2 r
    else if isT wMinus r.tail then
      if kindP r.tail.tail ≠ 4 then failP E 2 r.tail.tail
      else if numP r.tail.tail < numP r + 1 then failP E 3 r.tail.tail
      else endedP E ⟨3, numP r, numP r.tail.tail, [], []⟩ r.tail.tail.tail n
    else failP E 2 r.tail := by
  have h : need 6 r = 4 * r.length + 1 := by simp [need, rank]
  show goP E (need 6 r) 6 d e r n = _
  rw [h, goP_6]
  by_cases c0 : 40 < d
  · rw [if_pos c0, if_pos c0]
  rw [if_neg c0, if_neg c0]
  by_cases c1 : isT wOpen r = true
  · rw [if_pos c1, if_pos c1]
    have := isT_cons (by decide) c1
    exact andThen_congr (goP_rd E 0 _ _ _ _ (by omega) _ (by simp [need, rank] at *; omega)) fun e1 r1 n1 h1 => rfl
  rw [if_neg c1, if_neg c1]
  by_cases c2 : isT wNever r = true
  · rw [if_pos c2, if_pos c2]
  rw [if_neg c2, if_neg c2]
  by_cases c3 : isT wAlways r = true
  · rw [if_pos c3, if_pos c3]
  rw [if_neg c3, if_neg c3]
  by_cases c4 : isT wWeekly r = true
  · rw [if_pos c4, if_pos c4]
    have := isT_cons (by decide) c4
    exact goP_rd E 7 _ _ _ _ (by omega) _ (by simp [need, rank] at *; omega)
  rw [if_neg c4, if_neg c4]
  by_cases c5 : isT wDates r = true
  · rw [if_pos c5, if_pos c5]
    have := isT_cons (by decide) c5
    rw [goP_rd E 8 d ⟨5, numP r.tail, numP r.tail.tail.tail, [], []⟩ r.tail.tail.tail.tail n (by omega) _ (by simp [need, rank] at *; omega), goP_rd E 8 d ⟨5, numP r.tail, numP r.tail, [], []⟩ r.tail.tail n (by omega) _ (by simp [need, rank] at *; omega)]
  rw [if_neg c5, if_neg c5]
theorem rd_7 (E d : Nat) (e : Ex) (r : List Tk) (n : Nat) : rd E 7 d e r n =
    if dayBit (textP r) = 0 then failP E 2 r
    else if isT wComma r.tail then rd E 7 d ⟨0, ((e.a.toNat ||| dayBit (textP r) : Nat) : Int), 0, [], []⟩ r.tail.tail n
    else rd E 8 d ⟨4, ((e.a.toNat ||| dayBit (textP r) : Nat) : Int), 0, [], []⟩ r.tail n := by
  have h : need 7 r = 4 * r.length + 1 := by simp [need, rank]
  show goP E (need 7 r) 7 d e r n = _
  rw [h, goP_7]
  by_cases c1 : dayBit (textP r) = 0
  · rw [if_pos c1, if_pos c1]
  rw [if_neg c1, if_neg c1]
  have := dayBit_cons c1
  rw [goP_rd E 7 d _ r.tail.tail n (by omega) _ (by simp [need, rank] at *; omega), goP_rd E 8 d _ r.tail n (by omega) _ (by simp [need, rank] at *; omega)]
theorem rd_8 (E d : Nat) (e : Ex) (r : List Tk) (n : Nat) : rd E 8 d e r n =
    if isT wColon r then andThen (rd E 4 (d + 1) ex0 r.tail n) fun k r n => endedP E ⟨e.kind, e.a, e.b, [], [k]⟩ r n else failP E 2 r := by
  have h : need 8 r = 4 * r.length + 1 := by simp [need, rank]
  show goP E (need 8 r) 8 d e r n = _
  rw [h, goP_8]
  by_cases c1 : isT wColon r = true
  · rw [if_pos c1, if_pos c1]
    have := isT_cons (by decide) c1
    exact andThen_congr (goP_rd E 4 _ _ _ _ (by omega) _ (by simp [need, rank] at *; omega)) fun e1 r1 n1 h1 => rfl
  · rw [if_neg c1, if_neg c1]
end Lx

/- How deep an expression is: plain. -/
namespace Lx
theorem kid_lt {e k : Ex} (h : k ∈ e.kids) : sizeOf k < sizeOf e := by
  have h1 := List.sizeOf_lt_of_mem h
  cases e
  simp only [Ex.mk.sizeOf_spec] at *
  omega
def hgt (e : Ex) : Nat := (e.kids.attach.map fun k => hgt k.1).foldl max 0 + 1
  termination_by sizeOf e
  decreasing_by exact kid_lt k.2
def hgtL (l : List Ex) : Nat := (l.map hgt).foldl max 0
theorem hgt_eq (e : Ex) : hgt e = hgtL e.kids + 1 := by
  rw [hgt, hgtL]
  show (List.map (hgt ∘ Subtype.val) e.kids.attach).foldl max 0 + 1 = _
  rw [← List.map_map, List.attach_map_subtype_val]
theorem foldl_max (l : List Nat) : ∀ a, l.foldl max a = max a (l.foldl max 0) := by
  induction l with
  | nil => intro a; simp
  | cons b l ih =>
    intro a
    simp only [List.foldl_cons]
    rw [ih (max a b), ih (max 0 b)]
    omega
theorem hgtL_nil : hgtL [] = 0 := rfl
theorem hgtL_cons (k : Ex) (l : List Ex) : hgtL (k :: l) = max (hgt k) (hgtL l) := by
  unfold hgtL
  simp only [List.map_cons, List.foldl_cons]
  rw [foldl_max]; omega
theorem hgtL_snoc (l : List Ex) (k : Ex) : hgtL (l ++ [k]) = max (hgtL l) (hgt k) := by
  unfold hgtL
  rw [List.map_append, List.foldl_append]
  rfl
theorem hgt_kid {e k : Ex} (h : k ∈ e.kids) : hgt k < hgt e := by
  rw [hgt_eq e]
  generalize e.kids = l at *
  induction l with
  | nil => cases h
  | cons q l ih =>
    rw [hgtL_cons]
    rcases List.mem_cons.1 h with rfl | h
    · omega
    · have := ih h; omega
theorem goP_hgt (E : Nat) : ∀ (f m d : Nat) (e : Ex) (r : List Tk) (n : Nat) (e' : Ex) (r' : List Tk) (n' : Nat), m ≤ 8 → (m = 1 ∨ m = 3 ∨ m = 5 → hgt e ≤ n) → goP E f m d e r n = .ok (e', r', n') → hgt e' ≤ n' ∧ n ≤ n'
  | 0, m, d, e, r, n, e', r', n', _, _, h => (failP_ok h).elim
  | f + 1, m, d, e, r, n, e', r', n', hm, he, h => by
    have ih := goP_hgt E f
    have leaf : ∀ (k a b : Int) (x : List UInt8), hgt ⟨k, a, b, x, []⟩ = 1 := fun k a b x => by rw [hgt_eq]; rfl
    have one : ∀ (k a b : Int) (x : List UInt8) (t : Ex), hgt ⟨k, a, b, x, [t]⟩ = hgt t + 1 := fun k a b x t => by
      rw [hgt_eq]; show hgtL [t] + 1 = _; rw [hgtL_cons, hgtL_nil]; omega
    have two : ∀ (k a b : Int) (x : List UInt8) (s t : Ex), hgt ⟨k, a, b, x, [s, t]⟩ = max (hgt s) (hgt t) + 1 := fun k a b x s t => by
      rw [hgt_eq]; show hgtL [s, t] + 1 = _; rw [hgtL_cons, hgtL_cons, hgtL_nil]; omega
    match m, hm with
    | 0, _ =>
      rw [goP_0] at h
      obtain ⟨e1, r1, n1, h1, h2⟩ := andThen_ok h
      have a := ih 2 _ _ _ _ _ _ _ (by omega) (by omega) h1
      have b := ih 1 _ _ _ _ _ _ _ (by omega) (fun _ => a.1) h2
      omega
    | 1, _ =>
      rw [goP_1] at h
      have he' := he (by omega)
      split at h
      · obtain ⟨e1, r1, n1, h1, h2⟩ := andThen_ok h
        obtain ⟨e2, r2, n2, h3, h4⟩ := andThen_ok h2
        have a := ih 2 _ _ _ _ _ _ _ (by omega) (by omega) h1
        cases endedP_ok h3
        have b := ih 1 _ _ _ _ _ _ _ (by omega) (fun _ => by rw [two]; omega) h4
        omega
      · split at h
        · obtain ⟨e1, r1, n1, h1, h2⟩ := andThen_ok h
          obtain ⟨e2, r2, n2, h3, h4⟩ := andThen_ok h2
          have a := ih 2 _ _ _ _ _ _ _ (by omega) (by omega) h1
          cases endedP_ok h3
          have b := ih 1 _ _ _ _ _ _ _ (by omega) (fun _ => by rw [two]; omega) h4
          omega
        · cases h; omega
    | 2, _ =>
      rw [goP_2] at h
      obtain ⟨e1, r1, n1, h1, h2⟩ := andThen_ok h
      have a := ih 4 _ _ _ _ _ _ _ (by omega) (by omega) h1
      have b := ih 3 _ _ _ _ _ _ _ (by omega) (fun _ => a.1) h2
      omega
    | 3, _ =>
      rw [goP_3] at h
      have he' := he (by omega)
      split at h
      · obtain ⟨e1, r1, n1, h1, h2⟩ := andThen_ok h
        obtain ⟨e2, r2, n2, h3, h4⟩ := andThen_ok h2
        have a := ih 4 _ _ _ _ _ _ _ (by omega) (by omega) h1
        cases endedP_ok h3
        have b := ih 3 _ _ _ _ _ _ _ (by omega) (fun _ => by rw [two]; omega) h4
        omega
      · cases h; omega
    | 4, _ =>
      rw [goP_4] at h
      obtain ⟨e1, r1, n1, h1, h2⟩ := andThen_ok h
      have a := ih 6 _ _ _ _ _ _ _ (by omega) (by omega) h1
      have b := ih 5 _ _ _ _ _ _ _ (by omega) (fun _ => a.1) h2
      omega
    | 5, _ =>
      rw [goP_5] at h
      have he' := he (by omega)
      split at h
      · split at h
        · exact (failP_ok h).elim
        · split at h
          · exact (failP_ok h).elim
          · obtain ⟨e2, r2, n2, h3, h4⟩ := andThen_ok h
            cases endedP_ok h3
            have b := ih 5 _ _ _ _ _ _ _ (by omega) (fun _ => by rw [one]; omega) h4
            omega
      · cases h; omega
    | 6, _ =>
      rw [goP_6] at h
      by_cases c0 : 40 < d
      · rw [if_pos c0] at h; exact (failP_ok h).elim
      rw [if_neg c0] at h
      by_cases c1 : isT wOpen r = true
      · rw [if_pos c1] at h
        obtain ⟨e1, r1, n1, h1, h2⟩ := andThen_ok h
        have a := ih 0 _ _ _ _ _ _ _ (by omega) (by omega) h1
        split at h2
        · cases h2; omega
        · exact (failP_ok h2).elim
      rw [if_neg c1] at h
      by_cases c2 : isT wNever r = true
      · rw [if_pos c2] at h
        cases endedP_ok h
        rw [leaf]; omega
      rw [if_neg c2] at h
      by_cases c3 : isT wAlways r = true
      · rw [if_pos c3] at h
        cases endedP_ok h
        rw [leaf]; omega
      rw [if_neg c3] at h
      by_cases c4 : isT wWeekly r = true
      · rw [if_pos c4] at h
        exact ih 7 _ _ _ _ _ _ _ (by omega) (by omega) h
      rw [if_neg c4] at h
      by_cases c5 : isT wDates r = true
      · rw [if_pos c5] at h
        split at h
        · exact (failP_ok h).elim
        split at h
        · split at h
          · exact (failP_ok h).elim
          split at h
          · exact (failP_ok h).elim
          exact ih 8 _ _ _ _ _ _ _ (by omega) (by omega) h
        · exact ih 8 _ _ _ _ _ _ _ (by omega) (by omega) h
      rw [if_neg c5] at h
      by_cases c6 : kindP r = 1
      · rw [if_pos c6] at h
        cases endedP_ok h
        rw [leaf]; omega
      rw [if_neg c6] at h
      by_cases c7 : kindP r ≠ 4
      · rw [if_pos c7] at h; exact (failP_ok h).elim
      rw [if_neg c7] at h
      split at h
      · split at h
        · exact (failP_ok h).elim
        split at h
        · exact (failP_ok h).elim
        cases endedP_ok h
        rw [leaf]; omega
      · exact (failP_ok h).elim
    | 7, _ =>
      rw [goP_7] at h
      split at h
      · exact (failP_ok h).elim
      · split at h
        · exact ih 7 _ _ _ _ _ _ _ (by omega) (by omega) h
        · exact ih 8 _ _ _ _ _ _ _ (by omega) (by omega) h
    | 8, _ =>
      rw [goP_8] at h
      split at h
      · obtain ⟨e1, r1, n1, h1, h2⟩ := andThen_ok h
        cases endedP_ok h2
        have a := ih 4 _ _ _ _ _ _ _ (by omega) (by omega) h1
        rw [one]; omega
      · exact (failP_ok h).elim
theorem rd_hgt {E d : Nat} {e : Ex} {r : List Tk} {n : Nat} {e' : Ex} {r' : List Tk} {n' : Nat} (h : rd E 0 d e r n = .ok (e', r', n')) : hgt e' ≤ n' := (goP_hgt E _ 0 d e r n e' r' n' (by omega) (by omega) h).1
abbrev Ru := List UInt8 × Ex
def ruleR (E : Nat) (r : List Tk) : Except (Int × Nat) (Ru × List Tk) :=
  if kindP r ≠ 1 then .error (2, atP E r)
  else if isT wIs r.tail then
    match rd E 0 1 ex0 r.tail.tail 0 with
    | .error q => .error q
    | .ok (e, q, _) => if 40 < hgt e then .error (4, atP E q) else if isT wSemi q then .ok ((textP r, e), q.tail) else .error (2, atP E q)
  else .error (2, atP E r.tail)
def rulesR (E : Nat) : Nat → List Ru → List Tk → Except (Int × Nat) (List Ru)
  | 0, acc, _ => .ok acc
  | f + 1, acc, r =>
    if r.length = 0 then .ok acc
    else if isT wRule r then
      if acc.length = 40 then .error (5, atP E r.tail)
      else match ruleR E r.tail with
        | .error q => .error q
        | .ok (u, q) => rulesR E f (acc ++ [u]) q
    else .error (2, atP E r)
end Lx

/- What lex.isDigit, lex.isLetter and lex.value come to. -/
namespace Go.Proofs.YtgfjbcdjpkcbkaaGreatDoor
open Go.RowKit Lx
theorem digit_any (c : UInt8) (w : World) : Calls Tryz.prog 68 #[.int .u8 (c.toNat : Int)] w fun e w' => e = .returned (.bool (isD c)) ∧ w' = w := by
  unfold isD
  by_cases h1 : 48 ≤ c.toNat
  · by_cases h2 : c.toNat ≤ 57
    · have i1 : (48 : Int) ≤ (c.toNat : Int) := by omega
      have i2 : (c.toNat : Int) ≤ 57 := by omega
      rw [decide_eq_true h1, decide_eq_true h2]
      go_enter Tryz.func68, Tryz.ntmps68
      go_wp2
      go_ret
      exact ⟨rfl, rfl⟩
    · have i1 : (48 : Int) ≤ (c.toNat : Int) := by omega
      have i2 : ¬ (c.toNat : Int) ≤ 57 := by omega
      rw [decide_eq_true h1, decide_eq_false h2]
      go_enter Tryz.func68, Tryz.ntmps68
      go_wp2
      go_ret
      exact ⟨rfl, rfl⟩
  · have i1 : ¬ (48 : Int) ≤ (c.toNat : Int) := by omega
    rw [decide_eq_false h1]
    go_enter Tryz.func68, Tryz.ntmps68
    go_wp2
    go_ret
    exact ⟨rfl, rfl⟩
theorem letter_any (c : UInt8) (w : World) : Calls Tryz.prog 70 #[.int .u8 (c.toNat : Int)] w fun e w' => e = .returned (.bool (isL c)) ∧ w' = w := by
  unfold isL
  by_cases h1 : 97 ≤ c.toNat
  · by_cases h2 : c.toNat ≤ 122
    · have i1 : (97 : Int) ≤ (c.toNat : Int) := by omega
      have i2 : (c.toNat : Int) ≤ 122 := by omega
      rw [decide_eq_true h1, decide_eq_true h2]
      go_enter Tryz.func70, Tryz.ntmps70
      go_wp2
      go_ret
      exact ⟨rfl, rfl⟩
    · have i1 : (97 : Int) ≤ (c.toNat : Int) := by omega
      have i2 : ¬ (c.toNat : Int) ≤ 122 := by omega
      rw [decide_eq_true h1, decide_eq_false h2]
      go_enter Tryz.func70, Tryz.ntmps70
      go_wp2
      go_ret
      exact ⟨rfl, rfl⟩
  · have i1 : ¬ (97 : Int) ≤ (c.toNat : Int) := by omega
    rw [decide_eq_false h1]
    go_enter Tryz.func70, Tryz.ntmps70
    go_wp2
    go_ret
    exact ⟨rfl, rfl⟩
theorem byte_at {s : ByteArray} {l : List UInt8} (hs : s.data.toList = l) (k : Nat) (hk : k < s.size) : s[k] = l.getD k 0 := by
  subst hs
  have h : k < s.data.size := hk
  show s.data[k] = _
  rw [List.getD_eq_getElem?_getD, Array.getElem?_toList, Array.getElem?_eq_getElem h]
  rfl
theorem i64_eq {a b : Int} (h : a = b) : Value.int .i64 a = Value.int .i64 b := by rw [h]
set_option maxHeartbeats 400000 in
theorem value_any (s : ByteArray) (l : List UInt8) (hs : s.data.toList = l) (hl : l.length ≤ 6) (hd : ∀ i, i < l.length → isD (l.getD i 0) = true) (w : World) :
    Calls Tryz.prog 85 #[.string s] w fun e w' => e = .returned (.int .i64 (valL l)) ∧ w' = w := by
  have hz : s.size = l.length := by rw [← hs, Lib.size_eq]
  go_enter Tryz.func85, Tryz.ntmps85
  go_wp2
  go_loop [3, 7] (fun n i => ∃ k : Nat, k ≤ l.length ∧ i = .int .i64 k ∧ n = .int .i64 (valL (l.take k))) (fun _ i => l.length - (intOf i).toNat)
  case atStart => exact ⟨0, by omega, rfl, rfl⟩
  case round =>
    obtain ⟨k, hk, rfl, rfl⟩ := hrel
    by_cases hlt : k < l.length
    · have hlt' : (k : Int) < (l.length : Int) := by omega
      have hk0 : (0 : Int) ≤ (k : Int) := by omega
      have hv := valL_small l hd k (by omega) (by omega)
      have hdk := hd k hlt
      have e1 := byte_at hs k (by omega)
      have e2 := valL_take l k hlt
      have HE : Hid (valL (l.take (k + 1)) = 10 * valL (l.take k) + (((l.getD k 0).toNat : Int) - 48)) := e2
      simp only [isD, Bool.and_eq_true, decide_eq_true_eq] at hdk
      have HK : Hid (48 ≤ (l.getD k 0).toNat ∧ (l.getD k 0).toNat ≤ 57) := hdk
      have HB : Hid (s[k] = l.getD k 0) := e1
      clear hdk e1 e2 hd
      go_wp2
      go_round
      case rel =>
        refine ⟨k + 1, by omega, by go_num, i64_eq ?_⟩
        have h2 := HK.out
        rw [HB.out, HE.out]
        generalize (l.getD k 0).toNat = c at h2
        generalize valL (l.take k) = v at hv
        omega
      case measure => simp [intOf]; omega
    · have hkl : k = l.length := by omega
      subst hkl
      have e : valL (l.take l.length) = valL l := by rw [List.take_length]
      go_wp2
      go_ret
      exact ⟨rfl, rfl⟩
end Go.Proofs.YtgfjbcdjpkcbkaaGreatDoor

/- What lex.fits comes to. -/
namespace Go.Proofs.YtgfjbcdjpkcbkaaGreatDoor
open Go.RowKit Lx
set_option maxRecDepth 10000 in
set_option maxHeartbeats 1000000 in
theorem fits_any (s t : ByteArray) (l m : List UInt8) (hs : s.data.toList = l) (ht : t.data.toList = m) (hl : l.length ≤ 9223372036854775807) (hm : m.length ≤ 100) (w : World) :
    Calls Tryz.prog 65 #[.string s, .string t] w fun e w' => e = .returned (.bool (fitsL l m)) ∧ Below w.heap.size w w' := by
  have hz : s.size = l.length := by rw [← hs, Lib.size_eq]
  have hy : t.size = m.length := by rw [← ht, Lib.size_eq]
  by_cases hsh : m.length ≤ l.length
  · have hsh' : ¬ (l.length : Int) < (m.length : Int) := by omega
    go_enter Tryz.func65, Tryz.ntmps65
    go_wp2
    go_loopw [13] (fun i wr => ∃ k : Nat, k ≤ m.length ∧ i = .int .i64 k ∧ (∀ i, i < k → okB (m.getD i 0) (l.getD i 0) = true) ∧ Below w.heap.size w wr) (fun i _ => m.length - (intOf i).toNat)
    case atStart => exact ⟨0, by omega, rfl, fun i h => by omega, Below.refl _ _⟩
    case round =>
      obtain ⟨k, hk, rfl, hall, hbel⟩ := hrel
      have HA : Hid (∀ i, i < k → okB (m.getD i 0) (l.getD i 0) = true) := hall
      clear hall
      by_cases hlt : k < m.length
      · have hlt' : (k : Int) < (m.length : Int) := by omega
        have hlt2 : (k : Int) < (l.length : Int) := by omega
        have hk0 : (0 : Int) ≤ (k : Int) := by omega
        have e1 := byte_at hs k (by omega)
        have e2 := byte_at ht k (by omega)
        have g1 : ∀ h : k < s.size, s[k] = l.getD k 0 := fun _ => e1
        have g2 : ∀ h : k < t.size, t[k] = m.getD k 0 := fun _ => e2
        have hok : okB (m.getD k 0) (l.getD k 0) = (if (m.getD k 0).toNat = 48 then isD (l.getD k 0) else decide ((m.getD k 0).toNat = (l.getD k 0).toNat)) := rfl
        generalize hc : l.getD k 0 = c at *
        generalize hf : m.getD k 0 = f at *
        by_cases h48 : f.toNat = 48
        · have i48 : (f.toNat : Int) = 48 := by omega
          rw [if_pos h48] at hok
          cases hd : isD c with
          | true =>
            rw [hd] at hok
            have HO : Hid (okB f c = true) := hok
            have cd := fun w => digit_any c w
            rw [hd] at cd
            clear hok hd e1 e2
            go_wp2
            go_quiet ((go_at_call 68; exact Calls.quiet_of_same (cd _)))
            go_wp2
            go_roundw
            case rel =>
              refine ⟨k + 1, by omega, by go_num, fun i hi => ?_, below_drewN hbel _⟩
              by_cases e : i = k
              · subst e; rw [hc, hf]; exact HO.out
              · exact HA.out i (by omega)
            case measure => simp [intOf]; omega
          | false =>
            rw [hd] at hok
            have HO : Hid (okB f c = false) := hok
            have cd := fun w => digit_any c w
            rw [hd] at cd
            clear hok hd e1 e2
            go_wp2
            go_quiet ((go_at_call 68; exact Calls.quiet_of_same (cd _)))
            go_wp2
            go_ret
            exact ⟨by rw [fitsL_no k hlt (by rw [hc, hf]; exact HO.out)]; rfl, below_drewN hbel _⟩
        · have n48 : ((f.toNat : Int) == 48) = false := by simp; omega
          rw [if_neg h48] at hok
          by_cases hfc : f.toNat = c.toNat
          · have HO : Hid (okB f c = true) := by rw [hok]; exact decide_eq_true hfc
            have m48 : ((c.toNat : Int) == 48) = false := by simp; omega
            have o48 : ((c.toNat : Int) != 48) = true := by simp; omega
            have o49 : ((c.toNat : Int) != (c.toNat : Int)) = false := by simp
            clear hok e1 e2 n48 h48
            go_wp2
            go_quiet (fail)
            go_wp2
            go_roundw
            case rel =>
              refine ⟨k + 1, by omega, by go_num, fun i hi => ?_, below_drewN hbel _⟩
              by_cases e : i = k
              · subst e; rw [hc, hf]; exact HO.out
              · exact HA.out i (by omega)
            case measure => simp [intOf]; omega
          · have HO : Hid (okB f c = false) := by rw [hok]; exact decide_eq_false hfc
            have o48 : ((f.toNat : Int) != 48) = true := by simp; omega
            have ifc : ((f.toNat : Int) != (c.toNat : Int)) = true := by simp; omega
            clear hok e1 e2
            go_wp2
            go_quiet (fail)
            go_wp2
            go_ret
            exact ⟨by rw [fitsL_no k hlt (by rw [hc, hf]; exact HO.out)]; rfl, below_drewN hbel _⟩
      · have HF : Hid (fitsL l m = true) := fitsL_yes hsh fun i hi => HA.out i (by omega)
        have hkl : k = m.length := by omega
        subst hkl
        go_wp2
        go_ret
        exact ⟨by rw [HF.out]; rfl, hbel⟩
  · have HF : Hid (fitsL l m = false) := fitsL_short hsh
    have hsh' : (l.length : Int) < (m.length : Int) := by omega
    go_enter Tryz.func65, Tryz.ntmps65
    go_wp2
    go_ret
    exact ⟨by rw [HF.out]; rfl, Below.refl _ _⟩
end Go.Proofs.YtgfjbcdjpkcbkaaGreatDoor
