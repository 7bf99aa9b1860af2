/- Plain facts about texts, byte by byte, that speak of no program: what is a digit, a letter, a word, a number. -/
import Derived.Lib.Strings
import Derived.Lib.Bytealg
namespace Lx

def isD (c : UInt8) : Bool := decide (48 ≤ c.toNat) && decide (c.toNat ≤ 57)
def isL (c : UInt8) : Bool := decide (97 ≤ c.toNat) && decide (c.toNat ≤ 122)
/-- What stands behind a word's first letter. -/
def isC (c : UInt8) : Bool := isL c || (isD c || decide (c.toNat = 95))
/-- How many bytes from the start are so. -/
def runOf (p : UInt8 → Bool) : List UInt8 → Nat
  | [] => 0
  | c :: l => if p c then runOf p l + 1 else 0
def wordLen : List UInt8 → Nat
  | [] => 0
  | c :: l => if isL c then runOf isC l + 1 else 0
theorem runOf_le (p : UInt8 → Bool) : ∀ l, runOf p l ≤ l.length
  | [] => by simp [runOf]
  | c :: l => by have := runOf_le p l; simp only [runOf]; split <;> simp; omega
theorem runOf_all (p : UInt8 → Bool) : ∀ l i, i < runOf p l → p (l.getD i 0) = true
  | [], i, h => by simp [runOf] at h
  | c :: l, i, h => by
    simp only [runOf] at h
    split at h
    · cases i with
      | zero => simpa
      | succ i => simpa using runOf_all p l i (by omega)
    · omega
theorem runOf_end (p : UInt8 → Bool) : ∀ l, runOf p l < l.length → p (l.getD (runOf p l) 0) = false
  | [], h => by simp at h
  | c :: l, h => by
    simp only [runOf] at h ⊢
    split at h
    · rename_i hc
      rw [if_pos hc]
      simpa using runOf_end p l (by simpa using h)
    · rename_i hc
      rw [if_neg hc]
      simpa using hc
/-- The run is told by its end. -/
theorem runOf_eq (p : UInt8 → Bool) : ∀ (l : List UInt8) (k : Nat), k ≤ l.length → (∀ i, i < k → p (l.getD i 0) = true) → (k < l.length → p (l.getD k 0) = false) → runOf p l = k
  | [], k, h, _, _ => by simp at h; subst h; rfl
  | c :: l, 0, _, _, h2 => by
    have := h2 (by simp)
    simp at this
    simp [runOf, this]
  | c :: l, k + 1, h, h1, h2 => by
    have hc := h1 0 (by omega)
    simp at hc
    have := runOf_eq p l k (by simpa using h) (fun i hi => by simpa using h1 (i + 1) (by omega)) (fun hk => by simpa using h2 (by simpa using hk))
    simp [runOf, hc, this]
theorem wordLen_le : ∀ l, wordLen l ≤ l.length
  | [] => by simp [wordLen]
  | c :: l => by have := runOf_le isC l; simp only [wordLen]; split <;> simp; omega
/-- What digits tell. -/
def valL (l : List UInt8) : Int := l.foldl (fun n c => 10 * n + ((c.toNat : Int) - 48)) 0
theorem valL_snoc (l : List UInt8) (c : UInt8) : valL (l ++ [c]) = 10 * valL l + ((c.toNat : Int) - 48) := by simp [valL]
theorem valL_take (l : List UInt8) (k : Nat) (hk : k < l.length) : valL (l.take (k + 1)) = 10 * valL (l.take k) + (((l.getD k 0).toNat : Int) - 48) := by
  rw [List.take_succ_eq_append_getElem hk, valL_snoc]
  simp [List.getD, hk]
theorem valL_bound (l : List UInt8) (h : ∀ i, i < l.length → isD (l.getD i 0) = true) : ∀ k, k ≤ l.length → 0 ≤ valL (l.take k) ∧ valL (l.take k) < ((10 ^ k : Nat) : Int)
  | 0, _ => by simp [valL]
  | k + 1, hk => by
    have ih := valL_bound l h k (by omega)
    have hd := h k (by omega)
    simp only [isD, Bool.and_eq_true, decide_eq_true_eq] at hd
    rw [valL_take l k (by omega), Nat.pow_succ]
    omega
theorem valL_small (l : List UInt8) (h : ∀ i, i < l.length → isD (l.getD i 0) = true) (k : Nat) (hk : k ≤ l.length) (h6 : k ≤ 6) : 0 ≤ valL (l.take k) ∧ valL (l.take k) < 1000000 := by
  have b := valL_bound l h k hk
  have : (10 : Nat) ^ k ≤ 10 ^ 6 := Nat.pow_le_pow_right (by omega) h6
  have e : (10 : Nat) ^ 6 = 1000000 := by decide
  omega
/-- Does a byte stand as a form asks it? A 0 stands for any digit, all else for itself. -/
def okB (f c : UInt8) : Bool := if f.toNat = 48 then isD c else decide (f.toNat = c.toNat)
def fitsL (l m : List UInt8) : Bool := decide (m.length ≤ l.length) && (List.range m.length).all fun i => okB (m.getD i 0) (l.getD i 0)
theorem fitsL_yes {l m : List UInt8} (h1 : m.length ≤ l.length) (h2 : ∀ i, i < m.length → okB (m.getD i 0) (l.getD i 0) = true) : fitsL l m = true := by
  unfold fitsL
  rw [decide_eq_true h1, Bool.true_and, List.all_eq_true]
  intro i hi
  exact h2 i (by simpa using hi)
theorem fitsL_no {l m : List UInt8} (i : Nat) (h1 : i < m.length) (h2 : okB (m.getD i 0) (l.getD i 0) = false) : fitsL l m = false := by
  cases e : fitsL l m with
  | false => rfl
  | true =>
    unfold fitsL at e
    rw [Bool.and_eq_true, List.all_eq_true] at e
    have := e.2 i (by simpa using h1)
    rw [h2] at this; cases this
theorem fitsL_short {l m : List UInt8} (h : ¬ m.length ≤ l.length) : fitsL l m = false := by simp [fitsL, h]
theorem fitsL_at {l m : List UInt8} (h : fitsL l m = true) : m.length ≤ l.length ∧ ∀ i, i < m.length → okB (m.getD i 0) (l.getD i 0) = true := by
  unfold fitsL at h
  rw [Bool.and_eq_true, List.all_eq_true] at h
  exact ⟨by simpa using h.1, fun i hi => h.2 i (by simpa using hi)⟩
/-- Can a byte stand at that place of a word? -/
def pcAt (l : List UInt8) (i : Nat) : Bool := if i = 0 then isL (l.getD 0 0) else isC (l.getD i 0)
theorem wordLen_eq : ∀ (l : List UInt8) (k : Nat), k ≤ l.length → (∀ i, i < k → pcAt l i = true) → (k < l.length → pcAt l k = false) → wordLen l = k
  | [], k, h, _, _ => by simp at h; subst h; rfl
  | c :: l, 0, _, _, h2 => by
    have := h2 (by simp)
    simp [pcAt] at this
    simp [wordLen, this]
  | c :: l, k + 1, h, h1, h2 => by
    have hc := h1 0 (by omega)
    simp [pcAt] at hc
    have e := runOf_eq isC l k (by simpa using h) (fun i hi => by simpa [pcAt] using h1 (i + 1) (by omega)) (fun hk => by simpa [pcAt] using h2 (by simpa using hk))
    simp [wordLen, hc, e]
/-- What one token is: its kind, its number, its text, how many bytes it has, and what is wrong. -/
structure T1 where
  kind : Int
  n : Int
  text : List UInt8
  len : Nat
  err : Int
def bad (e : Int) : T1 := ⟨0, 0, [], 0, e⟩
def numT (l : List UInt8) : T1 := if 6 < runOf isD l then bad 3 else ⟨6, valL (l.take (runOf isD l)), [], runOf isD l, 0⟩
def dateF : List UInt8 := [48, 48, 48, 48, 45, 48, 48, 45, 48, 48]
def timeF : List UInt8 := [48, 48, 58, 48, 48]
def timeT (l : List UInt8) : T1 := if 59 < valL ((l.drop 3).take 2) ∨ 1440 < 60 * valL ((l.drop 0).take 2) + valL ((l.drop 3).take 2) then bad 3 else ⟨4, 60 * valL ((l.drop 0).take 2) + valL ((l.drop 3).take 2), [], 5, 0⟩
/-- Where a form asks for digits there are digits. -/
theorem dig_part {l m : List UInt8} (h : fitsL l m = true) (a n : Nat) (ha : a + n ≤ m.length) (hf : ∀ i, i < n → (m.getD (a + i) 0).toNat = 48) :
    ((l.drop a).take n).length = n ∧ ∀ i, i < ((l.drop a).take n).length → isD (((l.drop a).take n).getD i 0) = true := by
  obtain ⟨h1, h2⟩ := fitsL_at h
  have e : ((l.drop a).take n).length = n := by simp; omega
  refine ⟨e, fun i hi => ?_⟩
  rw [e] at hi
  have := h2 (a + i) (by omega)
  unfold okB at this
  rw [if_pos (hf i hi)] at this
  rw [List.getD_eq_getElem?_getD] at this ⊢
  rw [List.getElem?_take, if_pos hi, List.getElem?_drop]
  exact this
/-- How many bytes are skipped: blanks, tabs, line feeds, and what stands from a # on. -/
def skipS : Bool → List UInt8 → Nat
  | _, [] => 0
  | true, c :: l => if c.toNat = 10 then skipS false l + 1 else skipS true l + 1
  | false, c :: l => if c.toNat = 32 ∨ c.toNat = 9 ∨ c.toNat = 10 then skipS false l + 1 else if c.toNat = 35 then skipS true l + 1 else 0
theorem skipS_le : ∀ (b : Bool) (l : List UInt8), skipS b l ≤ l.length
  | true, [] => by simp [skipS]
  | false, [] => by simp [skipS]
  | true, c :: l => by
    have h1 := skipS_le true l
    have h2 := skipS_le false l
    simp only [skipS, List.length_cons]; split <;> omega
  | false, c :: l => by
    have h1 := skipS_le true l
    have h2 := skipS_le false l
    simp only [skipS, List.length_cons]
    split
    · omega
    · split <;> omega
def noLf (c : UInt8) : Bool := decide (c.toNat ≠ 10)
/-- How long a remark is: up to the next line feed. -/
def remL (l : List UInt8) : Nat := runOf noLf l
theorem skip_rem : ∀ (l : List UInt8), skipS true l = remL l + skipS false (l.drop (remL l))
  | [] => by simp [remL, runOf, skipS]
  | c :: l => by
    by_cases h : c.toNat = 10
    · simp [remL, runOf, noLf, skipS, h]
    · have ih := skip_rem l
      have e : remL (c :: l) = remL l + 1 := by simp [remL, runOf, noLf, h]
      rw [e]
      simp only [skipS, h, if_false, List.drop_succ_cons]
      omega
theorem skip_hash (l : List UInt8) (h0 : 0 < l.length) (hc : (l.getD 0 0).toNat = 35) : skipS false l = remL l + skipS false (l.drop (remL l)) ∧ 1 ≤ remL l := by
  match l, h0 with
  | c :: r, _ =>
    have hc' : c.toNat = 35 := by simpa using hc
    have e : remL (c :: r) = remL r + 1 := by simp [remL, runOf, noLf, hc']
    have := skip_rem r
    rw [e]
    refine ⟨?_, by omega⟩
    simp only [skipS, hc', List.drop_succ_cons]
    simp
    omega
theorem skip_blank (l : List UInt8) (h0 : 0 < l.length) (hc : (l.getD 0 0).toNat = 32 ∨ (l.getD 0 0).toNat = 9 ∨ (l.getD 0 0).toNat = 10) : skipS false l = 1 + skipS false (l.drop 1) := by
  match l, h0 with
  | c :: r, _ =>
    have hc' : c.toNat = 32 ∨ c.toNat = 9 ∨ c.toNat = 10 := by simpa using hc
    simp only [skipS, if_pos hc', List.drop_succ_cons, List.drop_zero]
    omega
theorem skip_stop (l : List UInt8) (hc : 0 < l.length → ¬ ((l.getD 0 0).toNat = 32 ∨ (l.getD 0 0).toNat = 9 ∨ (l.getD 0 0).toNat = 10) ∧ (l.getD 0 0).toNat ≠ 35) : skipS false l = 0 := by
  match l with
  | [] => rfl
  | c :: r =>
    have := hc (by simp)
    simp only [List.getD_cons_zero] at this
    simp only [skipS, if_neg this.1, if_neg this.2]
theorem index_rem : ∀ l : List UInt8, Go.Lib.indexByte l 10 = if remL l < l.length then (remL l : Int) else -1
  | [] => by simp [Go.Lib.indexByte, remL, runOf]
  | c :: l => by
    have ih := index_rem l
    by_cases h : c.toNat = 10
    · have e : c = 10 := by apply UInt8.toNat_inj.1; simpa using h
      subst e
      simp [Go.Lib.indexByte, remL, runOf, noLf]
    · have hne : (c == 10) = false := by
        rw [beq_eq_false_iff_ne]; intro e; subst e; simp at h
      have e : remL (c :: l) = remL l + 1 := by simp [remL, runOf, noLf, h]
      have hle : remL l ≤ l.length := runOf_le _ l
      unfold Go.Lib.indexByte
      rw [hne, ih, e]
      by_cases hh : remL l < l.length
      · have n1 : ((remL l : Int) == -1) = false := by simp
        rw [if_pos hh, n1]
        simp [hh]
      · rw [if_neg hh]
        simp [hh]
end Lx
