/- Plain facts about texts, byte by byte, that speak of no program: what is a digit, a letter, a word, a number. -/
import Derived.Lib.Strings
import Derived.Lib.Bytealg
import Derived.Test.YteheahhifihmjaaGreatDoorRows
import Derived.WalkKit
import Derived.WalkSpells
import Derived.WalkLawsBesides
import Derived.Deep.QuietTactic
import Derived.BigQuiet
import Derived.Laws.Rows
namespace Lx

def isD (c : UInt8) : Bool := decide (48 ≤ c.toNat) && decide (c.toNat ≤ 57)
def isL (c : UInt8) : Bool := decide (97 ≤ c.toNat) && decide (c.toNat ≤ 122)
/-- What stands behind a word's first letter. -/
def isC (c : UInt8) : Bool := isL c || (isD c || decide (c.toNat = 95))
/-- How many bytes from the start are so. -/
def runOf (p : UInt8 → Bool) : List UInt8 → Nat
  | [] => 0
  | c :: l => if p c then runOf p l + 1 else 0
def wordLen : List UInt8 → Nat
  | [] => 0
  | c :: l => if isL c then runOf isC l + 1 else 0
theorem runOf_le (p : UInt8 → Bool) : ∀ l, runOf p l ≤ l.length
  | [] => by simp [runOf]
  | c :: l => by have := runOf_le p l; simp only [runOf]; split <;> simp; omega
theorem runOf_all (p : UInt8 → Bool) : ∀ l i, i < runOf p l → p (l.getD i 0) = true
  | [], i, h => by simp [runOf] at h
  | c :: l, i, h => by
    simp only [runOf] at h
    split at h
    · cases i with
      | zero => simpa
      | succ i => simpa using runOf_all p l i (by omega)
    · omega
theorem runOf_end (p : UInt8 → Bool) : ∀ l, runOf p l < l.length → p (l.getD (runOf p l) 0) = false
  | [], h => by simp at h
  | c :: l, h => by
    simp only [runOf] at h ⊢
    split at h
    · rename_i hc
      rw [if_pos hc]
      simpa using runOf_end p l (by simpa using h)
    · rename_i hc
      rw [if_neg hc]
      simpa using hc
/-- The run is told by its end. -/
theorem runOf_eq (p : UInt8 → Bool) : ∀ (l : List UInt8) (k : Nat), k ≤ l.length → (∀ i, i < k → p (l.getD i 0) = true) → (k < l.length → p (l.getD k 0) = false) → runOf p l = k
  | [], k, h, _, _ => by simp at h; subst h; rfl
  | c :: l, 0, _, _, h2 => by
    have := h2 (by simp)
    simp at this
    simp [runOf, this]
  | c :: l, k + 1, h, h1, h2 => by
    have hc := h1 0 (by omega)
    simp at hc
    have := runOf_eq p l k (by simpa using h) (fun i hi => by simpa using h1 (i + 1) (by omega)) (fun hk => by simpa using h2 (by simpa using hk))
    simp [runOf, hc, this]
theorem wordLen_le : ∀ l, wordLen l ≤ l.length
  | [] => by simp [wordLen]
  | c :: l => by have := runOf_le isC l; simp only [wordLen]; split <;> simp; omega
/-- What digits tell. -/
def valL (l : List UInt8) : Int := l.foldl (fun n c => 10 * n + ((c.toNat : Int) - 48)) 0
theorem valL_snoc (l : List UInt8) (c : UInt8) : valL (l ++ [c]) = 10 * valL l + ((c.toNat : Int) - 48) := by simp [valL]
theorem valL_take (l : List UInt8) (k : Nat) (hk : k < l.length) : valL (l.take (k + 1)) = 10 * valL (l.take k) + (((l.getD k 0).toNat : Int) - 48) := by
  rw [List.take_succ_eq_append_getElem hk, valL_snoc]
  simp [List.getD, hk]
theorem valL_bound (l : List UInt8) (h : ∀ i, i < l.length → isD (l.getD i 0) = true) : ∀ k, k ≤ l.length → 0 ≤ valL (l.take k) ∧ valL (l.take k) < ((10 ^ k : Nat) : Int)
  | 0, _ => by simp [valL]
  | k + 1, hk => by
    have ih := valL_bound l h k (by omega)
    have hd := h k (by omega)
    simp only [isD, Bool.and_eq_true, decide_eq_true_eq] at hd
    rw [valL_take l k (by omega), Nat.pow_succ]
    omega
theorem valL_small (l : List UInt8) (h : ∀ i, i < l.length → isD (l.getD i 0) = true) (k : Nat) (hk : k ≤ l.length) (h6 : k ≤ 6) : 0 ≤ valL (l.take k) ∧ valL (l.take k) < 1000000 := by
  have b := valL_bound l h k hk
  have : (10 : Nat) ^ k ≤ 10 ^ 6 := Nat.pow_le_pow_right (by omega) h6
  have e : (10 : Nat) ^ 6 = 1000000 := by decide
  omega
/-- Does a byte stand as a form asks it? A 0 stands for any digit, all else for itself. -/
def okB (f c : UInt8) : Bool := if f.toNat = 48 then isD c else decide (f.toNat = c.toNat)
def fitsL (l m : List UInt8) : Bool := decide (m.length ≤ l.length) && (List.range m.length).all fun i => okB (m.getD i 0) (l.getD i 0)
theorem fitsL_yes {l m : List UInt8} (h1 : m.length ≤ l.length) (h2 : ∀ i, i < m.length → okB (m.getD i 0) (l.getD i 0) = true) : fitsL l m = true := by
  unfold fitsL
  rw [decide_eq_true h1, Bool.true_and, List.all_eq_true]
  intro i hi
  exact h2 i (by simpa using hi)
theorem fitsL_no {l m : List UInt8} (i : Nat) (h1 : i < m.length) (h2 : okB (m.getD i 0) (l.getD i 0) = false) : fitsL l m = false := by
  cases e : fitsL l m with
  | false => rfl
  | true =>
    unfold fitsL at e
    rw [Bool.and_eq_true, List.all_eq_true] at e
    have := e.2 i (by simpa using h1)
    rw [h2] at this; cases this
theorem fitsL_short {l m : List UInt8} (h : ¬ m.length ≤ l.length) : fitsL l m = false := by simp [fitsL, h]
theorem fitsL_at {l m : List UInt8} (h : fitsL l m = true) : m.length ≤ l.length ∧ ∀ i, i < m.length → okB (m.getD i 0) (l.getD i 0) = true := by
  unfold fitsL at h
  rw [Bool.and_eq_true, List.all_eq_true] at h
  exact ⟨by simpa using h.1, fun i hi => h.2 i (by simpa using hi)⟩
/-- Can a byte stand at that place of a word? -/
def pcAt (l : List UInt8) (i : Nat) : Bool := if i = 0 then isL (l.getD 0 0) else isC (l.getD i 0)
theorem wordLen_eq : ∀ (l : List UInt8) (k : Nat), k ≤ l.length → (∀ i, i < k → pcAt l i = true) → (k < l.length → pcAt l k = false) → wordLen l = k
  | [], k, h, _, _ => by simp at h; subst h; rfl
  | c :: l, 0, _, _, h2 => by
    have := h2 (by simp)
    simp [pcAt] at this
    simp [wordLen, this]
  | c :: l, k + 1, h, h1, h2 => by
    have hc := h1 0 (by omega)
    simp [pcAt] at hc
    have e := runOf_eq isC l k (by simpa using h) (fun i hi => by simpa [pcAt] using h1 (i + 1) (by omega)) (fun hk => by simpa [pcAt] using h2 (by simpa using hk))
    simp [wordLen, hc, e]
/-- What one token is: its kind, its number, its text, how many bytes it has, and what is wrong. -/
structure T1 where
  kind : Int
  n : Int
  text : List UInt8
  len : Nat
  err : Int
def bad (e : Int) : T1 := ⟨0, 0, [], 0, e⟩
def numT (l : List UInt8) : T1 := if 6 < runOf isD l then bad 3 else ⟨6, valL (l.take (runOf isD l)), [], runOf isD l, 0⟩
def dateF : List UInt8 := [48, 48, 48, 48, 45, 48, 48, 45, 48, 48]
def timeF : List UInt8 := [48, 48, 58, 48, 48]
def timeT (l : List UInt8) : T1 := if 59 < valL ((l.drop 3).take 2) ∨ 1440 < 60 * valL ((l.drop 0).take 2) + valL ((l.drop 3).take 2) then bad 3 else ⟨4, 60 * valL ((l.drop 0).take 2) + valL ((l.drop 3).take 2), [], 5, 0⟩
/-- Where a form asks for digits there are digits. -/
theorem dig_part {l m : List UInt8} (h : fitsL l m = true) (a n : Nat) (ha : a + n ≤ m.length) (hf : ∀ i, i < n → (m.getD (a + i) 0).toNat = 48) :
    ((l.drop a).take n).length = n ∧ ∀ i, i < ((l.drop a).take n).length → isD (((l.drop a).take n).getD i 0) = true := by
  obtain ⟨h1, h2⟩ := fitsL_at h
  have e : ((l.drop a).take n).length = n := by simp; omega
  refine ⟨e, fun i hi => ?_⟩
  rw [e] at hi
  have := h2 (a + i) (by omega)
  unfold okB at this
  rw [if_pos (hf i hi)] at this
  rw [List.getD_eq_getElem?_getD] at this ⊢
  rw [List.getElem?_take, if_pos hi, List.getElem?_drop]
  exact this
/-- How many bytes are skipped: blanks, tabs, line feeds, and what stands from a # on. -/
def skipS : Bool → List UInt8 → Nat
  | _, [] => 0
  | true, c :: l => if c.toNat = 10 then skipS false l + 1 else skipS true l + 1
  | false, c :: l => if c.toNat = 32 ∨ c.toNat = 9 ∨ c.toNat = 10 then skipS false l + 1 else if c.toNat = 35 then skipS true l + 1 else 0
theorem skipS_le : ∀ (b : Bool) (l : List UInt8), skipS b l ≤ l.length
  | true, [] => by simp [skipS]
  | false, [] => by simp [skipS]
  | true, c :: l => by
    have h1 := skipS_le true l
    have h2 := skipS_le false l
    simp only [skipS, List.length_cons]; split <;> omega
  | false, c :: l => by
    have h1 := skipS_le true l
    have h2 := skipS_le false l
    simp only [skipS, List.length_cons]
    split
    · omega
    · split <;> omega
def noLf (c : UInt8) : Bool := decide (c.toNat ≠ 10)
/-- How long a remark is: up to the next line feed. -/
def remL (l : List UInt8) : Nat := runOf noLf l
theorem skip_rem : ∀ (l : List UInt8), skipS true l = remL l + skipS false (l.drop (remL l))
  | [] => by simp [remL, runOf, skipS]
  | c :: l => by
    by_cases h : c.toNat = 10
    · simp [remL, runOf, noLf, skipS, h]
    · have ih := skip_rem l
      have e : remL (c :: l) = remL l + 1 := by simp [remL, runOf, noLf, h]
      rw [e]
      simp only [skipS, h, if_false, List.drop_succ_cons]
      omega
theorem skip_hash (l : List UInt8) (h0 : 0 < l.length) (hc : (l.getD 0 0).toNat = 35) : skipS false l = remL l + skipS false (l.drop (remL l)) ∧ 1 ≤ remL l := by
  match l, h0 with
  | c :: r, _ =>
    have hc' : c.toNat = 35 := by simpa using hc
    have e : remL (c :: r) = remL r + 1 := by simp [remL, runOf, noLf, hc']
    have := skip_rem r
    rw [e]
    refine ⟨?_, by omega⟩
    simp only [skipS, hc', List.drop_succ_cons]
    simp
    omega
theorem skip_blank (l : List UInt8) (h0 : 0 < l.length) (hc : (l.getD 0 0).toNat = 32 ∨ (l.getD 0 0).toNat = 9 ∨ (l.getD 0 0).toNat = 10) : skipS false l = 1 + skipS false (l.drop 1) := by
  match l, h0 with
  | c :: r, _ =>
    have hc' : c.toNat = 32 ∨ c.toNat = 9 ∨ c.toNat = 10 := by simpa using hc
    simp only [skipS, if_pos hc', List.drop_succ_cons, List.drop_zero]
    omega
theorem skip_stop (l : List UInt8) (hc : 0 < l.length → ¬ ((l.getD 0 0).toNat = 32 ∨ (l.getD 0 0).toNat = 9 ∨ (l.getD 0 0).toNat = 10) ∧ (l.getD 0 0).toNat ≠ 35) : skipS false l = 0 := by
  match l with
  | [] => rfl
  | c :: r =>
    have := hc (by simp)
    simp only [List.getD_cons_zero] at this
    simp only [skipS, if_neg this.1, if_neg this.2]
theorem index_rem : ∀ l : List UInt8, Go.Lib.indexByte l 10 = if remL l < l.length then (remL l : Int) else -1
  | [] => by simp [Go.Lib.indexByte, remL, runOf]
  | c :: l => by
    have ih := index_rem l
    by_cases h : c.toNat = 10
    · have e : c = 10 := by apply UInt8.toNat_inj.1; simpa using h
      subst e
      simp [Go.Lib.indexByte, remL, runOf, noLf]
    · have hne : (c == 10) = false := by
        rw [beq_eq_false_iff_ne]; intro e; subst e; simp at h
      have e : remL (c :: l) = remL l + 1 := by simp [remL, runOf, noLf, h]
      have hle : remL l ≤ l.length := runOf_le _ l
      unfold Go.Lib.indexByte
      rw [hne, ih, e]
      by_cases hh : remL l < l.length
      · have n1 : ((remL l : Int) == -1) = false := by simp
        rw [if_pos hh, n1]
        simp [hh]
      · rw [if_neg hh]
        simp [hh]
end Lx

/- What lex.isDigit, lex.isLetter and lex.value come to. -/
namespace Go.Proofs.YteheahhifihmjaaGreatDoor
open Go.RowKit Lx

theorem digit_any (c : UInt8) (w : World) : Calls Tryz.prog 42 #[.int .u8 (c.toNat : Int)] w fun e w' => e = .returned (.bool (isD c)) ∧ w' = w := by
  unfold isD
  by_cases h1 : 48 ≤ c.toNat
  · by_cases h2 : c.toNat ≤ 57
    · have i1 : (48 : Int) ≤ (c.toNat : Int) := by omega
      have i2 : (c.toNat : Int) ≤ 57 := by omega
      rw [decide_eq_true h1, decide_eq_true h2]
      go_enter Tryz.func42, Tryz.ntmps42
      go_wp2
      go_ret
      exact ⟨rfl, rfl⟩
    · have i1 : (48 : Int) ≤ (c.toNat : Int) := by omega
      have i2 : ¬ (c.toNat : Int) ≤ 57 := by omega
      rw [decide_eq_true h1, decide_eq_false h2]
      go_enter Tryz.func42, Tryz.ntmps42
      go_wp2
      go_ret
      exact ⟨rfl, rfl⟩
  · have i1 : ¬ (48 : Int) ≤ (c.toNat : Int) := by omega
    rw [decide_eq_false h1]
    go_enter Tryz.func42, Tryz.ntmps42
    go_wp2
    go_ret
    exact ⟨rfl, rfl⟩
theorem letter_any (c : UInt8) (w : World) : Calls Tryz.prog 44 #[.int .u8 (c.toNat : Int)] w fun e w' => e = .returned (.bool (isL c)) ∧ w' = w := by
  unfold isL
  by_cases h1 : 97 ≤ c.toNat
  · by_cases h2 : c.toNat ≤ 122
    · have i1 : (97 : Int) ≤ (c.toNat : Int) := by omega
      have i2 : (c.toNat : Int) ≤ 122 := by omega
      rw [decide_eq_true h1, decide_eq_true h2]
      go_enter Tryz.func44, Tryz.ntmps44
      go_wp2
      go_ret
      exact ⟨rfl, rfl⟩
    · have i1 : (97 : Int) ≤ (c.toNat : Int) := by omega
      have i2 : ¬ (c.toNat : Int) ≤ 122 := by omega
      rw [decide_eq_true h1, decide_eq_false h2]
      go_enter Tryz.func44, Tryz.ntmps44
      go_wp2
      go_ret
      exact ⟨rfl, rfl⟩
  · have i1 : ¬ (97 : Int) ≤ (c.toNat : Int) := by omega
    rw [decide_eq_false h1]
    go_enter Tryz.func44, Tryz.ntmps44
    go_wp2
    go_ret
    exact ⟨rfl, rfl⟩

theorem byte_at {s : ByteArray} {l : List UInt8} (hs : s.data.toList = l) (k : Nat) (hk : k < s.size) : s[k] = l.getD k 0 := by
  subst hs
  have h : k < s.data.size := hk
  show s.data[k] = _
  rw [List.getD_eq_getElem?_getD, Array.getElem?_toList, Array.getElem?_eq_getElem h]
  rfl
theorem i64_eq {a b : Int} (h : a = b) : Value.int .i64 a = Value.int .i64 b := by rw [h]

set_option maxHeartbeats 400000 in
theorem value_any (s : ByteArray) (l : List UInt8) (hs : s.data.toList = l) (hl : l.length ≤ 6) (hd : ∀ i, i < l.length → isD (l.getD i 0) = true) (w : World) :
    Calls Tryz.prog 61 #[.string s] w fun e w' => e = .returned (.int .i64 (valL l)) ∧ w' = w := by
  have hz : s.size = l.length := by rw [← hs, Lib.size_eq]
  go_enter Tryz.func61, Tryz.ntmps61
  go_wp2
  go_loop [3, 7] (fun n i => ∃ k : Nat, k ≤ l.length ∧ i = .int .i64 k ∧ n = .int .i64 (valL (l.take k))) (fun _ i => l.length - (intOf i).toNat)
  case atStart => exact ⟨0, by omega, rfl, rfl⟩
  case round =>
    obtain ⟨k, hk, rfl, rfl⟩ := hrel
    by_cases hlt : k < l.length
    · have hlt' : (k : Int) < (l.length : Int) := by omega
      have hk0 : (0 : Int) ≤ (k : Int) := by omega
      have hv := valL_small l hd k (by omega) (by omega)
      have hdk := hd k hlt
      have e1 := byte_at hs k (by omega)
      have e2 := valL_take l k hlt
      have HE : Hid (valL (l.take (k + 1)) = 10 * valL (l.take k) + (((l.getD k 0).toNat : Int) - 48)) := e2
      simp only [isD, Bool.and_eq_true, decide_eq_true_eq] at hdk
      have HK : Hid (48 ≤ (l.getD k 0).toNat ∧ (l.getD k 0).toNat ≤ 57) := hdk
      have HB : Hid (s[k] = l.getD k 0) := e1
      clear hdk e1 e2 hd
      go_wp2
      go_round
      case rel =>
        refine ⟨k + 1, by omega, by go_num, i64_eq ?_⟩
        have h2 := HK.out
        rw [HB.out, HE.out]
        generalize (l.getD k 0).toNat = c at h2
        generalize valL (l.take k) = v at hv
        omega
      case measure => simp [intOf]; omega
    · have hkl : k = l.length := by omega
      subst hkl
      have e : valL (l.take l.length) = valL l := by rw [List.take_length]
      go_wp2
      go_ret
      exact ⟨rfl, rfl⟩
end Go.Proofs.YteheahhifihmjaaGreatDoor

/- What lex.fits comes to. -/
namespace Go.Proofs.YteheahhifihmjaaGreatDoor
open Go.RowKit Lx

set_option maxRecDepth 10000 in
set_option maxHeartbeats 1000000 in
theorem fits_any (s t : ByteArray) (l m : List UInt8) (hs : s.data.toList = l) (ht : t.data.toList = m) (hl : l.length ≤ 9223372036854775807) (hm : m.length ≤ 100) (w : World) :
    Calls Tryz.prog 39 #[.string s, .string t] w fun e w' => e = .returned (.bool (fitsL l m)) ∧ Below w.heap.size w w' := by
  have hz : s.size = l.length := by rw [← hs, Lib.size_eq]
  have hy : t.size = m.length := by rw [← ht, Lib.size_eq]
  by_cases hsh : m.length ≤ l.length
  · have hsh' : ¬ (l.length : Int) < (m.length : Int) := by omega
    go_enter Tryz.func39, Tryz.ntmps39
    go_wp2
    go_loopw [13] (fun i wr => ∃ k : Nat, k ≤ m.length ∧ i = .int .i64 k ∧ (∀ i, i < k → okB (m.getD i 0) (l.getD i 0) = true) ∧ Below w.heap.size w wr) (fun i _ => m.length - (intOf i).toNat)
    case atStart => exact ⟨0, by omega, rfl, fun i h => by omega, Below.refl _ _⟩
    case round =>
      obtain ⟨k, hk, rfl, hall, hbel⟩ := hrel
      have HA : Hid (∀ i, i < k → okB (m.getD i 0) (l.getD i 0) = true) := hall
      clear hall
      by_cases hlt : k < m.length
      · have hlt' : (k : Int) < (m.length : Int) := by omega
        have hlt2 : (k : Int) < (l.length : Int) := by omega
        have hk0 : (0 : Int) ≤ (k : Int) := by omega
        have e1 := byte_at hs k (by omega)
        have e2 := byte_at ht k (by omega)
        have g1 : ∀ h : k < s.size, s[k] = l.getD k 0 := fun _ => e1
        have g2 : ∀ h : k < t.size, t[k] = m.getD k 0 := fun _ => e2
        have hok : okB (m.getD k 0) (l.getD k 0) = (if (m.getD k 0).toNat = 48 then isD (l.getD k 0) else decide ((m.getD k 0).toNat = (l.getD k 0).toNat)) := rfl
        generalize hc : l.getD k 0 = c at *
        generalize hf : m.getD k 0 = f at *
        by_cases h48 : f.toNat = 48
        · have i48 : (f.toNat : Int) = 48 := by omega
          rw [if_pos h48] at hok
          cases hd : isD c with
          | true =>
            rw [hd] at hok
            have HO : Hid (okB f c = true) := hok
            have cd := fun w => digit_any c w
            rw [hd] at cd
            clear hok hd e1 e2
            go_wp2
            go_quiet ((go_at_call 42; exact Calls.quiet_of_same (cd _)))
            go_wp2
            go_roundw
            case rel =>
              refine ⟨k + 1, by omega, by go_num, fun i hi => ?_, below_drewN hbel _⟩
              by_cases e : i = k
              · subst e; rw [hc, hf]; exact HO.out
              · exact HA.out i (by omega)
            case measure => simp [intOf]; omega
          | false =>
            rw [hd] at hok
            have HO : Hid (okB f c = false) := hok
            have cd := fun w => digit_any c w
            rw [hd] at cd
            clear hok hd e1 e2
            go_wp2
            go_quiet ((go_at_call 42; exact Calls.quiet_of_same (cd _)))
            go_wp2
            go_ret
            exact ⟨by rw [fitsL_no k hlt (by rw [hc, hf]; exact HO.out)]; rfl, below_drewN hbel _⟩
        · have n48 : ((f.toNat : Int) == 48) = false := by simp; omega
          rw [if_neg h48] at hok
          by_cases hfc : f.toNat = c.toNat
          · have HO : Hid (okB f c = true) := by rw [hok]; exact decide_eq_true hfc
            have m48 : ((c.toNat : Int) == 48) = false := by simp; omega
            have o48 : ((c.toNat : Int) != 48) = true := by simp; omega
            have o49 : ((c.toNat : Int) != (c.toNat : Int)) = false := by simp
            clear hok e1 e2 n48 h48
            go_wp2
            go_quiet (fail)
            go_wp2
            go_roundw
            case rel =>
              refine ⟨k + 1, by omega, by go_num, fun i hi => ?_, below_drewN hbel _⟩
              by_cases e : i = k
              · subst e; rw [hc, hf]; exact HO.out
              · exact HA.out i (by omega)
            case measure => simp [intOf]; omega
          · have HO : Hid (okB f c = false) := by rw [hok]; exact decide_eq_false hfc
            have o48 : ((f.toNat : Int) != 48) = true := by simp; omega
            have ifc : ((f.toNat : Int) != (c.toNat : Int)) = true := by simp; omega
            clear hok e1 e2
            go_wp2
            go_quiet (fail)
            go_wp2
            go_ret
            exact ⟨by rw [fitsL_no k hlt (by rw [hc, hf]; exact HO.out)]; rfl, below_drewN hbel _⟩
      · have HF : Hid (fitsL l m = true) := fitsL_yes hsh fun i hi => HA.out i (by omega)
        have hkl : k = m.length := by omega
        subst hkl
        go_wp2
        go_ret
        exact ⟨by rw [HF.out]; rfl, hbel⟩
  · have HF : Hid (fitsL l m = false) := fitsL_short hsh
    have hsh' : (l.length : Int) < (m.length : Int) := by omega
    go_enter Tryz.func39, Tryz.ntmps39
    go_wp2
    go_ret
    exact ⟨by rw [HF.out]; rfl, Below.refl _ _⟩
end Go.Proofs.YteheahhifihmjaaGreatDoor

/- What lex.wordLength and lex.number come to. -/
namespace Go.Proofs.YteheahhifihmjaaGreatDoor
open Go.RowKit Lx

/-- One token as the program hands it on. -/
def tokv (t : T1) : Value := .tuple #[.agg #[.int .i64 t.kind, .int .i64 t.n, .int .i64 0, .string ⟨t.text.toArray⟩], .int .i64 (t.len : Int), .int .i64 t.err]

theorem tokType : Tryz.prog.underlying 69 = some (.struct (Tryz.prog.fieldsOf 69)) := by kernel_rfl
theorem tok_post {fn : Func} (h : fn.results = Tryz.f43.results) {R : Ending → World → Prop} {a : Act} {w : World} (g : Nat) (t : T1) (hd : a.defers = []) (h2 : a.tmps.getD 2 undef = .pointer (some ⟨g, 0, none⟩))
    (h3 : a.tmps.getD 3 undef = .int .i64 (t.len : Int)) (h4 : a.tmps.getD 4 undef = .int .i64 t.err) (hg : w.heap[g]? = some (.cells #[.int .i64 t.kind, .int .i64 t.n, .int .i64 0, .string ⟨t.text.toArray⟩] 69 (0, 0)))
    (hR : R (.returned (tokv t)) w) : bodyPost Tryz.prog fn R .ret a w := by
  refine bodyPost_ret (v := tokv t) ?_ hd hR
  have h2' : a.tmps[2]?.getD undef = .pointer (some ⟨g, 0, none⟩) := by simpa using h2
  have h3' : a.tmps[3]?.getD undef = .int .i64 (t.len : Int) := by simpa using h3
  have h4' : a.tmps[4]?.getD undef = .int .i64 t.err := by simpa using h4
  have hv := run_loadVar_row (P := Tryz.prog) w g 69 69 _ _ _ hg tokType rfl (by kernel_rfl)
  simp [results, h, Tryz.results43, h2', h3', h4', asAddr, hv, tokv]

set_option maxRecDepth 10000 in
set_option maxHeartbeats 400000 in
theorem wordLen_any (s : ByteArray) (l : List UInt8) (hs : s.data.toList = l) (hl : l.length ≤ 9223372036854775806) (w : World) :
    Calls Tryz.prog 52 #[.string s] w fun e w' => e = .returned (.int .i64 (wordLen l : Int)) ∧ w' = w := by
  have hz : s.size = l.length := by rw [← hs, Lib.size_eq]
  go_enter Tryz.func52, Tryz.ntmps52
  go_wp2
  go_loop [3] (fun i => ∃ k : Nat, k ≤ l.length ∧ i = .int .i64 k ∧ ∀ i, i < k → pcAt l i = true) (fun i => l.length - (intOf i).toNat)
  case atStart => exact ⟨0, by omega, rfl, fun i h => by omega⟩
  case round =>
    obtain ⟨k, hk, rfl, hall⟩ := hrel
    have HA : Hid (∀ i, i < k → pcAt l i = true) := hall
    clear hall
    by_cases hlt : k < l.length
    · have hlt' : (k : Int) < (l.length : Int) := by omega
      have hk0 : (0 : Int) ≤ (k : Int) := by omega
      have g1 : ∀ h : k < s.size, s[k] = l.getD k 0 := fun h => byte_at hs k h
      have hp : pcAt l k = if k = 0 then isL (l.getD k 0) else isC (l.getD k 0) := by
        unfold pcAt; split
        · rename_i h; rw [h]
        · rfl
      generalize hc : l.getD k 0 = c at *
      have cl := fun w => letter_any c w
      have cd := fun w => digit_any c w
      have stop : pcAt l k = false → Hid (wordLen l = k) := fun h => wordLen_eq l k hk HA.out fun _ => h
      have next : pcAt l k = true → Hid (∀ i, i < k + 1 → pcAt l i = true) := fun h i hi => by
        by_cases e : i = k
        · rw [e]; exact h
        · exact HA.out i (by omega)
      cases hL : isL c with
      | true =>
        have hN := next (by rw [hp]; split <;> simp [hL, isC])
        rw [hL] at cl
        clear hp hL stop next HA
        go_wp2_with (first
          | (go_at_call 44; refine (cl _).mono ?_; rintro e w' ⟨rfl, rfl⟩)
          | (go_at_call 42; refine (cd _).mono ?_; rintro e w' ⟨rfl, rfl⟩))
        go_round
        case rel => exact ⟨k + 1, by omega, by go_num, hN.out⟩
        case measure => simp [intOf]; omega
      | false =>
        rw [hL] at cl
        by_cases h0 : k = 0
        · have hS := stop (by rw [hp, if_pos h0, hL])
          clear hp hL stop next HA hk0 hlt'
          subst h0
          have hlt0 : (0 : Int) < (l.length : Int) := by omega
          go_wp2_with (first
            | (go_at_call 44; refine (cl _).mono ?_; rintro e w' ⟨rfl, rfl⟩)
            | (go_at_call 42; refine (cd _).mono ?_; rintro e w' ⟨rfl, rfl⟩))
          go_ret
          exact ⟨by rw [hS.out]; rfl, rfl⟩
        · have h0' : (0 : Int) < (k : Int) := by omega
          cases hD : isD c with
          | true =>
            have hN := next (by rw [hp, if_neg h0]; simp [hD, isC])
            rw [hD] at cd
            clear hp hL hD stop next HA
            go_wp2_with (first
              | (go_at_call 44; refine (cl _).mono ?_; rintro e w' ⟨rfl, rfl⟩)
              | (go_at_call 42; refine (cd _).mono ?_; rintro e w' ⟨rfl, rfl⟩))
            go_round
            case rel => exact ⟨k + 1, by omega, by go_num, hN.out⟩
            case measure => simp [intOf]; omega
          | false =>
            rw [hD] at cd
            by_cases h95 : c.toNat = 95
            · have hN := next (by rw [hp, if_neg h0]; simp [isC, h95])
              have i95 : ((c.toNat : Int) == 95) = true := by simp; omega
              clear hp hL hD stop next HA h95
              go_wp2_with (first
                | (go_at_call 44; refine (cl _).mono ?_; rintro e w' ⟨rfl, rfl⟩)
                | (go_at_call 42; refine (cd _).mono ?_; rintro e w' ⟨rfl, rfl⟩))
              go_round
              case rel => exact ⟨k + 1, by omega, by go_num, hN.out⟩
              case measure => simp [intOf]; omega
            · have hS := stop (by rw [hp, if_neg h0]; simp [isC, h95, hL, hD])
              have i95 : ((c.toNat : Int) == 95) = false := by simp; omega
              clear hp hL hD stop next HA h95
              go_wp2_with (first
                | (go_at_call 44; refine (cl _).mono ?_; rintro e w' ⟨rfl, rfl⟩)
                | (go_at_call 42; refine (cd _).mono ?_; rintro e w' ⟨rfl, rfl⟩))
              go_ret
              exact ⟨by rw [hS.out]; rfl, rfl⟩
    · have hS : Hid (wordLen l = k) := wordLen_eq l k hk HA.out fun h => absurd h hlt
      have hlt' : ¬ (k : Int) < (l.length : Int) := by omega
      go_wp2
      go_ret
      exact ⟨by rw [hS.out]; rfl, rfl⟩

set_option maxRecDepth 10000 in
set_option maxHeartbeats 400000 in
theorem number_any (s : ByteArray) (l : List UInt8) (hs : s.data.toList = l) (hl : l.length ≤ 9223372036854775806) (w : World) :
    Calls Tryz.prog 43 #[.string s] w fun e w' => e = .returned (tokv (numT l)) ∧ Below w.heap.size w w' := by
  have hz : s.size = l.length := by rw [← hs, Lib.size_eq]
  have hb0 : Below w.heap.size w (w.alloc (.cells #[.int .i64 0, .int .i64 0, .int .i64 0, .string ⟨#[]⟩] 69)) := (Below.refl _ _).alloc (Nat.le_refl _) _
  go_enter Tryz.func43, Tryz.ntmps43
  go_wp2
  go_loop [5] (fun i => ∃ k : Nat, k ≤ l.length ∧ i = .int .i64 k ∧ ∀ i, i < k → isD (l.getD i 0) = true) (fun i => l.length - (intOf i).toNat)
  case atStart => exact ⟨0, by omega, rfl, fun i h => by omega⟩
  case round =>
    obtain ⟨k, hk, rfl, hall⟩ := hrel
    have HA : Hid (∀ i, i < k → isD (l.getD i 0) = true) := hall
    clear hall
    by_cases hgo : k < l.length ∧ isD (l.getD k 0) = true
    · obtain ⟨hlt, hD⟩ := hgo
      have hlt' : (k : Int) < (l.length : Int) := by omega
      have hk0 : (0 : Int) ≤ (k : Int) := by omega
      have g1 : ∀ h : k < s.size, s[k] = l.getD k 0 := fun h => byte_at hs k h
      have cd := fun w => digit_any (l.getD k 0) w
      rw [hD] at cd
      have HD : Hid (isD (l.getD k 0) = true) := hD
      clear hD
      generalize hc : l.getD k 0 = c at *
      go_wp2_with (go_at_call 42; refine (cd _).mono ?_; rintro e w' ⟨rfl, rfl⟩)
      go_round
      case rel =>
        refine ⟨k + 1, by omega, by go_num, fun i hi => ?_⟩
        by_cases e : i = k
        · rw [e, hc]; exact HD.out
        · exact HA.out i (by omega)
      case measure => simp [intOf]; omega
    · have hR : runOf isD l = k := runOf_eq isD l k hk HA.out fun h => by
        cases e : isD (l.getD k 0) with
        | false => rfl
        | true => exact absurd ⟨h, e⟩ hgo
      have HR : Hid (runOf isD l = k) := hR
      clear hR
      by_cases h6 : 6 < k
      · have h6' : (6 : Int) < (k : Int) := by omega
        have HT : Hid (numT l = bad 3) := by
          have := HR.out
          show numT l = bad 3
          unfold numT; rw [this, if_pos h6]
        by_cases hlt : k < l.length
        · have hlt' : (k : Int) < (l.length : Int) := by omega
          have hk0 : (0 : Int) ≤ (k : Int) := by omega
          have g1 : ∀ h : k < s.size, s[k] = l.getD k 0 := fun h => byte_at hs k h
          have hD : isD (l.getD k 0) = false := by
            cases e : isD (l.getD k 0) with
            | false => rfl
            | true => exact absurd ⟨hlt, e⟩ hgo
          have cd := fun w => digit_any (l.getD k 0) w
          rw [hD] at cd
          clear hD hgo
          generalize hc : l.getD k 0 = c at *
          go_wp2_with (go_at_call 42; refine (cd _).mono ?_; rintro e w' ⟨rfl, rfl⟩)
          exact tok_post rfl w.heap.size (bad 3) rfl rfl rfl rfl (heap_alloc_new w _) ⟨by rw [HT.out], hb0⟩
        · have hlt' : ¬ (k : Int) < (l.length : Int) := by omega
          clear hgo
          go_wp2
          exact tok_post rfl w.heap.size (bad 3) rfl rfl rfl rfl (heap_alloc_new w _) ⟨by rw [HT.out], hb0⟩
      · have h6' : ¬ (6 : Int) < (k : Int) := by omega
        have hle : (k : Int) ≤ (l.length : Int) := by omega
        have hk0 : (0 : Int) ≤ (k : Int) := by omega
        have HT : Hid (numT l = ⟨6, valL (l.take k), [], k, 0⟩) := by
          have := HR.out
          show numT l = _
          unfold numT; rw [this, if_neg h6]
        have cv := fun w => value_any (s.extract 0 k) (l.take k) (by rw [Lib.extract_data, hs]; simp) (by simp; omega) (fun i hi => by
          have hi' : i < k := by simp at hi; omega
          have := HA.out i hi'
          rw [List.getD_eq_getElem?_getD] at this ⊢
          rw [List.getElem?_take, if_pos hi']
          exact this) w
        generalize valL (l.take k) = v at *
        have hbx : Below w.heap.size w (w.alloc (.cells #[.int .i64 6, .int .i64 v, .int .i64 0, .string ⟨#[]⟩] 69)) := (Below.refl _ _).alloc (Nat.le_refl _) _
        by_cases hlt : k < l.length
        · have hlt' : (k : Int) < (l.length : Int) := by omega
          have g1 : ∀ h : k < s.size, s[k] = l.getD k 0 := fun h => byte_at hs k h
          have hD : isD (l.getD k 0) = false := by
            cases e : isD (l.getD k 0) with
            | false => rfl
            | true => exact absurd ⟨hlt, e⟩ hgo
          have cd := fun w => digit_any (l.getD k 0) w
          rw [hD] at cd
          clear hD hgo
          generalize hc : l.getD k 0 = c at *
          go_wp2_with (first
            | (go_at_call 42; refine (cd _).mono ?_; rintro e w' ⟨rfl, rfl⟩)
            | (go_at_call 61; refine (cv _).mono ?_; rintro e w' ⟨rfl, rfl⟩))
          exact tok_post rfl w.heap.size ⟨6, v, [], k, 0⟩ rfl rfl rfl rfl (heap_alloc_new w _) ⟨by rw [HT.out], hbx⟩
        · have hlt' : ¬ (k : Int) < (l.length : Int) := by omega
          clear hgo
          go_wp2_with (go_at_call 61; refine (cv _).mono ?_; rintro e w' ⟨rfl, rfl⟩)
          exact tok_post rfl w.heap.size ⟨6, v, [], k, 0⟩ rfl rfl rfl rfl (heap_alloc_new w _) ⟨by rw [HT.out], hbx⟩
end Go.Proofs.YteheahhifihmjaaGreatDoor
