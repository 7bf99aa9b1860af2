/- More plain facts about texts: signs and words. -/
import Derived.Test.YtjllbklkaalafaaTa01
import Derived.Test.YtjllbklkaalafaaTa02
import Derived.Lib.Walk
import Derived.Lib.BufferWrite
import Derived.Lib.UnsafeStr
import Derived.Laws.MakeOwn
import Derived.Deep.WholeRow
import Derived.Laws.CopyOwn
import Derived.Test.YtjllbklkaalafaaRows
import Derived.WalkKit
import Derived.WalkSpells
import Derived.WalkLawsBesides
import Derived.Deep.QuietTactic
import Derived.BigQuiet
import Derived.Lib.LaidTab
namespace Lx

def signsL : List UInt8 := [61, 59, 58, 43, 45, 38, 40, 41, 44]
theorem index_lt : ∀ (l : List UInt8) (c : UInt8), Go.Lib.indexByte l c < (l.length : Int)
  | [], c => by simp [Go.Lib.indexByte]
  | b :: l, c => by
    have ih := index_lt l c
    unfold Go.Lib.indexByte
    simp only [List.length_cons]
    split
    · omega
    · split <;> omega
theorem index_at : ∀ (l : List UInt8) (c : UInt8) (i : Nat), Go.Lib.indexByte l c = (i : Int) → l.getD i 0 = c
  | [], c, i, h => by simp [Go.Lib.indexByte] at h
  | b :: l, c, i, h => by
    unfold Go.Lib.indexByte at h
    split at h
    · rename_i hb
      have : i = 0 := by omega
      subst this
      simpa using hb
    · split at h
      · omega
      · have ge := Go.Lib.indexByte_ge l c
        rename_i hn
        have hn' : Go.Lib.indexByte l c ≠ -1 := by simpa using hn
        obtain ⟨j, hj⟩ : ∃ j : Nat, Go.Lib.indexByte l c = j := ⟨(Go.Lib.indexByte l c).toNat, by omega⟩
        have e : i = j + 1 := by omega
        subst e
        simpa using index_at l c j hj
def signT (l : List UInt8) : T1 := if Go.Lib.hasPrefix l [46, 46] then ⟨3, 0, [46, 46], 2, 0⟩ else if Go.Lib.indexByte signsL (l.getD 0 0) < 0 then bad 2 else ⟨3, 0, [l.getD 0 0], 1, 0⟩
theorem ba_of {s : ByteArray} {l : List UInt8} (h : s.data.toList = l) : s = ⟨l.toArray⟩ := by
  obtain ⟨d⟩ := s
  simp only at h
  subst h
  simp
def wordsL : List (List UInt8) := [[97, 108, 119, 97, 121, 115], [100, 97, 116, 101, 115], [102, 114, 105], [109, 111, 110], [110, 101, 118, 101, 114], [114, 117, 108, 101], [115, 97, 116], [115, 104, 105, 102, 116], [115, 117, 110], [116, 104, 117], [116, 117, 101], [119, 101, 100], [119, 101, 101, 107, 108, 121]]
def isWordL (t : List UInt8) : Bool := wordsL.any fun w => w == t
def wordT (l : List UInt8) : T1 := if 20 < wordLen l then bad 7 else ⟨if isWordL (l.take (wordLen l)) then 2 else 1, 0, l.take (wordLen l), wordLen l, 0⟩
end Lx

/- What lex.Words and lex.isWord come to. -/
namespace Go.Proofs.Ytjllbklkaalafaa
open Go.RowKit Lx

/-- The words of the language, as they lie in memory. -/
def wordCells : Array Value := (wordsL.map fun l => Value.string ⟨l.toArray⟩).toArray
theorem wordCell (j : Nat) (hj : j < 13) : wordCells[j]? = some (.string ⟨(wordsL.getD j []).toArray⟩) := by
  have h : j < wordsL.length := hj
  unfold wordCells
  simp only [List.getElem?_toArray, List.getElem?_map, List.getD_eq_getElem?_getD, List.getElem?_eq_getElem h]
  rfl
set_option maxRecDepth 10000 in
set_option maxHeartbeats 400000 in
theorem words_any (w : World) : Calls Try.prog 76 #[] w fun e w' => e = .returned (.slice (some ⟨w.heap.size, 0, none⟩) 13 13) ∧ w' = w.alloc (.cells wordCells 9) := by
  go_enter Try.func76, Try.ntmps76
  go_wp2
  go_ret
  exact ⟨rfl, rfl⟩

theorem isWord_no {x : List UInt8} (h : ∀ j, j < 13 → wordsL.getD j [] ≠ x) : isWordL x = false := by
  cases e : isWordL x with
  | false => rfl
  | true =>
    unfold isWordL at e
    rw [List.any_eq_true] at e
    obtain ⟨y, hy, hx⟩ := e
    obtain ⟨j, hj, rfl⟩ := List.getElem_of_mem hy
    have hj' : j < 13 := hj
    exact absurd (by simpa [List.getD, hj] using hx) (h j hj')
theorem isWord_yes {x : List UInt8} (j : Nat) (hj : j < 13) (h : wordsL.getD j [] = x) : isWordL x = true := by
  unfold isWordL
  rw [List.any_eq_true]
  have hj' : j < wordsL.length := hj
  exact ⟨wordsL.getD j [], by simp [List.getD, hj'], by rw [h]; exact beq_self_eq_true x⟩

set_option maxRecDepth 10000 in
set_option maxHeartbeats 400000 in
theorem find_any (x : ByteArray) (l : List UInt8) (hx : x.data.toList = l) (g : Nat) (w : World) (hg : w.heap[g]? = some (.cells wordCells 9 (0, 0))) :
    Calls Try.prog 82 #[.slice (some ⟨g, 0, none⟩) 13 13, .string x] w fun e w' => (∃ i : Int, e = .returned (.int .i64 i) ∧ decide (0 ≤ i) = isWordL l) ∧ w' = w := by
  have hcell : ∀ j, j < 13 → w.cell? ⟨g, j, none⟩ = some (.string ⟨(wordsL.getD j []).toArray⟩) := fun j hj => by rw [cell_of_row _ _ _ _ _ _ hg, wordCell j hj]
  have HC : Hid (∀ j, j < 13 → w.cell? ⟨g, j, none⟩ = some (.string ⟨(wordsL.getD j []).toArray⟩)) := hcell
  clear hcell hg
  go_enter Try.func82, Try.ntmps82
  go_wp2
  go_loop [8] (fun i => ∃ k : Nat, k ≤ 13 ∧ i = .int .i64 k ∧ ∀ j, j < k → wordsL.getD j [] ≠ l) (fun i => 13 - (intOf i).toNat)
  case atStart => exact ⟨0, by omega, rfl, fun i h => by omega⟩
  case round =>
    obtain ⟨k, hk, rfl, hall⟩ := hrel
    have HA : Hid (∀ j, j < k → wordsL.getD j [] ≠ l) := hall
    clear hall
    by_cases hlt : k < 13
    · have hlt' : (k : Int) < 13 := by omega
      have hk0 : (0 : Int) ≤ (k : Int) := by omega
      have ck := HC.out k hlt
      generalize hy : (⟨(wordsL.getD k []).toArray⟩ : ByteArray) = y at ck
      have hyl : y.data.toList = wordsL.getD k [] := by rw [← hy]
      by_cases he : wordsL.getD k [] = l
      · have hq : (x.toList == y.toList) = true := by rw [Lib.toList_data, Lib.toList_data, hyl, hx, he]; simp
        have hW : Hid (isWordL l = true) := isWord_yes k hlt he
        clear he hyl hy
        go_wp2
        go_ret
        exact ⟨⟨_, rfl, by rw [hW.out]; simp⟩, rfl⟩
      · have hq : (x.toList == y.toList) = false := by
          rw [Lib.toList_data, Lib.toList_data, hyl, hx]
          rw [beq_eq_false_iff_ne]
          exact fun e => he e.symm
        have HE : Hid (wordsL.getD k [] ≠ l) := he
        clear he hyl hy
        go_wp2
        go_round
        case rel =>
          refine ⟨k + 1, by omega, by go_num, fun j hj => ?_⟩
          by_cases e : j = k
          · subst e; exact HE.out
          · exact HA.out j (by omega)
        case measure => simp [intOf]; omega
    · have hkl : k = 13 := by omega
      subst hkl
      have hW : Hid (isWordL l = false) := isWord_no HA.out
      go_wp2
      go_ret
      exact ⟨⟨_, rfl, by rw [hW.out]; simp⟩, rfl⟩

set_option maxRecDepth 10000 in
set_option maxHeartbeats 400000 in
theorem isWord_any (x : ByteArray) (l : List UInt8) (hx : x.data.toList = l) (w : World) :
    Calls Try.prog 62 #[.string x] w fun e w' => e = .returned (.bool (isWordL l)) ∧ Below w.heap.size w w' := by
  have hg : (w.alloc (.cells wordCells 9)).heap[w.heap.size]? = some (.cells wordCells 9 (0, 0)) := heap_alloc_new w _
  have hb : Below w.heap.size w (w.alloc (.cells wordCells 9)) := (Below.refl _ _).alloc (Nat.le_refl _) _
  have cf := find_any x l hx _ _ hg
  have cw := words_any w
  generalize w.alloc (.cells wordCells 9) = w1 at *
  go_enter Try.func62, Try.ntmps62
  go_wp2_with (first
    | (go_at_call 76; refine cw.mono ?_; rintro e w' ⟨rfl, rfl⟩)
    | (go_at_call 75; go_in)
    | (go_at_call 82; refine cf.mono ?_; rintro e w' ⟨⟨i, rfl, hi⟩, rfl⟩))
  go_ret
  exact ⟨by rw [← hi]; rfl, hb⟩
end Go.Proofs.Ytjllbklkaalafaa

/- What strings.Clone and lex.word come to. -/
namespace Go.Proofs.Ytjllbklkaalafaa
open Go.RowKit Lx

theorem byteInfo : (Try.prog.info? 5).map (fun i => (i.zero, i.size, i.bytes)) = some (some (.int .u8 0), 1, 1) := by kernel_rfl
theorem bytesType : Try.prog.underlying 78 = some (.slice 5) := by kernel_rfl
theorem pbyteType : Try.prog.underlying 110 = some (.pointer 5) := by kernel_rfl
end Go.Proofs.Ytjllbklkaalafaa

/- What lex.word comes to. -/
namespace Go.Proofs.Ytjllbklkaalafaa
open Go.RowKit Lx

theorem cells_eq {w : World} {g : Nat} {c c' : Array Value} {t : TypeId} (hg : w.heap[g]? = some (.cells c t (0, 0))) (e : c = c') : w.heap[g]? = some (.cells c' t (0, 0)) := by rw [hg, e]
end Go.Proofs.Ytjllbklkaalafaa

/- Plain mathematics of years, months and days of 2000 to 2399: no program in sight. -/
namespace Go.Proofs.Ytjllbklkaalafaa.Cal

/-- Whether a year has a day more. -/
def lpB (y : Int) : Bool := decide (y % 4 = 0 ∧ (¬ y % 100 = 0 ∨ y % 400 = 0))
/-- How many days more a year has. -/
def lp (y : Int) : Int := if y % 4 = 0 ∧ (¬ y % 100 = 0 ∨ y % 400 = 0) then 1 else 0
/-- How many days a month has. -/
def dim (y m : Int) : Int :=
  if y < 2000 ∨ 2399 < y ∨ m < 1 ∨ 12 < m then 0
  else if m = 2 then 28 + lp y
  else if m = 4 ∨ m = 6 ∨ m = 9 ∨ m = 11 then 30 else 31
/-- How many days of the year are ahead of a month (of 1 to 13). -/
def cum (y m : Int) : Int :=
  if m ≤ 1 then 0 else if m = 2 then 31 else if m = 3 then 59 + lp y else if m = 4 then 90 + lp y
  else if m = 5 then 120 + lp y else if m = 6 then 151 + lp y else if m = 7 then 181 + lp y
  else if m = 8 then 212 + lp y else if m = 9 then 243 + lp y else if m = 10 then 273 + lp y
  else if m = 11 then 304 + lp y else if m = 12 then 334 + lp y else 365 + lp y
/-- How many days are ahead of a year. -/
def ys (y : Int) : Int := 365 * (y - 2000) + ((y - 2000 + 3) / 4 - (y - 2000 + 99) / 100 + (y - 2000 + 399) / 400)

theorem lp_01 (y : Int) : 0 ≤ lp y ∧ lp y ≤ 1 := by unfold lp; split <;> omega
theorem lp_of (y : Int) : lp y = if lpB y = true then 1 else 0 := by unfold lp lpB; simp
theorem dim_31 (y m : Int) : 0 ≤ dim y m ∧ dim y m ≤ 31 := by
  have := lp_01 y
  unfold dim; split
  · omega
  · split
    · omega
    · split <;> omega
theorem dim_out (y m : Int) (h : y < 2000 ∨ 2399 < y ∨ m < 1 ∨ 12 < m) : dim y m = 0 := by unfold dim; rw [if_pos h]
theorem dim_pos (y m : Int) (h : 1 ≤ dim y m) : 2000 ≤ y ∧ y ≤ 2399 ∧ 1 ≤ m ∧ m ≤ 12 := by
  by_cases g : y < 2000 ∨ 2399 < y ∨ m < 1 ∨ 12 < m
  · rw [dim_out y m g] at h; omega
  · omega
theorem dim_28 (y m : Int) (a : 2000 ≤ y) (b : y ≤ 2399) (c : 1 ≤ m) (d : m ≤ 12) : 28 ≤ dim y m := by
  have := lp_01 y
  unfold dim; rw [if_neg (by omega)]
  split
  · omega
  · split <;> omega
theorem cum_one (y : Int) : cum y 1 = 0 := rfl
theorem cum_13 (y : Int) : cum y 13 = 365 + lp y := rfl
theorem cum_succ (y m : Int) (a : 2000 ≤ y) (b : y ≤ 2399) (c : 1 ≤ m) (d : m ≤ 12) : cum y (m + 1) = cum y m + dim y m := by
  have h : m = 1 ∨ m = 2 ∨ m = 3 ∨ m = 4 ∨ m = 5 ∨ m = 6 ∨ m = 7 ∨ m = 8 ∨ m = 9 ∨ m = 10 ∨ m = 11 ∨ m = 12 := by omega
  unfold dim
  rw [if_neg (by omega)]
  rcases h with rfl | rfl | rfl | rfl | rfl | rfl | rfl | rfl | rfl | rfl | rfl | rfl <;> simp [cum] <;> omega
theorem cum_bd (y m : Int) (c : 1 ≤ m) (d : m ≤ 13) : 0 ≤ cum y m ∧ cum y m ≤ 366 := by
  have := lp_01 y
  have h : m = 1 ∨ m = 2 ∨ m = 3 ∨ m = 4 ∨ m = 5 ∨ m = 6 ∨ m = 7 ∨ m = 8 ∨ m = 9 ∨ m = 10 ∨ m = 11 ∨ m = 12 ∨ m = 13 := by omega
  rcases h with rfl | rfl | rfl | rfl | rfl | rfl | rfl | rfl | rfl | rfl | rfl | rfl | rfl <;> simp [cum] <;> omega
theorem cum_mono (y m k : Int) (c : 1 ≤ m) (d : m < k) (e : k ≤ 13) (a : 2000 ≤ y) (b : y ≤ 2399) : cum y m + dim y m ≤ cum y k := by
  rw [← cum_succ y m a b c (by omega)]
  have := lp_01 y
  have h : m = 1 ∨ m = 2 ∨ m = 3 ∨ m = 4 ∨ m = 5 ∨ m = 6 ∨ m = 7 ∨ m = 8 ∨ m = 9 ∨ m = 10 ∨ m = 11 ∨ m = 12 := by omega
  have g : k = 2 ∨ k = 3 ∨ k = 4 ∨ k = 5 ∨ k = 6 ∨ k = 7 ∨ k = 8 ∨ k = 9 ∨ k = 10 ∨ k = 11 ∨ k = 12 ∨ k = 13 := by omega
  rcases h with rfl | rfl | rfl | rfl | rfl | rfl | rfl | rfl | rfl | rfl | rfl | rfl <;>
    rcases g with rfl | rfl | rfl | rfl | rfl | rfl | rfl | rfl | rfl | rfl | rfl | rfl <;> first | omega | (simp [cum] <;> omega)
theorem ys_2000 : ys 2000 = 0 := by decide
theorem ys_2400 : ys 2400 = 146097 := by decide
theorem ys_succ (y : Int) : ys (y + 1) = ys y + 365 + lp y := by unfold ys lp; split <;> omega
theorem ys_mono (a b : Int) (h : a ≤ b) : ys a ≤ ys b := by unfold ys; omega
theorem ys_bd (y : Int) (a : 2000 ≤ y) (b : y ≤ 2400) : 0 ≤ ys y ∧ ys y ≤ 146097 := by
  have h1 := ys_mono _ _ a
  have h2 := ys_mono _ _ b
  rw [ys_2000] at h1; rw [ys_2400] at h2; exact ⟨h1, h2⟩
theorem ys_guess (n : Int) (a : 0 ≤ n) (b : n < 146097) : ys (2000 + n / 366) ≤ n ∧ n < ys (2000 + n / 366 + 2) := by unfold ys; omega
theorem ys_uniq (a b n : Int) (h1 : ys a ≤ n) (h2 : n < ys (a + 1)) (h3 : ys b ≤ n) (h4 : n < ys (b + 1)) : a = b := by
  by_cases h : a < b
  · have := ys_mono (a + 1) b (by omega); omega
  · by_cases g : b < a
    · have := ys_mono (b + 1) a (by omega); omega
    · omega

/-- How many days a date is behind the first one of 2000. -/
def num (y m d : Int) : Int := ys y + cum y m + d - 1
theorem num_bd (y m d : Int) (h : 1 ≤ d) (g : d ≤ dim y m) : 0 ≤ num y m d ∧ num y m d < 146097 ∧ ys y ≤ num y m d ∧ num y m d < ys (y + 1) := by
  obtain ⟨a, b, c, e⟩ := dim_pos y m (by omega)
  have h1 := ys_bd y a (by omega)
  have h2 := ys_bd (y + 1) (by omega) (by omega)
  have h3 := ys_succ y
  have h4 := cum_succ y m a b c e
  have h5 := cum_bd y m c (by omega)
  have h6 : cum y (m + 1) ≤ 365 + lp y := by
    by_cases h : m = 12
    · subst h; exact Int.le_of_eq rfl
    · have := cum_mono y (m + 1) 13 (by omega) (by omega) (by omega) a b
      rw [cum_13] at this
      have := dim_31 y (m + 1)
      omega
  unfold num
  omega
/-- A day has one date. -/
theorem num_inj (y m d y' m' d' : Int) (h : 1 ≤ d) (g : d ≤ dim y m) (h' : 1 ≤ d') (g' : d' ≤ dim y' m') (e : num y m d = num y' m' d') : y = y' ∧ m = m' ∧ d = d' := by
  have b1 := num_bd y m d h g
  have b2 := num_bd y' m' d' h' g'
  have hy : y = y' := ys_uniq y y' (num y m d) (by omega) (by omega) (by omega) (by omega)
  subst hy
  obtain ⟨a, b, c, k⟩ := dim_pos y m (by omega)
  obtain ⟨_, _, c', k'⟩ := dim_pos y m' (by omega)
  have hm : m = m' := by
    unfold num at e
    by_cases h1 : m < m'
    · have := cum_mono y m m' c h1 (by omega) a b; omega
    · by_cases h2 : m' < m
      · have := cum_mono y m' m c' h2 (by omega) a b; omega
      · omega
  subst hm
  exact ⟨rfl, rfl, by unfold num at e; omega⟩
/-- The year in which a day lies. -/
def yearOf (n : Int) : Int := if ys (2000 + n / 366 + 1) ≤ n then 2000 + n / 366 + 1 else 2000 + n / 366
theorem yearOf_ok (n : Int) (a : 0 ≤ n) (b : n < 146097) : 2000 ≤ yearOf n ∧ yearOf n ≤ 2399 ∧ ys (yearOf n) ≤ n ∧ n < ys (yearOf n + 1) := by
  have h := ys_guess n a b
  have key : ys (yearOf n) ≤ n ∧ n < ys (yearOf n + 1) := by
    unfold yearOf; split
    · have e : 2000 + n / 366 + 1 + 1 = 2000 + n / 366 + 2 := by omega
      rw [e]
      exact ⟨by assumption, h.2⟩
    · exact ⟨h.1, by omega⟩
  have lo : 2000 ≤ yearOf n := by unfold yearOf; split <;> omega
  refine ⟨lo, ?_, key⟩
  by_cases g : yearOf n ≤ 2399
  · exact g
  · have := ys_mono 2400 (yearOf n) (by omega); rw [ys_2400] at this; omega
end Go.Proofs.Ytjllbklkaalafaa.Cal

/- What each function of package civil comes to, said of the plain functions of Cal. -/
namespace Go.Proofs.Ytjllbklkaalafaa
open Go.RowKit

def tab : List Int := [31, 28, 31, 30, 31, 30, 31, 31, 30, 31, 30, 31]
end Go.Proofs.Ytjllbklkaalafaa

/- What Number, Of, Week and the smaller functions beside them come to. -/
namespace Go.Proofs.Ytjllbklkaalafaa
open Go.RowKit

end Go.Proofs.Ytjllbklkaalafaa
