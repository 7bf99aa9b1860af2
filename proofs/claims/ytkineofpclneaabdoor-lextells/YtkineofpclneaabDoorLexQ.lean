/- More plain facts about texts: signs and words. -/
import Derived.Test.YtkineofpclneaabDoorLexP
namespace Lx

def signsL : List UInt8 := [61, 59, 58, 43, 45, 38, 40, 41, 44]
theorem index_lt : ∀ (l : List UInt8) (c : UInt8), Go.Lib.indexByte l c < (l.length : Int)
  | [], c => by simp [Go.Lib.indexByte]
  | b :: l, c => by
    have ih := index_lt l c
    unfold Go.Lib.indexByte
    simp only [List.length_cons]
    split
    · omega
    · split <;> omega
theorem index_at : ∀ (l : List UInt8) (c : UInt8) (i : Nat), Go.Lib.indexByte l c = (i : Int) → l.getD i 0 = c
  | [], c, i, h => by simp [Go.Lib.indexByte] at h
  | b :: l, c, i, h => by
    unfold Go.Lib.indexByte at h
    split at h
    · rename_i hb
      have : i = 0 := by omega
      subst this
      simpa using hb
    · split at h
      · omega
      · have ge := Go.Lib.indexByte_ge l c
        rename_i hn
        have hn' : Go.Lib.indexByte l c ≠ -1 := by simpa using hn
        obtain ⟨j, hj⟩ : ∃ j : Nat, Go.Lib.indexByte l c = j := ⟨(Go.Lib.indexByte l c).toNat, by omega⟩
        have e : i = j + 1 := by omega
        subst e
        simpa using index_at l c j hj
def signT (l : List UInt8) : T1 := if Go.Lib.hasPrefix l [46, 46] then ⟨3, 0, [46, 46], 2, 0⟩ else if Go.Lib.indexByte signsL (l.getD 0 0) < 0 then bad 2 else ⟨3, 0, [l.getD 0 0], 1, 0⟩
theorem ba_of {s : ByteArray} {l : List UInt8} (h : s.data.toList = l) : s = ⟨l.toArray⟩ := by
  obtain ⟨d⟩ := s
  simp only at h
  subst h
  simp
def wordsL : List (List UInt8) := [[97, 108, 119, 97, 121, 115], [100, 97, 116, 101, 115], [102, 114, 105], [109, 111, 110], [110, 101, 118, 101, 114], [114, 117, 108, 101], [115, 97, 116], [115, 104, 105, 102, 116], [115, 117, 110], [116, 104, 117], [116, 117, 101], [119, 101, 100], [119, 101, 101, 107, 108, 121]]
def isWordL (t : List UInt8) : Bool := wordsL.any fun w => w == t
def wordT (l : List UInt8) : T1 := if 20 < wordLen l then bad 7 else ⟨if isWordL (l.take (wordLen l)) then 2 else 1, 0, l.take (wordLen l), wordLen l, 0⟩
end Lx
