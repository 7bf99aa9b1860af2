/- What slotref3.digit, low, sign and Word come to. -/
import Derived.Test.YtkineofpclneaabDoorLexU
namespace Go.Proofs.YtkineofpclneaabDoor
open Go.RowKit Lx

theorem rdigit_any (c : UInt8) (w : World) : Calls Tryd.prog 47 #[.int .u8 (c.toNat : Int)] w fun e w' => e = .returned (.bool (isD c)) ∧ w' = w := by
  unfold isD
  by_cases h1 : 48 ≤ c.toNat
  · by_cases h2 : c.toNat ≤ 57
    · have i1 : (48 : Int) ≤ (c.toNat : Int) := by omega
      have i2 : (c.toNat : Int) ≤ 57 := by omega
      rw [decide_eq_true h1, decide_eq_true h2]
      go_enter Tryd.func47, Tryd.ntmps47
      go_wp2
      go_ret
      exact ⟨rfl, rfl⟩
    · have i1 : (48 : Int) ≤ (c.toNat : Int) := by omega
      have i2 : ¬ (c.toNat : Int) ≤ 57 := by omega
      rw [decide_eq_true h1, decide_eq_false h2]
      go_enter Tryd.func47, Tryd.ntmps47
      go_wp2
      go_ret
      exact ⟨rfl, rfl⟩
  · have i1 : ¬ (48 : Int) ≤ (c.toNat : Int) := by omega
    rw [decide_eq_false h1]
    go_enter Tryd.func47, Tryd.ntmps47
    go_wp2
    go_ret
    exact ⟨rfl, rfl⟩
theorem rlow_any (c : UInt8) (w : World) : Calls Tryd.prog 46 #[.int .u8 (c.toNat : Int)] w fun e w' => e = .returned (.bool (isL c)) ∧ w' = w := by
  unfold isL
  by_cases h1 : 97 ≤ c.toNat
  · by_cases h2 : c.toNat ≤ 122
    · have i1 : (97 : Int) ≤ (c.toNat : Int) := by omega
      have i2 : (c.toNat : Int) ≤ 122 := by omega
      rw [decide_eq_true h1, decide_eq_true h2]
      go_enter Tryd.func46, Tryd.ntmps46
      go_wp2
      go_ret
      exact ⟨rfl, rfl⟩
    · have i1 : (97 : Int) ≤ (c.toNat : Int) := by omega
      have i2 : ¬ (c.toNat : Int) ≤ 122 := by omega
      rw [decide_eq_true h1, decide_eq_false h2]
      go_enter Tryd.func46, Tryd.ntmps46
      go_wp2
      go_ret
      exact ⟨rfl, rfl⟩
  · have i1 : ¬ (97 : Int) ≤ (c.toNat : Int) := by omega
    rw [decide_eq_false h1]
    go_enter Tryd.func46, Tryd.ntmps46
    go_wp2
    go_ret
    exact ⟨rfl, rfl⟩


/-- Does that byte stand at that place? -/
def atB (l : List UInt8) (k c : Nat) : Bool := decide (k < l.length) && decide ((l.getD k 0).toNat = c)
set_option maxHeartbeats 400000 in
theorem rsign_any (s : ByteArray) (l : List UInt8) (hs : s.data.toList = l) (k c : Nat) (w : World) :
    Calls Tryd.prog 61 #[.string s, .int .i64 (k : Int), .int .u8 (c : Int)] w fun e w' => e = .returned (.bool (atB l k c)) ∧ w' = w := by
  have hz : s.size = l.length := by rw [← hs, Lib.size_eq]
  unfold atB
  by_cases hk : k < l.length
  · have hk' : (k : Int) < (l.length : Int) := by omega
    have hk0 : (0 : Int) ≤ (k : Int) := by omega
    have g1 : ∀ h : k < s.size, s[k] = l.getD k 0 := fun h => byte_at hs k h
    rw [decide_eq_true hk, Bool.true_and]
    generalize hb : l.getD k 0 = b at *
    by_cases hc : b.toNat = c
    · have i1 : ((b.toNat : Int) == (c : Int)) = true := by simp; omega
      rw [decide_eq_true hc]
      clear hc
      go_enter Tryd.func61, Tryd.ntmps61
      go_wp2
      go_ret
      exact ⟨by simp only [i1] at *; rfl, rfl⟩
    · have i1 : ((b.toNat : Int) == (c : Int)) = false := by simp; omega
      rw [decide_eq_false hc]
      clear hc
      go_enter Tryd.func61, Tryd.ntmps61
      go_wp2
      go_ret
      exact ⟨by simp only [i1] at *; rfl, rfl⟩
  · have hk' : ¬ (k : Int) < (l.length : Int) := by omega
    rw [decide_eq_false hk]
    go_enter Tryd.func61, Tryd.ntmps61
    go_wp2
    go_ret
    exact ⟨rfl, rfl⟩

/-- The words as the document's answer lists them. -/
def rwordsL : List (List UInt8) := [[114, 117, 108, 101], [110, 101, 118, 101, 114], [97, 108, 119, 97, 121, 115], [119, 101, 101, 107, 108, 121], [100, 97, 116, 101, 115], [115, 104, 105, 102, 116], [109, 111, 110], [116, 117, 101], [119, 101, 100], [116, 104, 117], [102, 114, 105], [115, 97, 116], [115, 117, 110]]
def rwordCells : Array Value := (rwordsL.map fun l => Value.string ⟨l.toArray⟩).toArray
theorem rwordCell (j : Nat) (hj : j < 13) : rwordCells[j]? = some (.string ⟨(rwordsL.getD j []).toArray⟩) := by
  have h : j < rwordsL.length := hj
  unfold rwordCells
  simp only [List.getElem?_toArray, List.getElem?_map, List.getD_eq_getElem?_getD, List.getElem?_eq_getElem h]
  rfl
theorem rword_mem (x : List UInt8) : x ∈ rwordsL ↔ x ∈ wordsL := by
  unfold rwordsL wordsL
  simp only [List.mem_cons, List.not_mem_nil, or_false]
  constructor
  · rintro (h | h | h | h | h | h | h | h | h | h | h | h | h) <;> subst h <;> simp
  · rintro (h | h | h | h | h | h | h | h | h | h | h | h | h) <;> subst h <;> simp
theorem rword_no {x : List UInt8} (h : ∀ j, j < 13 → rwordsL.getD j [] ≠ x) : isWordL x = false := by
  cases e : isWordL x with
  | false => rfl
  | true =>
    unfold isWordL at e
    rw [List.any_eq_true] at e
    obtain ⟨y, hy, hx⟩ := e
    have hyx : y = x := by simpa using hx
    subst hyx
    obtain ⟨j, hj, hjx⟩ := List.getElem_of_mem ((rword_mem y).2 hy)
    have hj' : j < 13 := hj
    exact absurd (by simpa [List.getD, hj] using hjx) (h j hj')
theorem rword_yes {x : List UInt8} (j : Nat) (hj : j < 13) (h : rwordsL.getD j [] = x) : isWordL x = true := by
  have hj' : j < rwordsL.length := hj
  have hm : x ∈ rwordsL := by rw [← h]; simp [List.getD, hj']
  unfold isWordL
  rw [List.any_eq_true]
  exact ⟨x, (rword_mem x).1 hm, beq_self_eq_true x⟩
set_option maxRecDepth 10000 in
set_option maxHeartbeats 400000 in
theorem rword_any (x : ByteArray) (l : List UInt8) (hx : x.data.toList = l) (w : World) :
    Calls Tryd.prog 27 #[.string x] w fun e w' => e = .returned (.bool (isWordL l)) ∧ Below w.heap.size w w' := by
  have hg : (w.alloc (.cells rwordCells 9)).heap[w.heap.size]? = some (.cells rwordCells 9 (0, 0)) := heap_alloc_new w _
  have hb : Below w.heap.size w (w.alloc (.cells rwordCells 9)) := (Below.refl _ _).alloc (Nat.le_refl _) _
  have HC : Hid (∀ j, j < 13 → (w.alloc (.cells rwordCells 9)).cell? ⟨w.heap.size, j, none⟩ = some (.string ⟨(rwordsL.getD j []).toArray⟩)) := fun j hj => by rw [cell_of_row _ _ _ _ _ _ hg, rwordCell j hj]
  have hW : (w.alloc (.cells #[.string ⟨#[114, 117, 108, 101]⟩, .string ⟨#[110, 101, 118, 101, 114]⟩, .string ⟨#[97, 108, 119, 97, 121, 115]⟩, .string ⟨#[119, 101, 101, 107, 108, 121]⟩, .string ⟨#[100, 97, 116, 101, 115]⟩, .string ⟨#[115, 104, 105, 102, 116]⟩, .string ⟨#[109, 111, 110]⟩, .string ⟨#[116, 117, 101]⟩, .string ⟨#[119, 101, 100]⟩, .string ⟨#[116, 104, 117]⟩, .string ⟨#[102, 114, 105]⟩, .string ⟨#[115, 97, 116]⟩, .string ⟨#[115, 117, 110]⟩] 9)) = w.alloc (.cells rwordCells 9) := rfl
  generalize w.alloc (.cells rwordCells 9) = w1 at *
  clear hg
  go_enter Tryd.func27, Tryd.ntmps27
  go_wp2
  go_loop [7] (fun i => ∃ k : Nat, k ≤ 13 ∧ i = .int .i64 k ∧ ∀ j, j < k → rwordsL.getD j [] ≠ l) (fun i => 13 - (intOf i).toNat)
  case atStart => exact ⟨0, by omega, rfl, fun i h => by omega⟩
  case round =>
    obtain ⟨k, hk, rfl, hall⟩ := hrel
    have HA : Hid (∀ j, j < k → rwordsL.getD j [] ≠ l) := hall
    clear hall
    by_cases hlt : k < 13
    · have hlt' : (k : Int) < 13 := by omega
      have hk0 : (0 : Int) ≤ (k : Int) := by omega
      have ck := HC.out k hlt
      generalize hy : (⟨(rwordsL.getD k []).toArray⟩ : ByteArray) = y at ck
      have hyl : y.data.toList = rwordsL.getD k [] := by rw [← hy]
      by_cases he : rwordsL.getD k [] = l
      · have hq : (y.toList == x.toList) = true := by rw [Lib.toList_data, Lib.toList_data, hyl, hx, he]; simp
        have hWd : Hid (isWordL l = true) := rword_yes k hlt he
        clear he hyl hy hW
        go_wp2
        go_ret
        exact ⟨by rw [hWd.out]; rfl, hb⟩
      · have hq : (y.toList == x.toList) = false := by
          rw [Lib.toList_data, Lib.toList_data, hyl, hx]
          rw [beq_eq_false_iff_ne]
          exact he
        have HE : Hid (rwordsL.getD k [] ≠ l) := he
        clear he hyl hy hW
        go_wp2
        go_round
        case rel =>
          refine ⟨k + 1, by omega, by go_num, fun j hj => ?_⟩
          by_cases e : j = k
          · subst e; exact HE.out
          · exact HA.out j (by omega)
        case measure => simp [intOf]; omega
    · have hkl : k = 13 := by omega
      subst hkl
      have hWd : Hid (isWordL l = false) := rword_no HA.out
      clear hW
      go_wp2
      go_ret
      exact ⟨by rw [hWd.out]; rfl, hb⟩
end Go.Proofs.YtkineofpclneaabDoor
