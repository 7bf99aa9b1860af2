/- What lex.sign comes to. -/
import Derived.Test.YtkineofpclneaabDoorLexC
import Derived.Test.YtkineofpclneaabDoorLexE
import Derived.Test.YtkineofpclneaabDoorLexF
import Derived.Test.YtkineofpclneaabDoorLexQ
namespace Go.Proofs.YtkineofpclneaabDoor
open Go.RowKit Lx

set_option maxRecDepth 10000 in
set_option maxHeartbeats 400000 in
theorem sign_any (s : ByteArray) (l : List UInt8) (hs : s.data.toList = l) (hl : 0 < l.length) (w : World) :
    Calls Tryd.prog 59 #[.string s] w fun e w' => e = .returned (tokv (signT l)) ∧ Below w.heap.size w w' := by
  have hz : s.size = l.length := by rw [← hs, Lib.size_eq]
  have cp := fun w => prefix_any s ⟨#[46, 46]⟩ w
  rw [hs] at cp
  have hb0 : Below w.heap.size w (w.alloc (.cells #[.int .i64 0, .int .i64 0, .int .i64 0, .string ⟨#[]⟩] 54)) := (Below.refl _ _).alloc (Nat.le_refl _) _
  cases hp : Lib.hasPrefix l [46, 46] with
  | true =>
    have HT : Hid (signT l = ⟨3, 0, [46, 46], 2, 0⟩) := by
      show signT l = _
      unfold signT; rw [hp]; rfl
    rw [show (⟨#[46, 46]⟩ : ByteArray).data.toList = [46, 46] from rfl, hp] at cp
    have hbx : Below w.heap.size w (w.alloc (.cells #[.int .i64 3, .int .i64 0, .int .i64 0, .string ⟨#[46, 46]⟩] 54)) := (Below.refl _ _).alloc (Nat.le_refl _) _
    clear hp
    go_enter Tryd.func59, Tryd.ntmps59
    go_wp2_with (go_at_call 69; refine (cp _).mono ?_; rintro e w' ⟨rfl, rfl⟩)
    exact tok_post (by rw [Tryd.results59, Tryd.results56]) w.heap.size ⟨3, 0, [46, 46], 2, 0⟩ rfl rfl rfl rfl (heap_alloc_new w _) ⟨by rw [HT.out], hbx⟩
  | false =>
    rw [show (⟨#[46, 46]⟩ : ByteArray).data.toList = [46, 46] from rfl, hp] at cp
    have g1 : ∀ h : 0 < s.size, s[0] = l.getD 0 0 := fun h => byte_at hs 0 h
    have hl' : (0 : Int) < (l.length : Int) := by omega
    have ci := fun w => index_any ⟨#[61, 59, 58, 43, 45, 38, 40, 41, 44]⟩ ((l.getD 0 0).toNat : Int) w
    have eu : (((l.getD 0 0).toNat : Int)).toNat.toUInt8 = l.getD 0 0 := by simp
    rw [eu, show (⟨#[61, 59, 58, 43, 45, 38, 40, 41, 44]⟩ : ByteArray).data.toList = signsL from rfl] at ci
    have hlt := index_lt signsL (l.getD 0 0)
    have hlt9 : Lib.indexByte signsL (l.getD 0 0) < 9 := hlt
    have hge := Lib.indexByte_ge signsL (l.getD 0 0)
    have hat := index_at signsL (l.getD 0 0)
    have hT : signT l = if Go.Lib.indexByte signsL (l.getD 0 0) < 0 then bad 2 else ⟨3, 0, [l.getD 0 0], 1, 0⟩ := by
      unfold signT; rw [hp]; rfl
    generalize hc : l.getD 0 0 = c at *
    generalize Lib.indexByte signsL c = i at *
    clear hp hlt eu
    by_cases hi : i < 0
    · have HT : Hid (signT l = bad 2) := by
        show signT l = _
        rw [hT, if_pos hi]
      clear hT hat
      go_enter Tryd.func59, Tryd.ntmps59
      go_wp2_with (first
        | (go_at_call 69; refine (cp _).mono ?_; rintro e w' ⟨rfl, rfl⟩)
        | (go_at_call 65; refine (ci _).mono ?_; rintro e w' ⟨rfl, rfl⟩))
      exact tok_post (by rw [Tryd.results59, Tryd.results56]) w.heap.size (bad 2) rfl rfl rfl rfl (heap_alloc_new w _) ⟨by rw [HT.out], hb0⟩
    · have HT : Hid (signT l = ⟨3, 0, [c], 1, 0⟩) := by
        show signT l = _
        rw [hT, if_neg hi]
      obtain ⟨j, rfl⟩ : ∃ j : Nat, i = j := ⟨i.toNat, by omega⟩
      have hj := hat j rfl
      have hj9 : j < 9 := by omega
      have ex : (⟨#[61, 59, 58, 43, 45, 38, 40, 41, 44]⟩ : ByteArray).extract j (j + 1) = ⟨#[c]⟩ := by
        apply ba_of (l := [c])
        rw [Lib.extract_data, show (⟨#[61, 59, 58, 43, 45, 38, 40, 41, 44]⟩ : ByteArray).data.toList = signsL from rfl, show j + 1 - j = 1 by omega]
        have hjl : j < signsL.length := hj9
        rw [List.drop_eq_getElem_cons hjl]
        have : signsL[j] = c := by
          rw [← hj]; simp [List.getD, hjl]
        simp [this]
      have i0 : ¬ (j : Int) < 0 := by omega
      have i1 : (0 : Int) ≤ (j : Int) := by omega
      have i2 : (j : Int) ≤ 9 := by omega
      have i3 : (j : Int) + 1 ≤ 9 := by omega
      have hbx : Below w.heap.size w (w.alloc (.cells #[.int .i64 3, .int .i64 0, .int .i64 0, .string ⟨#[c]⟩] 54)) := (Below.refl _ _).alloc (Nat.le_refl _) _
      clear hT hat hi hj
      go_enter Tryd.func59, Tryd.ntmps59
      go_wp2_with (first
        | (go_at_call 69; refine (cp _).mono ?_; rintro e w' ⟨rfl, rfl⟩)
        | (go_at_call 65; refine (ci _).mono ?_; rintro e w' ⟨rfl, rfl⟩))
      exact tok_post (by rw [Tryd.results59, Tryd.results56]) w.heap.size ⟨3, 0, [c], 1, 0⟩ rfl rfl rfl rfl (heap_alloc_new w _) ⟨by rw [HT.out], hbx⟩
end Go.Proofs.YtkineofpclneaabDoor
