/- What lex.remarkLength and lex.skip come to. -/
import Derived.Test.YtkineofpclneaabDoorLexE
namespace Go.Proofs.YtkineofpclneaabDoor
open Go.RowKit Lx

set_option maxHeartbeats 400000 in
theorem remark_any (s : ByteArray) (l : List UInt8) (hs : s.data.toList = l) (w : World) :
    Calls Tryd.prog 51 #[.string s] w fun e w' => e = .returned (.int .i64 (remL l : Int)) ∧ w' = w := by
  have hz : s.size = l.length := by rw [← hs, Lib.size_eq]
  have ci := fun w => index_any s 10 w
  have e10 : (10 : Int).toNat.toUInt8 = 10 := by decide
  rw [hs, e10, index_rem] at ci
  have hle : remL l ≤ l.length := runOf_le _ l
  by_cases h : remL l < l.length
  · rw [if_pos h] at ci
    have h0 : (0 : Int) ≤ (remL l : Int) := by omega
    go_enter Tryd.func51, Tryd.ntmps51
    go_wp2_with (go_at_call 65; refine (ci _).mono ?_; rintro e w' ⟨rfl, rfl⟩)
    go_ret
    exact ⟨rfl, rfl⟩
  · rw [if_neg h] at ci
    have e : remL l = l.length := by omega
    rw [e]
    go_enter Tryd.func51, Tryd.ntmps51
    go_wp2_with (go_at_call 65; refine (ci _).mono ?_; rintro e w' ⟨rfl, rfl⟩)
    go_ret
    exact ⟨rfl, rfl⟩

set_option maxRecDepth 10000 in
set_option maxHeartbeats 400000 in
theorem skip_any (s : ByteArray) (l : List UInt8) (hs : s.data.toList = l) (hl : l.length ≤ 9223372036854775806) (at0 r : Nat) (hat : at0 ≤ l.length) (hr : at0 + skipS false (l.drop at0) = r) (w : World) :
    Calls Tryd.prog 41 #[.string s, .int .i64 (at0 : Int)] w fun e w' => e = .returned (.int .i64 (r : Int)) ∧ w' = w := by
  have hz : s.size = l.length := by rw [← hs, Lib.size_eq]
  have HR : Hid (at0 + skipS false (l.drop at0) = r) := hr
  clear hr
  go_enter Tryd.func41, Tryd.ntmps41
  go_wp2
  go_loop [1] (fun i => ∃ k : Nat, k ≤ l.length ∧ i = .int .i64 k ∧ r = k + skipS false (l.drop k)) (fun i => l.length - (intOf i).toNat)
  case atStart => exact ⟨at0, hat, rfl, HR.out.symm⟩
  case round =>
    obtain ⟨k, hk, rfl, hinv⟩ := hrel
    have HI : Hid (r = k + skipS false (l.drop k)) := hinv
    clear hinv
    by_cases hlt : k < l.length
    · have hlt' : (k : Int) < (l.length : Int) := by omega
      have hk0 : (0 : Int) ≤ (k : Int) := by omega
      have g1 : ∀ h : k < s.size, s[k] = l.getD k 0 := fun h => byte_at hs k h
      have hd0 : (l.drop k).getD 0 0 = l.getD k 0 := by simp [List.getD_eq_getElem?_getD, List.getElem?_drop]
      have hdl : 0 < (l.drop k).length := by simp; omega
      have hdd : ∀ n, (l.drop k).drop n = l.drop (k + n) := fun n => by rw [List.drop_drop]
      have hblank := skip_blank (l.drop k) hdl
      have hhash := skip_hash (l.drop k) hdl
      have hstop := skip_stop (l.drop k)
      rw [hd0] at hblank hhash hstop
      rw [hdd] at hblank hhash
      have cr := fun w => remark_any (s.extract k s.size) (l.drop k) (by rw [Lib.extract_data, hs]; exact List.take_of_length_le (by simp; omega)) w
      have hrl : remL (l.drop k) ≤ (l.drop k).length := runOf_le _ _
      simp only [List.length_drop] at hrl
      rw [hz] at cr
      generalize hc : l.getD k 0 = c at *
      generalize remL (l.drop k) = n at *
      by_cases hb : c.toNat = 32 ∨ c.toNat = 9 ∨ c.toNat = 10
      · have hS := hblank hb
        have HB : Hid (skipS false (l.drop k) = 1 + skipS false (l.drop (k + 1))) := hS
        clear hS hblank hhash hstop cr hdd
        rcases (show c.toNat = 32 ∨ (c.toNat ≠ 32 ∧ c.toNat = 9) ∨ (c.toNat ≠ 32 ∧ c.toNat ≠ 9 ∧ c.toNat = 10) from by omega) with j1 | ⟨j0, j1⟩ | ⟨j0, j00, j1⟩
        · have i1 : ((c.toNat : Int) == 32) = true := by simp; omega
          clear hb j1
          go_wp2
          go_round
          case rel => exact ⟨k + 1, by omega, by go_num, by have := HI.out; have := HB.out; omega⟩
          case measure => simp [intOf]; omega
        · have i0 : ((c.toNat : Int) == 32) = false := by simp; omega
          have i1 : ((c.toNat : Int) == 9) = true := by simp; omega
          clear hb j1 j0
          go_wp2
          go_round
          case rel => exact ⟨k + 1, by omega, by go_num, by have := HI.out; have := HB.out; omega⟩
          case measure => simp [intOf]; omega
        · have i0 : ((c.toNat : Int) == 32) = false := by simp; omega
          have i00 : ((c.toNat : Int) == 9) = false := by simp; omega
          have i1 : ((c.toNat : Int) == 10) = true := by simp; omega
          clear hb j1 j0 j00
          go_wp2
          go_round
          case rel => exact ⟨k + 1, by omega, by go_num, by have := HI.out; have := HB.out; omega⟩
          case measure => simp [intOf]; omega
      · have i0 : ((c.toNat : Int) == 32) = false := by simp; omega
        have i00 : ((c.toNat : Int) == 9) = false := by simp; omega
        have i1 : ((c.toNat : Int) == 10) = false := by simp; omega
        by_cases h35 : c.toNat = 35
        · obtain ⟨hS, hn1⟩ := hhash h35
          have HB : Hid (skipS false (l.drop k) = n + skipS false (l.drop (k + n))) := hS
          have i2 : ((c.toNat : Int) == 35) = true := by simp; omega
          clear hS hblank hhash hstop hb h35 hdd
          go_wp2_with (go_at_call 51; refine (cr _).mono ?_; rintro e w' ⟨rfl, rfl⟩)
          go_round
          case rel => exact ⟨k + n, by omega, by go_num, by have := HI.out; have := HB.out; omega⟩
          case measure => simp [intOf]; omega
        · have HB : Hid (skipS false (l.drop k) = 0) := hstop fun _ => ⟨hb, h35⟩
          have i2 : ((c.toNat : Int) == 35) = false := by simp; omega
          clear hblank hhash hstop hb h35 cr hdd
          go_wp2
          go_ret
          exact ⟨by rw [show r = k from by have := HI.out; have := HB.out; omega]; rfl, rfl⟩
    · have hkl : k = l.length := by omega
      have HB : Hid (skipS false (l.drop k) = 0) := by
        rw [hkl, List.drop_length]
        exact rfl
      have hlt' : ¬ (k : Int) < (l.length : Int) := by omega
      clear hkl
      go_wp2
      go_ret
      exact ⟨by rw [show r = k from by have := HI.out; have := HB.out; omega]; rfl, rfl⟩
end Go.Proofs.YtkineofpclneaabDoor
