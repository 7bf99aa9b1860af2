/- What lex.fits comes to. -/
import Derived.Test.YtkineofpclneaabDoorLexA
namespace Go.Proofs.YtkineofpclneaabDoor
open Go.RowKit Lx

set_option maxRecDepth 10000 in
set_option maxHeartbeats 1000000 in
theorem fits_any (s t : ByteArray) (l m : List UInt8) (hs : s.data.toList = l) (ht : t.data.toList = m) (hl : l.length ≤ 9223372036854775807) (hm : m.length ≤ 100) (w : World) :
    Calls Tryd.prog 52 #[.string s, .string t] w fun e w' => e = .returned (.bool (fitsL l m)) ∧ Below w.heap.size w w' := by
  have hz : s.size = l.length := by rw [← hs, Lib.size_eq]
  have hy : t.size = m.length := by rw [← ht, Lib.size_eq]
  by_cases hsh : m.length ≤ l.length
  · have hsh' : ¬ (l.length : Int) < (m.length : Int) := by omega
    go_enter Tryd.func52, Tryd.ntmps52
    go_wp2
    go_loopw [13] (fun i wr => ∃ k : Nat, k ≤ m.length ∧ i = .int .i64 k ∧ (∀ i, i < k → okB (m.getD i 0) (l.getD i 0) = true) ∧ Below w.heap.size w wr) (fun i _ => m.length - (intOf i).toNat)
    case atStart => exact ⟨0, by omega, rfl, fun i h => by omega, Below.refl _ _⟩
    case round =>
      obtain ⟨k, hk, rfl, hall, hbel⟩ := hrel
      have HA : Hid (∀ i, i < k → okB (m.getD i 0) (l.getD i 0) = true) := hall
      clear hall
      by_cases hlt : k < m.length
      · have hlt' : (k : Int) < (m.length : Int) := by omega
        have hlt2 : (k : Int) < (l.length : Int) := by omega
        have hk0 : (0 : Int) ≤ (k : Int) := by omega
        have e1 := byte_at hs k (by omega)
        have e2 := byte_at ht k (by omega)
        have g1 : ∀ h : k < s.size, s[k] = l.getD k 0 := fun _ => e1
        have g2 : ∀ h : k < t.size, t[k] = m.getD k 0 := fun _ => e2
        have hok : okB (m.getD k 0) (l.getD k 0) = (if (m.getD k 0).toNat = 48 then isD (l.getD k 0) else decide ((m.getD k 0).toNat = (l.getD k 0).toNat)) := rfl
        generalize hc : l.getD k 0 = c at *
        generalize hf : m.getD k 0 = f at *
        by_cases h48 : f.toNat = 48
        · have i48 : (f.toNat : Int) = 48 := by omega
          rw [if_pos h48] at hok
          cases hd : isD c with
          | true =>
            rw [hd] at hok
            have HO : Hid (okB f c = true) := hok
            have cd := fun w => digit_any c w
            rw [hd] at cd
            clear hok hd e1 e2
            go_wp2
            go_quiet ((go_at_call 55; exact Calls.quiet_of_same (cd _)))
            go_wp2
            go_roundw
            case rel =>
              refine ⟨k + 1, by omega, by go_num, fun i hi => ?_, below_drewN hbel _⟩
              by_cases e : i = k
              · subst e; rw [hc, hf]; exact HO.out
              · exact HA.out i (by omega)
            case measure => simp [intOf]; omega
          | false =>
            rw [hd] at hok
            have HO : Hid (okB f c = false) := hok
            have cd := fun w => digit_any c w
            rw [hd] at cd
            clear hok hd e1 e2
            go_wp2
            go_quiet ((go_at_call 55; exact Calls.quiet_of_same (cd _)))
            go_wp2
            go_ret
            exact ⟨by rw [fitsL_no k hlt (by rw [hc, hf]; exact HO.out)]; rfl, below_drewN hbel _⟩
        · have n48 : ((f.toNat : Int) == 48) = false := by simp; omega
          rw [if_neg h48] at hok
          by_cases hfc : f.toNat = c.toNat
          · have HO : Hid (okB f c = true) := by rw [hok]; exact decide_eq_true hfc
            have m48 : ((c.toNat : Int) == 48) = false := by simp; omega
            have o48 : ((c.toNat : Int) != 48) = true := by simp; omega
            have o49 : ((c.toNat : Int) != (c.toNat : Int)) = false := by simp
            clear hok e1 e2 n48 h48
            go_wp2
            go_quiet (fail)
            go_wp2
            go_roundw
            case rel =>
              refine ⟨k + 1, by omega, by go_num, fun i hi => ?_, below_drewN hbel _⟩
              by_cases e : i = k
              · subst e; rw [hc, hf]; exact HO.out
              · exact HA.out i (by omega)
            case measure => simp [intOf]; omega
          · have HO : Hid (okB f c = false) := by rw [hok]; exact decide_eq_false hfc
            have o48 : ((f.toNat : Int) != 48) = true := by simp; omega
            have ifc : ((f.toNat : Int) != (c.toNat : Int)) = true := by simp; omega
            clear hok e1 e2
            go_wp2
            go_quiet (fail)
            go_wp2
            go_ret
            exact ⟨by rw [fitsL_no k hlt (by rw [hc, hf]; exact HO.out)]; rfl, below_drewN hbel _⟩
      · have HF : Hid (fitsL l m = true) := fitsL_yes hsh fun i hi => HA.out i (by omega)
        have hkl : k = m.length := by omega
        subst hkl
        go_wp2
        go_ret
        exact ⟨by rw [HF.out]; rfl, hbel⟩
  · have HF : Hid (fitsL l m = false) := fitsL_short hsh
    have hsh' : (l.length : Int) < (m.length : Int) := by omega
    go_enter Tryd.func52, Tryd.ntmps52
    go_wp2
    go_ret
    exact ⟨by rw [HF.out]; rfl, Below.refl _ _⟩
end Go.Proofs.YtkineofpclneaabDoor
