/- What lex.isDigit, lex.isLetter and lex.value come to. -/
import Derived.Test.YtllcpoibnmhghaaGreatDoorRows
import Derived.Test.YtllcpoibnmhghaaGreatDoorTb01
import Derived.WalkKit
import Derived.WalkSpells
import Derived.WalkLawsBesides
import Derived.Deep.QuietTactic
import Derived.BigQuiet
import Derived.Laws.Rows
import Derived.Lib.Walk
import Derived.Lib.BufferWrite
import Derived.Lib.UnsafeStr
import Derived.Laws.MakeOwn
import Derived.Deep.WholeRow
import Derived.Laws.CopyOwn
namespace Go.Proofs.YtllcpoibnmhghaaGreatDoor
open Go.RowKit Lx

theorem digit_any (c : UInt8) (w : World) : Calls Tryz.prog 69 #[.int .u8 (c.toNat : Int)] w fun e w' => e = .returned (.bool (isD c)) ∧ w' = w := by
  unfold isD
  by_cases h1 : 48 ≤ c.toNat
  · by_cases h2 : c.toNat ≤ 57
    · have i1 : (48 : Int) ≤ (c.toNat : Int) := by omega
      have i2 : (c.toNat : Int) ≤ 57 := by omega
      rw [decide_eq_true h1, decide_eq_true h2]
      go_enter Tryz.func69, Tryz.ntmps69
      go_wp2
      go_ret
      exact ⟨rfl, rfl⟩
    · have i1 : (48 : Int) ≤ (c.toNat : Int) := by omega
      have i2 : ¬ (c.toNat : Int) ≤ 57 := by omega
      rw [decide_eq_true h1, decide_eq_false h2]
      go_enter Tryz.func69, Tryz.ntmps69
      go_wp2
      go_ret
      exact ⟨rfl, rfl⟩
  · have i1 : ¬ (48 : Int) ≤ (c.toNat : Int) := by omega
    rw [decide_eq_false h1]
    go_enter Tryz.func69, Tryz.ntmps69
    go_wp2
    go_ret
    exact ⟨rfl, rfl⟩
theorem letter_any (c : UInt8) (w : World) : Calls Tryz.prog 71 #[.int .u8 (c.toNat : Int)] w fun e w' => e = .returned (.bool (isL c)) ∧ w' = w := by
  unfold isL
  by_cases h1 : 97 ≤ c.toNat
  · by_cases h2 : c.toNat ≤ 122
    · have i1 : (97 : Int) ≤ (c.toNat : Int) := by omega
      have i2 : (c.toNat : Int) ≤ 122 := by omega
      rw [decide_eq_true h1, decide_eq_true h2]
      go_enter Tryz.func71, Tryz.ntmps71
      go_wp2
      go_ret
      exact ⟨rfl, rfl⟩
    · have i1 : (97 : Int) ≤ (c.toNat : Int) := by omega
      have i2 : ¬ (c.toNat : Int) ≤ 122 := by omega
      rw [decide_eq_true h1, decide_eq_false h2]
      go_enter Tryz.func71, Tryz.ntmps71
      go_wp2
      go_ret
      exact ⟨rfl, rfl⟩
  · have i1 : ¬ (97 : Int) ≤ (c.toNat : Int) := by omega
    rw [decide_eq_false h1]
    go_enter Tryz.func71, Tryz.ntmps71
    go_wp2
    go_ret
    exact ⟨rfl, rfl⟩

theorem byte_at {s : ByteArray} {l : List UInt8} (hs : s.data.toList = l) (k : Nat) (hk : k < s.size) : s[k] = l.getD k 0 := by
  subst hs
  have h : k < s.data.size := hk
  show s.data[k] = _
  rw [List.getD_eq_getElem?_getD, Array.getElem?_toList, Array.getElem?_eq_getElem h]
  rfl
theorem i64_eq {a b : Int} (h : a = b) : Value.int .i64 a = Value.int .i64 b := by rw [h]

set_option maxHeartbeats 400000 in
theorem value_any (s : ByteArray) (l : List UInt8) (hs : s.data.toList = l) (hl : l.length ≤ 6) (hd : ∀ i, i < l.length → isD (l.getD i 0) = true) (w : World) :
    Calls Tryz.prog 84 #[.string s] w fun e w' => e = .returned (.int .i64 (valL l)) ∧ w' = w := by
  have hz : s.size = l.length := by rw [← hs, Lib.size_eq]
  go_enter Tryz.func84, Tryz.ntmps84
  go_wp2
  go_loop [3, 7] (fun n i => ∃ k : Nat, k ≤ l.length ∧ i = .int .i64 k ∧ n = .int .i64 (valL (l.take k))) (fun _ i => l.length - (intOf i).toNat)
  case atStart => exact ⟨0, by omega, rfl, rfl⟩
  case round =>
    obtain ⟨k, hk, rfl, rfl⟩ := hrel
    by_cases hlt : k < l.length
    · have hlt' : (k : Int) < (l.length : Int) := by omega
      have hk0 : (0 : Int) ≤ (k : Int) := by omega
      have hv := valL_small l hd k (by omega) (by omega)
      have hdk := hd k hlt
      have e1 := byte_at hs k (by omega)
      have e2 := valL_take l k hlt
      have HE : Hid (valL (l.take (k + 1)) = 10 * valL (l.take k) + (((l.getD k 0).toNat : Int) - 48)) := e2
      simp only [isD, Bool.and_eq_true, decide_eq_true_eq] at hdk
      have HK : Hid (48 ≤ (l.getD k 0).toNat ∧ (l.getD k 0).toNat ≤ 57) := hdk
      have HB : Hid (s[k] = l.getD k 0) := e1
      clear hdk e1 e2 hd
      go_wp2
      go_round
      case rel =>
        refine ⟨k + 1, by omega, by go_num, i64_eq ?_⟩
        have h2 := HK.out
        rw [HB.out, HE.out]
        generalize (l.getD k 0).toNat = c at h2
        generalize valL (l.take k) = v at hv
        omega
      case measure => simp [intOf]; omega
    · have hkl : k = l.length := by omega
      subst hkl
      have e : valL (l.take l.length) = valL l := by rw [List.take_length]
      go_wp2
      go_ret
      exact ⟨rfl, rfl⟩
end Go.Proofs.YtllcpoibnmhghaaGreatDoor

/- What lex.fits comes to. -/
namespace Go.Proofs.YtllcpoibnmhghaaGreatDoor
open Go.RowKit Lx

set_option maxRecDepth 10000 in
set_option maxHeartbeats 1000000 in
theorem fits_any (s t : ByteArray) (l m : List UInt8) (hs : s.data.toList = l) (ht : t.data.toList = m) (hl : l.length ≤ 9223372036854775807) (hm : m.length ≤ 100) (w : World) :
    Calls Tryz.prog 66 #[.string s, .string t] w fun e w' => e = .returned (.bool (fitsL l m)) ∧ Below w.heap.size w w' := by
  have hz : s.size = l.length := by rw [← hs, Lib.size_eq]
  have hy : t.size = m.length := by rw [← ht, Lib.size_eq]
  by_cases hsh : m.length ≤ l.length
  · have hsh' : ¬ (l.length : Int) < (m.length : Int) := by omega
    go_enter Tryz.func66, Tryz.ntmps66
    go_wp2
    go_loopw [13] (fun i wr => ∃ k : Nat, k ≤ m.length ∧ i = .int .i64 k ∧ (∀ i, i < k → okB (m.getD i 0) (l.getD i 0) = true) ∧ Below w.heap.size w wr) (fun i _ => m.length - (intOf i).toNat)
    case atStart => exact ⟨0, by omega, rfl, fun i h => by omega, Below.refl _ _⟩
    case round =>
      obtain ⟨k, hk, rfl, hall, hbel⟩ := hrel
      have HA : Hid (∀ i, i < k → okB (m.getD i 0) (l.getD i 0) = true) := hall
      clear hall
      by_cases hlt : k < m.length
      · have hlt' : (k : Int) < (m.length : Int) := by omega
        have hlt2 : (k : Int) < (l.length : Int) := by omega
        have hk0 : (0 : Int) ≤ (k : Int) := by omega
        have e1 := byte_at hs k (by omega)
        have e2 := byte_at ht k (by omega)
        have g1 : ∀ h : k < s.size, s[k] = l.getD k 0 := fun _ => e1
        have g2 : ∀ h : k < t.size, t[k] = m.getD k 0 := fun _ => e2
        have hok : okB (m.getD k 0) (l.getD k 0) = (if (m.getD k 0).toNat = 48 then isD (l.getD k 0) else decide ((m.getD k 0).toNat = (l.getD k 0).toNat)) := rfl
        generalize hc : l.getD k 0 = c at *
        generalize hf : m.getD k 0 = f at *
        by_cases h48 : f.toNat = 48
        · have i48 : (f.toNat : Int) = 48 := by omega
          rw [if_pos h48] at hok
          cases hd : isD c with
          | true =>
            rw [hd] at hok
            have HO : Hid (okB f c = true) := hok
            have cd := fun w => digit_any c w
            rw [hd] at cd
            clear hok hd e1 e2
            go_wp2
            go_quiet ((go_at_call 69; exact Calls.quiet_of_same (cd _)))
            go_wp2
            go_roundw
            case rel =>
              refine ⟨k + 1, by omega, by go_num, fun i hi => ?_, below_drewN hbel _⟩
              by_cases e : i = k
              · subst e; rw [hc, hf]; exact HO.out
              · exact HA.out i (by omega)
            case measure => simp [intOf]; omega
          | false =>
            rw [hd] at hok
            have HO : Hid (okB f c = false) := hok
            have cd := fun w => digit_any c w
            rw [hd] at cd
            clear hok hd e1 e2
            go_wp2
            go_quiet ((go_at_call 69; exact Calls.quiet_of_same (cd _)))
            go_wp2
            go_ret
            exact ⟨by rw [fitsL_no k hlt (by rw [hc, hf]; exact HO.out)]; rfl, below_drewN hbel _⟩
        · have n48 : ((f.toNat : Int) == 48) = false := by simp; omega
          rw [if_neg h48] at hok
          by_cases hfc : f.toNat = c.toNat
          · have HO : Hid (okB f c = true) := by rw [hok]; exact decide_eq_true hfc
            have m48 : ((c.toNat : Int) == 48) = false := by simp; omega
            have o48 : ((c.toNat : Int) != 48) = true := by simp; omega
            have o49 : ((c.toNat : Int) != (c.toNat : Int)) = false := by simp
            clear hok e1 e2 n48 h48
            go_wp2
            go_quiet (fail)
            go_wp2
            go_roundw
            case rel =>
              refine ⟨k + 1, by omega, by go_num, fun i hi => ?_, below_drewN hbel _⟩
              by_cases e : i = k
              · subst e; rw [hc, hf]; exact HO.out
              · exact HA.out i (by omega)
            case measure => simp [intOf]; omega
          · have HO : Hid (okB f c = false) := by rw [hok]; exact decide_eq_false hfc
            have o48 : ((f.toNat : Int) != 48) = true := by simp; omega
            have ifc : ((f.toNat : Int) != (c.toNat : Int)) = true := by simp; omega
            clear hok e1 e2
            go_wp2
            go_quiet (fail)
            go_wp2
            go_ret
            exact ⟨by rw [fitsL_no k hlt (by rw [hc, hf]; exact HO.out)]; rfl, below_drewN hbel _⟩
      · have HF : Hid (fitsL l m = true) := fitsL_yes hsh fun i hi => HA.out i (by omega)
        have hkl : k = m.length := by omega
        subst hkl
        go_wp2
        go_ret
        exact ⟨by rw [HF.out]; rfl, hbel⟩
  · have HF : Hid (fitsL l m = false) := fitsL_short hsh
    have hsh' : (l.length : Int) < (m.length : Int) := by omega
    go_enter Tryz.func66, Tryz.ntmps66
    go_wp2
    go_ret
    exact ⟨by rw [HF.out]; rfl, Below.refl _ _⟩
end Go.Proofs.YtllcpoibnmhghaaGreatDoor

/- What lex.wordLength and lex.number come to. -/
namespace Go.Proofs.YtllcpoibnmhghaaGreatDoor
open Go.RowKit Lx

/-- One token as the program hands it on. -/
def tokv (t : T1) : Value := .tuple #[.agg #[.int .i64 t.kind, .int .i64 t.n, .int .i64 0, .string ⟨t.text.toArray⟩], .int .i64 (t.len : Int), .int .i64 t.err]

theorem tokType : Tryz.prog.underlying 101 = some (.struct (Tryz.prog.fieldsOf 101)) := by kernel_rfl
theorem tok_post {fn : Func} (h : fn.results = Tryz.f70.results) {R : Ending → World → Prop} {a : Act} {w : World} (g : Nat) (t : T1) (hd : a.defers = []) (h2 : a.tmps.getD 2 undef = .pointer (some ⟨g, 0, none⟩))
    (h3 : a.tmps.getD 3 undef = .int .i64 (t.len : Int)) (h4 : a.tmps.getD 4 undef = .int .i64 t.err) (hg : w.heap[g]? = some (.cells #[.int .i64 t.kind, .int .i64 t.n, .int .i64 0, .string ⟨t.text.toArray⟩] 101 (0, 0)))
    (hR : R (.returned (tokv t)) w) : bodyPost Tryz.prog fn R .ret a w := by
  refine bodyPost_ret (v := tokv t) ?_ hd hR
  have h2' : a.tmps[2]?.getD undef = .pointer (some ⟨g, 0, none⟩) := by simpa using h2
  have h3' : a.tmps[3]?.getD undef = .int .i64 (t.len : Int) := by simpa using h3
  have h4' : a.tmps[4]?.getD undef = .int .i64 t.err := by simpa using h4
  have hv := run_loadVar_row (P := Tryz.prog) w g 101 101 _ _ _ hg tokType rfl (by kernel_rfl)
  simp [results, h, Tryz.results70, h2', h3', h4', asAddr, hv, tokv]

set_option maxRecDepth 10000 in
set_option maxHeartbeats 400000 in
theorem wordLen_any (s : ByteArray) (l : List UInt8) (hs : s.data.toList = l) (hl : l.length ≤ 9223372036854775806) (w : World) :
    Calls Tryz.prog 79 #[.string s] w fun e w' => e = .returned (.int .i64 (wordLen l : Int)) ∧ w' = w := by
  have hz : s.size = l.length := by rw [← hs, Lib.size_eq]
  go_enter Tryz.func79, Tryz.ntmps79
  go_wp2
  go_loop [3] (fun i => ∃ k : Nat, k ≤ l.length ∧ i = .int .i64 k ∧ ∀ i, i < k → pcAt l i = true) (fun i => l.length - (intOf i).toNat)
  case atStart => exact ⟨0, by omega, rfl, fun i h => by omega⟩
  case round =>
    obtain ⟨k, hk, rfl, hall⟩ := hrel
    have HA : Hid (∀ i, i < k → pcAt l i = true) := hall
    clear hall
    by_cases hlt : k < l.length
    · have hlt' : (k : Int) < (l.length : Int) := by omega
      have hk0 : (0 : Int) ≤ (k : Int) := by omega
      have g1 : ∀ h : k < s.size, s[k] = l.getD k 0 := fun h => byte_at hs k h
      have hp : pcAt l k = if k = 0 then isL (l.getD k 0) else isC (l.getD k 0) := by
        unfold pcAt; split
        · rename_i h; rw [h]
        · rfl
      generalize hc : l.getD k 0 = c at *
      have cl := fun w => letter_any c w
      have cd := fun w => digit_any c w
      have stop : pcAt l k = false → Hid (wordLen l = k) := fun h => wordLen_eq l k hk HA.out fun _ => h
      have next : pcAt l k = true → Hid (∀ i, i < k + 1 → pcAt l i = true) := fun h i hi => by
        by_cases e : i = k
        · rw [e]; exact h
        · exact HA.out i (by omega)
      cases hL : isL c with
      | true =>
        have hN := next (by rw [hp]; split <;> simp [hL, isC])
        rw [hL] at cl
        clear hp hL stop next HA
        go_wp2_with (first
          | (go_at_call 71; refine (cl _).mono ?_; rintro e w' ⟨rfl, rfl⟩)
          | (go_at_call 69; refine (cd _).mono ?_; rintro e w' ⟨rfl, rfl⟩))
        go_round
        case rel => exact ⟨k + 1, by omega, by go_num, hN.out⟩
        case measure => simp [intOf]; omega
      | false =>
        rw [hL] at cl
        by_cases h0 : k = 0
        · have hS := stop (by rw [hp, if_pos h0, hL])
          clear hp hL stop next HA hk0 hlt'
          subst h0
          have hlt0 : (0 : Int) < (l.length : Int) := by omega
          go_wp2_with (first
            | (go_at_call 71; refine (cl _).mono ?_; rintro e w' ⟨rfl, rfl⟩)
            | (go_at_call 69; refine (cd _).mono ?_; rintro e w' ⟨rfl, rfl⟩))
          go_ret
          exact ⟨by rw [hS.out]; rfl, rfl⟩
        · have h0' : (0 : Int) < (k : Int) := by omega
          cases hD : isD c with
          | true =>
            have hN := next (by rw [hp, if_neg h0]; simp [hD, isC])
            rw [hD] at cd
            clear hp hL hD stop next HA
            go_wp2_with (first
              | (go_at_call 71; refine (cl _).mono ?_; rintro e w' ⟨rfl, rfl⟩)
              | (go_at_call 69; refine (cd _).mono ?_; rintro e w' ⟨rfl, rfl⟩))
            go_round
            case rel => exact ⟨k + 1, by omega, by go_num, hN.out⟩
            case measure => simp [intOf]; omega
          | false =>
            rw [hD] at cd
            by_cases h95 : c.toNat = 95
            · have hN := next (by rw [hp, if_neg h0]; simp [isC, h95])
              have i95 : ((c.toNat : Int) == 95) = true := by simp; omega
              clear hp hL hD stop next HA h95
              go_wp2_with (first
                | (go_at_call 71; refine (cl _).mono ?_; rintro e w' ⟨rfl, rfl⟩)
                | (go_at_call 69; refine (cd _).mono ?_; rintro e w' ⟨rfl, rfl⟩))
              go_round
              case rel => exact ⟨k + 1, by omega, by go_num, hN.out⟩
              case measure => simp [intOf]; omega
            · have hS := stop (by rw [hp, if_neg h0]; simp [isC, h95, hL, hD])
              have i95 : ((c.toNat : Int) == 95) = false := by simp; omega
              clear hp hL hD stop next HA h95
              go_wp2_with (first
                | (go_at_call 71; refine (cl _).mono ?_; rintro e w' ⟨rfl, rfl⟩)
                | (go_at_call 69; refine (cd _).mono ?_; rintro e w' ⟨rfl, rfl⟩))
              go_ret
              exact ⟨by rw [hS.out]; rfl, rfl⟩
    · have hS : Hid (wordLen l = k) := wordLen_eq l k hk HA.out fun h => absurd h hlt
      have hlt' : ¬ (k : Int) < (l.length : Int) := by omega
      go_wp2
      go_ret
      exact ⟨by rw [hS.out]; rfl, rfl⟩

set_option maxRecDepth 10000 in
set_option maxHeartbeats 400000 in
theorem number_any (s : ByteArray) (l : List UInt8) (hs : s.data.toList = l) (hl : l.length ≤ 9223372036854775806) (w : World) :
    Calls Tryz.prog 70 #[.string s] w fun e w' => e = .returned (tokv (numT l)) ∧ Below w.heap.size w w' := by
  have hz : s.size = l.length := by rw [← hs, Lib.size_eq]
  have hb0 : Below w.heap.size w (w.alloc (.cells #[.int .i64 0, .int .i64 0, .int .i64 0, .string ⟨#[]⟩] 101)) := (Below.refl _ _).alloc (Nat.le_refl _) _
  go_enter Tryz.func70, Tryz.ntmps70
  go_wp2
  go_loop [5] (fun i => ∃ k : Nat, k ≤ l.length ∧ i = .int .i64 k ∧ ∀ i, i < k → isD (l.getD i 0) = true) (fun i => l.length - (intOf i).toNat)
  case atStart => exact ⟨0, by omega, rfl, fun i h => by omega⟩
  case round =>
    obtain ⟨k, hk, rfl, hall⟩ := hrel
    have HA : Hid (∀ i, i < k → isD (l.getD i 0) = true) := hall
    clear hall
    by_cases hgo : k < l.length ∧ isD (l.getD k 0) = true
    · obtain ⟨hlt, hD⟩ := hgo
      have hlt' : (k : Int) < (l.length : Int) := by omega
      have hk0 : (0 : Int) ≤ (k : Int) := by omega
      have g1 : ∀ h : k < s.size, s[k] = l.getD k 0 := fun h => byte_at hs k h
      have cd := fun w => digit_any (l.getD k 0) w
      rw [hD] at cd
      have HD : Hid (isD (l.getD k 0) = true) := hD
      clear hD
      generalize hc : l.getD k 0 = c at *
      go_wp2_with (go_at_call 69; refine (cd _).mono ?_; rintro e w' ⟨rfl, rfl⟩)
      go_round
      case rel =>
        refine ⟨k + 1, by omega, by go_num, fun i hi => ?_⟩
        by_cases e : i = k
        · rw [e, hc]; exact HD.out
        · exact HA.out i (by omega)
      case measure => simp [intOf]; omega
    · have hR : runOf isD l = k := runOf_eq isD l k hk HA.out fun h => by
        cases e : isD (l.getD k 0) with
        | false => rfl
        | true => exact absurd ⟨h, e⟩ hgo
      have HR : Hid (runOf isD l = k) := hR
      clear hR
      by_cases h6 : 6 < k
      · have h6' : (6 : Int) < (k : Int) := by omega
        have HT : Hid (numT l = bad 3) := by
          have := HR.out
          show numT l = bad 3
          unfold numT; rw [this, if_pos h6]
        by_cases hlt : k < l.length
        · have hlt' : (k : Int) < (l.length : Int) := by omega
          have hk0 : (0 : Int) ≤ (k : Int) := by omega
          have g1 : ∀ h : k < s.size, s[k] = l.getD k 0 := fun h => byte_at hs k h
          have hD : isD (l.getD k 0) = false := by
            cases e : isD (l.getD k 0) with
            | false => rfl
            | true => exact absurd ⟨hlt, e⟩ hgo
          have cd := fun w => digit_any (l.getD k 0) w
          rw [hD] at cd
          clear hD hgo
          generalize hc : l.getD k 0 = c at *
          go_wp2_with (go_at_call 69; refine (cd _).mono ?_; rintro e w' ⟨rfl, rfl⟩)
          exact tok_post rfl w.heap.size (bad 3) rfl rfl rfl rfl (heap_alloc_new w _) ⟨by rw [HT.out], hb0⟩
        · have hlt' : ¬ (k : Int) < (l.length : Int) := by omega
          clear hgo
          go_wp2
          exact tok_post rfl w.heap.size (bad 3) rfl rfl rfl rfl (heap_alloc_new w _) ⟨by rw [HT.out], hb0⟩
      · have h6' : ¬ (6 : Int) < (k : Int) := by omega
        have hle : (k : Int) ≤ (l.length : Int) := by omega
        have hk0 : (0 : Int) ≤ (k : Int) := by omega
        have HT : Hid (numT l = ⟨6, valL (l.take k), [], k, 0⟩) := by
          have := HR.out
          show numT l = _
          unfold numT; rw [this, if_neg h6]
        have cv := fun w => value_any (s.extract 0 k) (l.take k) (by rw [Lib.extract_data, hs]; simp) (by simp; omega) (fun i hi => by
          have hi' : i < k := by simp at hi; omega
          have := HA.out i hi'
          rw [List.getD_eq_getElem?_getD] at this ⊢
          rw [List.getElem?_take, if_pos hi']
          exact this) w
        generalize valL (l.take k) = v at *
        have hbx : Below w.heap.size w (w.alloc (.cells #[.int .i64 6, .int .i64 v, .int .i64 0, .string ⟨#[]⟩] 101)) := (Below.refl _ _).alloc (Nat.le_refl _) _
        by_cases hlt : k < l.length
        · have hlt' : (k : Int) < (l.length : Int) := by omega
          have g1 : ∀ h : k < s.size, s[k] = l.getD k 0 := fun h => byte_at hs k h
          have hD : isD (l.getD k 0) = false := by
            cases e : isD (l.getD k 0) with
            | false => rfl
            | true => exact absurd ⟨hlt, e⟩ hgo
          have cd := fun w => digit_any (l.getD k 0) w
          rw [hD] at cd
          clear hD hgo
          generalize hc : l.getD k 0 = c at *
          go_wp2_with (first
            | (go_at_call 69; refine (cd _).mono ?_; rintro e w' ⟨rfl, rfl⟩)
            | (go_at_call 84; refine (cv _).mono ?_; rintro e w' ⟨rfl, rfl⟩))
          exact tok_post rfl w.heap.size ⟨6, v, [], k, 0⟩ rfl rfl rfl rfl (heap_alloc_new w _) ⟨by rw [HT.out], hbx⟩
        · have hlt' : ¬ (k : Int) < (l.length : Int) := by omega
          clear hgo
          go_wp2_with (go_at_call 84; refine (cv _).mono ?_; rintro e w' ⟨rfl, rfl⟩)
          exact tok_post rfl w.heap.size ⟨6, v, [], k, 0⟩ rfl rfl rfl rfl (heap_alloc_new w _) ⟨by rw [HT.out], hbx⟩
end Go.Proofs.YtllcpoibnmhghaaGreatDoor

/- More plain facts about texts: signs and words. -/
namespace Lx

def signsL : List UInt8 := [61, 59, 58, 43, 45, 38, 40, 41, 44]
theorem index_lt : ∀ (l : List UInt8) (c : UInt8), Go.Lib.indexByte l c < (l.length : Int)
  | [], c => by simp [Go.Lib.indexByte]
  | b :: l, c => by
    have ih := index_lt l c
    unfold Go.Lib.indexByte
    simp only [List.length_cons]
    split
    · omega
    · split <;> omega
theorem index_at : ∀ (l : List UInt8) (c : UInt8) (i : Nat), Go.Lib.indexByte l c = (i : Int) → l.getD i 0 = c
  | [], c, i, h => by simp [Go.Lib.indexByte] at h
  | b :: l, c, i, h => by
    unfold Go.Lib.indexByte at h
    split at h
    · rename_i hb
      have : i = 0 := by omega
      subst this
      simpa using hb
    · split at h
      · omega
      · have ge := Go.Lib.indexByte_ge l c
        rename_i hn
        have hn' : Go.Lib.indexByte l c ≠ -1 := by simpa using hn
        obtain ⟨j, hj⟩ : ∃ j : Nat, Go.Lib.indexByte l c = j := ⟨(Go.Lib.indexByte l c).toNat, by omega⟩
        have e : i = j + 1 := by omega
        subst e
        simpa using index_at l c j hj
def signT (l : List UInt8) : T1 := if Go.Lib.hasPrefix l [46, 46] then ⟨3, 0, [46, 46], 2, 0⟩ else if Go.Lib.indexByte signsL (l.getD 0 0) < 0 then bad 2 else ⟨3, 0, [l.getD 0 0], 1, 0⟩
theorem ba_of {s : ByteArray} {l : List UInt8} (h : s.data.toList = l) : s = ⟨l.toArray⟩ := by
  obtain ⟨d⟩ := s
  simp only at h
  subst h
  simp
def wordsL : List (List UInt8) := [[97, 108, 119, 97, 121, 115], [100, 97, 116, 101, 115], [102, 114, 105], [109, 111, 110], [110, 101, 118, 101, 114], [114, 117, 108, 101], [115, 97, 116], [115, 104, 105, 102, 116], [115, 117, 110], [116, 104, 117], [116, 117, 101], [119, 101, 100], [119, 101, 101, 107, 108, 121]]
def isWordL (t : List UInt8) : Bool := wordsL.any fun w => w == t
def wordT (l : List UInt8) : T1 := if 20 < wordLen l then bad 7 else ⟨if isWordL (l.take (wordLen l)) then 2 else 1, 0, l.take (wordLen l), wordLen l, 0⟩
end Lx

/- What lex.Words and lex.isWord come to. -/
namespace Go.Proofs.YtllcpoibnmhghaaGreatDoor
open Go.RowKit Lx

/-- The words of the language, as they lie in memory. -/
def wordCells : Array Value := (wordsL.map fun l => Value.string ⟨l.toArray⟩).toArray
theorem wordCell (j : Nat) (hj : j < 13) : wordCells[j]? = some (.string ⟨(wordsL.getD j []).toArray⟩) := by
  have h : j < wordsL.length := hj
  unfold wordCells
  simp only [List.getElem?_toArray, List.getElem?_map, List.getD_eq_getElem?_getD, List.getElem?_eq_getElem h]
  rfl
set_option maxRecDepth 10000 in
set_option maxHeartbeats 400000 in
theorem words_any (w : World) : Calls Tryz.prog 91 #[] w fun e w' => e = .returned (.slice (some ⟨w.heap.size, 0, none⟩) 13 13) ∧ w' = w.alloc (.cells wordCells 9) := by
  go_enter Tryz.func91, Tryz.ntmps91
  go_wp2
  go_ret
  exact ⟨rfl, rfl⟩

theorem isWord_no {x : List UInt8} (h : ∀ j, j < 13 → wordsL.getD j [] ≠ x) : isWordL x = false := by
  cases e : isWordL x with
  | false => rfl
  | true =>
    unfold isWordL at e
    rw [List.any_eq_true] at e
    obtain ⟨y, hy, hx⟩ := e
    obtain ⟨j, hj, rfl⟩ := List.getElem_of_mem hy
    have hj' : j < 13 := hj
    exact absurd (by simpa [List.getD, hj] using hx) (h j hj')
theorem isWord_yes {x : List UInt8} (j : Nat) (hj : j < 13) (h : wordsL.getD j [] = x) : isWordL x = true := by
  unfold isWordL
  rw [List.any_eq_true]
  have hj' : j < wordsL.length := hj
  exact ⟨wordsL.getD j [], by simp [List.getD, hj'], by rw [h]; exact beq_self_eq_true x⟩

set_option maxRecDepth 10000 in
set_option maxHeartbeats 400000 in
theorem find_any (x : ByteArray) (l : List UInt8) (hx : x.data.toList = l) (g : Nat) (w : World) (hg : w.heap[g]? = some (.cells wordCells 9 (0, 0))) :
    Calls Tryz.prog 102 #[.slice (some ⟨g, 0, none⟩) 13 13, .string x] w fun e w' => (∃ i : Int, e = .returned (.int .i64 i) ∧ decide (0 ≤ i) = isWordL l) ∧ w' = w := by
  have hcell : ∀ j, j < 13 → w.cell? ⟨g, j, none⟩ = some (.string ⟨(wordsL.getD j []).toArray⟩) := fun j hj => by rw [cell_of_row _ _ _ _ _ _ hg, wordCell j hj]
  have HC : Hid (∀ j, j < 13 → w.cell? ⟨g, j, none⟩ = some (.string ⟨(wordsL.getD j []).toArray⟩)) := hcell
  clear hcell hg
  go_enter Tryz.func102, Tryz.ntmps102
  go_wp2
  go_loop [8] (fun i => ∃ k : Nat, k ≤ 13 ∧ i = .int .i64 k ∧ ∀ j, j < k → wordsL.getD j [] ≠ l) (fun i => 13 - (intOf i).toNat)
  case atStart => exact ⟨0, by omega, rfl, fun i h => by omega⟩
  case round =>
    obtain ⟨k, hk, rfl, hall⟩ := hrel
    have HA : Hid (∀ j, j < k → wordsL.getD j [] ≠ l) := hall
    clear hall
    by_cases hlt : k < 13
    · have hlt' : (k : Int) < 13 := by omega
      have hk0 : (0 : Int) ≤ (k : Int) := by omega
      have ck := HC.out k hlt
      generalize hy : (⟨(wordsL.getD k []).toArray⟩ : ByteArray) = y at ck
      have hyl : y.data.toList = wordsL.getD k [] := by rw [← hy]
      by_cases he : wordsL.getD k [] = l
      · have hq : (x.toList == y.toList) = true := by rw [Lib.toList_data, Lib.toList_data, hyl, hx, he]; simp
        have hW : Hid (isWordL l = true) := isWord_yes k hlt he
        clear he hyl hy
        go_wp2
        go_ret
        exact ⟨⟨_, rfl, by rw [hW.out]; simp⟩, rfl⟩
      · have hq : (x.toList == y.toList) = false := by
          rw [Lib.toList_data, Lib.toList_data, hyl, hx]
          rw [beq_eq_false_iff_ne]
          exact fun e => he e.symm
        have HE : Hid (wordsL.getD k [] ≠ l) := he
        clear he hyl hy
        go_wp2
        go_round
        case rel =>
          refine ⟨k + 1, by omega, by go_num, fun j hj => ?_⟩
          by_cases e : j = k
          · subst e; exact HE.out
          · exact HA.out j (by omega)
        case measure => simp [intOf]; omega
    · have hkl : k = 13 := by omega
      subst hkl
      have hW : Hid (isWordL l = false) := isWord_no HA.out
      go_wp2
      go_ret
      exact ⟨⟨_, rfl, by rw [hW.out]; simp⟩, rfl⟩

set_option maxRecDepth 10000 in
set_option maxHeartbeats 400000 in
theorem isWord_any (x : ByteArray) (l : List UInt8) (hx : x.data.toList = l) (w : World) :
    Calls Tryz.prog 80 #[.string x] w fun e w' => e = .returned (.bool (isWordL l)) ∧ Below w.heap.size w w' := by
  have hg : (w.alloc (.cells wordCells 9)).heap[w.heap.size]? = some (.cells wordCells 9 (0, 0)) := heap_alloc_new w _
  have hb : Below w.heap.size w (w.alloc (.cells wordCells 9)) := (Below.refl _ _).alloc (Nat.le_refl _) _
  have cf := find_any x l hx _ _ hg
  have cw := words_any w
  generalize w.alloc (.cells wordCells 9) = w1 at *
  go_enter Tryz.func80, Tryz.ntmps80
  go_wp2_with (first
    | (go_at_call 91; refine cw.mono ?_; rintro e w' ⟨rfl, rfl⟩)
    | (go_at_call 90; go_in)
    | (go_at_call 102; refine cf.mono ?_; rintro e w' ⟨⟨i, rfl, hi⟩, rfl⟩))
  go_ret
  exact ⟨by rw [← hi]; rfl, hb⟩
end Go.Proofs.YtllcpoibnmhghaaGreatDoor

/- What strings.Clone and lex.word come to. -/
namespace Go.Proofs.YtllcpoibnmhghaaGreatDoor
open Go.RowKit Lx

theorem byteInfo : (Tryz.prog.info? 5).map (fun i => (i.zero, i.size, i.bytes)) = some (some (.int .u8 0), 1, 1) := by kernel_rfl
theorem bytesType : Tryz.prog.underlying 132 = some (.slice 5) := by kernel_rfl
theorem pbyteType : Tryz.prog.underlying 133 = some (.pointer 5) := by kernel_rfl
set_option maxHeartbeats 1000000 in
set_option maxRecDepth 100000 in
theorem cloneL_any (s : ByteArray) (w : World) (hlim : s.size ≤ 1000000) :
    Calls Tryz.prog 98 #[.string s] w fun e w' => e = .returned (.string s) ∧ Below w.heap.size w w' := by
  by_cases h0 : s.size = 0
  · have hs : s = ⟨#[]⟩ := by
      apply ByteArray.ext
      exact Array.eq_empty_of_size_eq_zero h0
    subst hs
    go_enter Tryz.func98, Tryz.ntmps98
    go_wp2
    go_ret
    exact ⟨rfl, Below.refl _ _⟩
  · obtain ⟨i0, hi, hz0, hz1, hz2⟩ := info_parts byteInfo
    have hinfo : (Tryz.prog.info? 5).map (·.size) = some 1 := by rw [hi]; simp [hz1]
    have hco : Tryz.prog.cellsOf 5 = 1 := by kernel_rfl
    obtain ⟨M, hM⟩ : ∃ M, M = madeCells (Value.int .u8 0).cells (((s.size : Nat) : Int).toNat * i0.size) := ⟨_, rfl⟩
    have hMs : M.size = s.size := by rw [hM, size_madeCells, hz1]; simp
    have hmk : ∀ W : World, (Instr.makeSlice 132 (.int .i64 (s.size : Int)) (.int .i64 (s.size : Int))).run Tryz.prog W = .ok (.slice (some ⟨W.heap.size, 0, none⟩) s.size s.size) (W.alloc (.cells M 5)) := fun W => by
      have h := run_make (P := Tryz.prog) W 132 5 i0 (.int .u8 0) bytesType hi hz0 .i64 .i64 (s.size : Int) (s.size : Int) (by omega) (by omega) (by rw [hz2]; omega) (by omega)
      rw [← hM] at h
      simpa using h
    clear hM
    have hcp := Lib.run_copy_row_string (P := Tryz.prog) (w.alloc (.cells M 5)) 132 9 3 5 w.heap.size 0 s.size s.size s M 5 bytesType hinfo (heap_alloc_new w _) (Nat.le_refl _) (by omega)
    obtain ⟨Y, hY⟩ : ∃ Y, Y = (M.toList.take 0 ++ Lib.byteCells s.data.toList ++ M.toList.drop (0 + s.size)).toArray := ⟨_, rfl⟩
    rw [← hY] at hcp
    have hYl : Y.toList = Lib.byteCells s.data.toList := by
      rw [hY, List.toList_toArray, List.take_zero, List.nil_append, List.drop_of_length_le (by rw [Array.length_toList]; omega), List.append_nil]
    have hYs : Y.size = s.size := by rw [← Array.length_toList, hYl, Lib.byteCells_length, ← Lib.size_eq]
    have hgY : ((w.alloc (.cells M 5)).setRow w.heap.size Y).heap[w.heap.size]? = some (.cells Y 5 (0, 0)) := setRow_heap _ _ M _ 5 (0, 0) (heap_alloc_new w _)
    have hne : s.data.toList ≠ [] := fun e => h0 (by rw [Lib.size_eq, e]; rfl)
    have hUS := Lib.run_unsafeString_row (P := Tryz.prog) ((w.alloc (.cells M 5)).setRow w.heap.size Y) 133 3 9 5 pbyteType hco w.heap.size Y.size (by unfold World.shape?; rw [hgY]) s.data.toList hne (by rw [← Lib.size_eq]; omega) (by rw [← Lib.size_eq]; omega)
      (fun j x hx => Lib.cells_of_row hgY Y.size j _ (by rw [List.take_of_length_le (by rw [Array.length_toList]; exact Nat.le_refl _), hYl]; simp [Lib.byteCells, hx]))
    rw [← Lib.size_eq] at hUS
    clear hY
    go_enter Tryz.func98, Tryz.ntmps98
    go_wp2
    go_ret
    have hb1 : Below w.heap.size w (w.alloc (.cells M 5)) := (Below.refl _ w).alloc (Nat.le_refl _) _
    have hb2 : Below w.heap.size (w.alloc (.cells M 5)) ((w.alloc (.cells M 5)).setRow w.heap.size Y) := ⟨rfl, rfl, rfl, by simp, fun k hk => setRow_other _ _ _ _ (by omega)⟩
    exact ⟨rfl, Lib.below_freeze (hb1.trans hb2) (p := ⟨w.heap.size, 0, none⟩) (Nat.le_refl _) _⟩
set_option maxHeartbeats 400000 in
theorem clone_any (s : ByteArray) (w : World) (hlim : s.size ≤ 1000000) :
    Calls Tryz.prog 85 #[.string s] w fun e w' => e = .returned (.string s) ∧ Below w.heap.size w w' := by
  go_enter Tryz.func85, Tryz.ntmps85
  go_wp2_with (go_at_call 98; refine (cloneL_any s _ hlim).mono ?_; rintro e w' ⟨rfl, hb⟩)
  go_ret
  exact ⟨rfl, hb⟩
end Go.Proofs.YtllcpoibnmhghaaGreatDoor

/- What lex.word comes to. -/
namespace Go.Proofs.YtllcpoibnmhghaaGreatDoor
open Go.RowKit Lx

theorem cells_eq {w : World} {g : Nat} {c c' : Array Value} {t : TypeId} (hg : w.heap[g]? = some (.cells c t (0, 0))) (e : c = c') : w.heap[g]? = some (.cells c' t (0, 0)) := by rw [hg, e]
set_option maxRecDepth 10000 in
set_option maxHeartbeats 400000 in
theorem word_any (s : ByteArray) (l : List UInt8) (hs : s.data.toList = l) (hl : l.length ≤ 9223372036854775806) (w : World) :
    Calls Tryz.prog 72 #[.string s] w fun e w' => e = .returned (tokv (wordT l)) ∧ Below w.heap.size w w' := by
  have hz : s.size = l.length := by rw [← hs, Lib.size_eq]
  have cl := fun w => wordLen_any s l hs hl w
  have hk := wordLen_le l
  have hb0 : Below w.heap.size w (w.alloc (.cells #[.int .i64 0, .int .i64 0, .int .i64 0, .string ⟨#[]⟩] 101)) := (Below.refl _ _).alloc (Nat.le_refl _) _
  have h0 : (w.alloc (.cells #[.int .i64 0, .int .i64 0, .int .i64 0, .string ⟨#[]⟩] 101)).heap[w.heap.size]? = some (.cells #[.int .i64 0, .int .i64 0, .int .i64 0, .string ⟨#[]⟩] 101 (0, 0)) := heap_alloc_new w _
  have hT : wordT l = if 20 < wordLen l then bad 7 else ⟨if isWordL (l.take (wordLen l)) then 2 else 1, 0, l.take (wordLen l), wordLen l, 0⟩ := rfl
  generalize wordLen l = k at *
  by_cases h20 : 20 < k
  · have HT : Hid (wordT l = bad 7) := by
      show wordT l = _
      rw [hT, if_pos h20]
    have i20 : (20 : Int) < (k : Int) := by omega
    clear hT h0
    go_enter Tryz.func72, Tryz.ntmps72
    go_wp2_with (go_at_call 79; refine (cl _).mono ?_; rintro e w' ⟨rfl, rfl⟩)
    exact tok_post (by rw [Tryz.results72, Tryz.results70]) w.heap.size (bad 7) rfl rfl rfl rfl (heap_alloc_new w _) ⟨by rw [HT.out], hb0⟩
  · rw [if_neg h20] at hT
    have i20 : ¬ (20 : Int) < (k : Int) := by omega
    have i0 : (0 : Int) ≤ (k : Int) := by omega
    have i1 : (k : Int) ≤ (l.length : Int) := by omega
    have hx : (s.extract 0 k).data.toList = l.take k := by rw [Lib.extract_data, hs]; simp
    have hxs : (s.extract 0 k).size ≤ 1000000 := by rw [Lib.size_eq, hx]; simp; omega
    have cc := fun w => clone_any (s.extract 0 k) w hxs
    have cw := fun w => isWord_any (s.extract 0 k) (l.take k) hx w
    have hba := ba_of hx
    cases hW : isWordL (l.take k) with
    | true =>
      rw [hW] at cw
      have HT : Hid (wordT l = ⟨2, 0, l.take k, k, 0⟩) := by
        show wordT l = _
        rw [hT, hW]; rfl
      have HX : Hid (s.extract 0 k = ⟨(l.take k).toArray⟩) := hba
      clear hT hW hba hx
      go_enter Tryz.func72, Tryz.ntmps72
      go_wp2_with (first
        | (go_at_call 79; refine (cl _).mono ?_; rintro e w' ⟨rfl, rfl⟩)
        | (go_at_call 85; refine (cc _).mono ?_; rintro e w1 ⟨rfl, hb1⟩; have h1 := (hb1.block _ (lt_of_block h0)).trans h0; have hbw1 := hb0.trans (hb1.mono hb0.size); clear hb1 h0 hb0)
        | (go_at_call 80; refine (cw _).mono ?_; rintro e w2 ⟨rfl, hb2⟩; have h2 := (hb2.block _ (lt_of_block h1)).trans h1; have hbw2 := hbw1.trans (hb2.mono hbw1.size); clear hb2 h1 hbw1)
        | (refine wpList_store_row rfl 101 _ _ rfl _ _ rfl rfl _ _ h2 (by kernel_rfl) (by simp) (by simp [Value.oneCell']) ?_))
      exact tok_post (by rw [Tryz.results72, Tryz.results70]) w.heap.size ⟨2, 0, l.take k, k, 0⟩ rfl rfl rfl rfl (cells_eq (setRow_heap _ _ _ _ _ _ h2) (by rw [HX.out])) ⟨by rw [HT.out], below_setRow hbw2 (Nat.le_refl _) _⟩
    | false =>
      rw [hW] at cw
      have HT : Hid (wordT l = ⟨1, 0, l.take k, k, 0⟩) := by
        show wordT l = _
        rw [hT, hW]; rfl
      have HX : Hid (s.extract 0 k = ⟨(l.take k).toArray⟩) := hba
      clear hT hW hba hx
      go_enter Tryz.func72, Tryz.ntmps72
      go_wp2_with (first
        | (go_at_call 79; refine (cl _).mono ?_; rintro e w' ⟨rfl, rfl⟩)
        | (go_at_call 85; refine (cc _).mono ?_; rintro e w1 ⟨rfl, hb1⟩; have h1 := (hb1.block _ (lt_of_block h0)).trans h0; have hbw1 := hb0.trans (hb1.mono hb0.size); clear hb1 h0 hb0)
        | (go_at_call 80; refine (cw _).mono ?_; rintro e w2 ⟨rfl, hb2⟩; have h2 := (hb2.block _ (lt_of_block h1)).trans h1; have hbw2 := hbw1.trans (hb2.mono hbw1.size); clear hb2 h1 hbw1)
        | (refine wpList_store_row rfl 101 _ _ rfl _ _ rfl rfl _ _ h2 (by kernel_rfl) (by simp) (by simp [Value.oneCell']) ?_))
      exact tok_post (by rw [Tryz.results72, Tryz.results70]) w.heap.size ⟨1, 0, l.take k, k, 0⟩ rfl rfl rfl rfl (cells_eq (setRow_heap _ _ _ _ _ _ h2) (by rw [HX.out])) ⟨by rw [HT.out], below_setRow hbw2 (Nat.le_refl _) _⟩
end Go.Proofs.YtllcpoibnmhghaaGreatDoor
