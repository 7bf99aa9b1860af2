/- What lex.wordLength and lex.number come to. -/
import Derived.Test.YtkineofpclneaabDoorLexB
import Derived.Laws.Rows
namespace Go.Proofs.YtkineofpclneaabDoor
open Go.RowKit Lx

/-- One token as the program hands it on. -/
def tokv (t : T1) : Value := .tuple #[.agg #[.int .i64 t.kind, .int .i64 t.n, .int .i64 0, .string ⟨t.text.toArray⟩], .int .i64 (t.len : Int), .int .i64 t.err]

theorem tokType : Tryd.prog.underlying 54 = some (.struct (Tryd.prog.fieldsOf 54)) := by kernel_rfl
theorem tok_post {fn : Func} (h : fn.results = Tryd.f56.results) {R : Ending → World → Prop} {a : Act} {w : World} (g : Nat) (t : T1) (hd : a.defers = []) (h2 : a.tmps.getD 2 undef = .pointer (some ⟨g, 0, none⟩))
    (h3 : a.tmps.getD 3 undef = .int .i64 (t.len : Int)) (h4 : a.tmps.getD 4 undef = .int .i64 t.err) (hg : w.heap[g]? = some (.cells #[.int .i64 t.kind, .int .i64 t.n, .int .i64 0, .string ⟨t.text.toArray⟩] 54 (0, 0)))
    (hR : R (.returned (tokv t)) w) : bodyPost Tryd.prog fn R .ret a w := by
  refine bodyPost_ret (v := tokv t) ?_ hd hR
  have h2' : a.tmps[2]?.getD undef = .pointer (some ⟨g, 0, none⟩) := by simpa using h2
  have h3' : a.tmps[3]?.getD undef = .int .i64 (t.len : Int) := by simpa using h3
  have h4' : a.tmps[4]?.getD undef = .int .i64 t.err := by simpa using h4
  have hv := run_loadVar_row (P := Tryd.prog) w g 54 54 _ _ _ hg tokType rfl (by kernel_rfl)
  simp [results, h, Tryd.results56, h2', h3', h4', asAddr, hv, tokv]

set_option maxRecDepth 10000 in
set_option maxHeartbeats 400000 in
theorem wordLen_any (s : ByteArray) (l : List UInt8) (hs : s.data.toList = l) (hl : l.length ≤ 9223372036854775806) (w : World) :
    Calls Tryd.prog 44 #[.string s] w fun e w' => e = .returned (.int .i64 (wordLen l : Int)) ∧ w' = w := by
  have hz : s.size = l.length := by rw [← hs, Lib.size_eq]
  go_enter Tryd.func44, Tryd.ntmps44
  go_wp2
  go_loop [3] (fun i => ∃ k : Nat, k ≤ l.length ∧ i = .int .i64 k ∧ ∀ i, i < k → pcAt l i = true) (fun i => l.length - (intOf i).toNat)
  case atStart => exact ⟨0, by omega, rfl, fun i h => by omega⟩
  case round =>
    obtain ⟨k, hk, rfl, hall⟩ := hrel
    have HA : Hid (∀ i, i < k → pcAt l i = true) := hall
    clear hall
    by_cases hlt : k < l.length
    · have hlt' : (k : Int) < (l.length : Int) := by omega
      have hk0 : (0 : Int) ≤ (k : Int) := by omega
      have g1 : ∀ h : k < s.size, s[k] = l.getD k 0 := fun h => byte_at hs k h
      have hp : pcAt l k = if k = 0 then isL (l.getD k 0) else isC (l.getD k 0) := by
        unfold pcAt; split
        · rename_i h; rw [h]
        · rfl
      generalize hc : l.getD k 0 = c at *
      have cl := fun w => letter_any c w
      have cd := fun w => digit_any c w
      have stop : pcAt l k = false → Hid (wordLen l = k) := fun h => wordLen_eq l k hk HA.out fun _ => h
      have next : pcAt l k = true → Hid (∀ i, i < k + 1 → pcAt l i = true) := fun h i hi => by
        by_cases e : i = k
        · rw [e]; exact h
        · exact HA.out i (by omega)
      cases hL : isL c with
      | true =>
        have hN := next (by rw [hp]; split <;> simp [hL, isC])
        rw [hL] at cl
        clear hp hL stop next HA
        go_wp2_with (first
          | (go_at_call 57; refine (cl _).mono ?_; rintro e w' ⟨rfl, rfl⟩)
          | (go_at_call 55; refine (cd _).mono ?_; rintro e w' ⟨rfl, rfl⟩))
        go_round
        case rel => exact ⟨k + 1, by omega, by go_num, hN.out⟩
        case measure => simp [intOf]; omega
      | false =>
        rw [hL] at cl
        by_cases h0 : k = 0
        · have hS := stop (by rw [hp, if_pos h0, hL])
          clear hp hL stop next HA hk0 hlt'
          subst h0
          have hlt0 : (0 : Int) < (l.length : Int) := by omega
          go_wp2_with (first
            | (go_at_call 57; refine (cl _).mono ?_; rintro e w' ⟨rfl, rfl⟩)
            | (go_at_call 55; refine (cd _).mono ?_; rintro e w' ⟨rfl, rfl⟩))
          go_ret
          exact ⟨by rw [hS.out]; rfl, rfl⟩
        · have h0' : (0 : Int) < (k : Int) := by omega
          cases hD : isD c with
          | true =>
            have hN := next (by rw [hp, if_neg h0]; simp [hD, isC])
            rw [hD] at cd
            clear hp hL hD stop next HA
            go_wp2_with (first
              | (go_at_call 57; refine (cl _).mono ?_; rintro e w' ⟨rfl, rfl⟩)
              | (go_at_call 55; refine (cd _).mono ?_; rintro e w' ⟨rfl, rfl⟩))
            go_round
            case rel => exact ⟨k + 1, by omega, by go_num, hN.out⟩
            case measure => simp [intOf]; omega
          | false =>
            rw [hD] at cd
            by_cases h95 : c.toNat = 95
            · have hN := next (by rw [hp, if_neg h0]; simp [isC, h95])
              have i95 : ((c.toNat : Int) == 95) = true := by simp; omega
              clear hp hL hD stop next HA h95
              go_wp2_with (first
                | (go_at_call 57; refine (cl _).mono ?_; rintro e w' ⟨rfl, rfl⟩)
                | (go_at_call 55; refine (cd _).mono ?_; rintro e w' ⟨rfl, rfl⟩))
              go_round
              case rel => exact ⟨k + 1, by omega, by go_num, hN.out⟩
              case measure => simp [intOf]; omega
            · have hS := stop (by rw [hp, if_neg h0]; simp [isC, h95, hL, hD])
              have i95 : ((c.toNat : Int) == 95) = false := by simp; omega
              clear hp hL hD stop next HA h95
              go_wp2_with (first
                | (go_at_call 57; refine (cl _).mono ?_; rintro e w' ⟨rfl, rfl⟩)
                | (go_at_call 55; refine (cd _).mono ?_; rintro e w' ⟨rfl, rfl⟩))
              go_ret
              exact ⟨by rw [hS.out]; rfl, rfl⟩
    · have hS : Hid (wordLen l = k) := wordLen_eq l k hk HA.out fun h => absurd h hlt
      have hlt' : ¬ (k : Int) < (l.length : Int) := by omega
      go_wp2
      go_ret
      exact ⟨by rw [hS.out]; rfl, rfl⟩

set_option maxRecDepth 10000 in
set_option maxHeartbeats 400000 in
theorem number_any (s : ByteArray) (l : List UInt8) (hs : s.data.toList = l) (hl : l.length ≤ 9223372036854775806) (w : World) :
    Calls Tryd.prog 56 #[.string s] w fun e w' => e = .returned (tokv (numT l)) ∧ Below w.heap.size w w' := by
  have hz : s.size = l.length := by rw [← hs, Lib.size_eq]
  have hb0 : Below w.heap.size w (w.alloc (.cells #[.int .i64 0, .int .i64 0, .int .i64 0, .string ⟨#[]⟩] 54)) := (Below.refl _ _).alloc (Nat.le_refl _) _
  go_enter Tryd.func56, Tryd.ntmps56
  go_wp2
  go_loop [5] (fun i => ∃ k : Nat, k ≤ l.length ∧ i = .int .i64 k ∧ ∀ i, i < k → isD (l.getD i 0) = true) (fun i => l.length - (intOf i).toNat)
  case atStart => exact ⟨0, by omega, rfl, fun i h => by omega⟩
  case round =>
    obtain ⟨k, hk, rfl, hall⟩ := hrel
    have HA : Hid (∀ i, i < k → isD (l.getD i 0) = true) := hall
    clear hall
    by_cases hgo : k < l.length ∧ isD (l.getD k 0) = true
    · obtain ⟨hlt, hD⟩ := hgo
      have hlt' : (k : Int) < (l.length : Int) := by omega
      have hk0 : (0 : Int) ≤ (k : Int) := by omega
      have g1 : ∀ h : k < s.size, s[k] = l.getD k 0 := fun h => byte_at hs k h
      have cd := fun w => digit_any (l.getD k 0) w
      rw [hD] at cd
      have HD : Hid (isD (l.getD k 0) = true) := hD
      clear hD
      generalize hc : l.getD k 0 = c at *
      go_wp2_with (go_at_call 55; refine (cd _).mono ?_; rintro e w' ⟨rfl, rfl⟩)
      go_round
      case rel =>
        refine ⟨k + 1, by omega, by go_num, fun i hi => ?_⟩
        by_cases e : i = k
        · rw [e, hc]; exact HD.out
        · exact HA.out i (by omega)
      case measure => simp [intOf]; omega
    · have hR : runOf isD l = k := runOf_eq isD l k hk HA.out fun h => by
        cases e : isD (l.getD k 0) with
        | false => rfl
        | true => exact absurd ⟨h, e⟩ hgo
      have HR : Hid (runOf isD l = k) := hR
      clear hR
      by_cases h6 : 6 < k
      · have h6' : (6 : Int) < (k : Int) := by omega
        have HT : Hid (numT l = bad 3) := by
          have := HR.out
          show numT l = bad 3
          unfold numT; rw [this, if_pos h6]
        by_cases hlt : k < l.length
        · have hlt' : (k : Int) < (l.length : Int) := by omega
          have hk0 : (0 : Int) ≤ (k : Int) := by omega
          have g1 : ∀ h : k < s.size, s[k] = l.getD k 0 := fun h => byte_at hs k h
          have hD : isD (l.getD k 0) = false := by
            cases e : isD (l.getD k 0) with
            | false => rfl
            | true => exact absurd ⟨hlt, e⟩ hgo
          have cd := fun w => digit_any (l.getD k 0) w
          rw [hD] at cd
          clear hD hgo
          generalize hc : l.getD k 0 = c at *
          go_wp2_with (go_at_call 55; refine (cd _).mono ?_; rintro e w' ⟨rfl, rfl⟩)
          exact tok_post rfl w.heap.size (bad 3) rfl rfl rfl rfl (heap_alloc_new w _) ⟨by rw [HT.out], hb0⟩
        · have hlt' : ¬ (k : Int) < (l.length : Int) := by omega
          clear hgo
          go_wp2
          exact tok_post rfl w.heap.size (bad 3) rfl rfl rfl rfl (heap_alloc_new w _) ⟨by rw [HT.out], hb0⟩
      · have h6' : ¬ (6 : Int) < (k : Int) := by omega
        have hle : (k : Int) ≤ (l.length : Int) := by omega
        have hk0 : (0 : Int) ≤ (k : Int) := by omega
        have HT : Hid (numT l = ⟨6, valL (l.take k), [], k, 0⟩) := by
          have := HR.out
          show numT l = _
          unfold numT; rw [this, if_neg h6]
        have cv := fun w => value_any (s.extract 0 k) (l.take k) (by rw [Lib.extract_data, hs]; simp) (by simp; omega) (fun i hi => by
          have hi' : i < k := by simp at hi; omega
          have := HA.out i hi'
          rw [List.getD_eq_getElem?_getD] at this ⊢
          rw [List.getElem?_take, if_pos hi']
          exact this) w
        generalize valL (l.take k) = v at *
        have hbx : Below w.heap.size w (w.alloc (.cells #[.int .i64 6, .int .i64 v, .int .i64 0, .string ⟨#[]⟩] 54)) := (Below.refl _ _).alloc (Nat.le_refl _) _
        by_cases hlt : k < l.length
        · have hlt' : (k : Int) < (l.length : Int) := by omega
          have g1 : ∀ h : k < s.size, s[k] = l.getD k 0 := fun h => byte_at hs k h
          have hD : isD (l.getD k 0) = false := by
            cases e : isD (l.getD k 0) with
            | false => rfl
            | true => exact absurd ⟨hlt, e⟩ hgo
          have cd := fun w => digit_any (l.getD k 0) w
          rw [hD] at cd
          clear hD hgo
          generalize hc : l.getD k 0 = c at *
          go_wp2_with (first
            | (go_at_call 55; refine (cd _).mono ?_; rintro e w' ⟨rfl, rfl⟩)
            | (go_at_call 67; refine (cv _).mono ?_; rintro e w' ⟨rfl, rfl⟩))
          exact tok_post rfl w.heap.size ⟨6, v, [], k, 0⟩ rfl rfl rfl rfl (heap_alloc_new w _) ⟨by rw [HT.out], hbx⟩
        · have hlt' : ¬ (k : Int) < (l.length : Int) := by omega
          clear hgo
          go_wp2_with (go_at_call 67; refine (cv _).mono ?_; rintro e w' ⟨rfl, rfl⟩)
          exact tok_post rfl w.heap.size ⟨6, v, [], k, 0⟩ rfl rfl rfl rfl (heap_alloc_new w _) ⟨by rw [HT.out], hbx⟩
end Go.Proofs.YtkineofpclneaabDoor
