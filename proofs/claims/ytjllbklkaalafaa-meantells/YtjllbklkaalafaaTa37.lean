/- What slotref3.Named comes to. -/
import Derived.Test.YtjllbklkaalafaaTa36
import Derived.Test.YtjllbklkaalafaaTa09
namespace Go.Proofs.Ytjllbklkaalafaa
open Go.RowKit Lx

theorem wordLen_all : ∀ {l : List UInt8}, wordLen l = l.length → ∀ i, i < l.length → pcAt l i = true
  | [], _, i, h => by simp at h
  | c :: l, h, i, hi => by
    by_cases hc : isL c = true
    · simp only [wordLen, hc, if_true, List.length_cons] at h
      have hr : runOf isC l = l.length := by omega
      cases i with
      | zero => simpa [pcAt] using hc
      | succ i =>
        have hi' : i < l.length := by simpa using hi
        have := runOf_all isC l i (by omega)
        simpa [pcAt] using this
    · simp [wordLen, hc] at h

set_option maxRecDepth 10000 in
set_option maxHeartbeats 400000 in
theorem rnamed_any (s : ByteArray) (l : List UInt8) (hs : s.data.toList = l) (hl : l.length ≤ 9223372036854775806) (w : World) :
    Calls Try.prog 32 #[.string s] w fun e w' => e = .returned (.bool (namedL l)) ∧ Below w.heap.size w w' := by
  have hz : s.size = l.length := by rw [← hs, Lib.size_eq]
  have hcw := Lib.run_convert_string_bytes (P := Try.prog) w 9 78 5 s Try.underlying9 bytesT Try.underlying5
  have hbb := below_bytes w 5 s
  have HC : Hid (∀ j, j < l.length → (Lib.bytesWorld w 5 s).cell? ⟨w.heap.size, j, none⟩ = some (.int .u8 ((l.getD j 0).toNat : Int))) := fun j hj => by
    rw [Lib.bytesWorld_cell w 5 _ j (by omega), hs]
  rw [hz] at hcw
  generalize Lib.bytesWorld w 5 s = wB at *
  generalize grownCap w l.length 0 5 = cap at *
  go_enter Try.func32, Try.ntmps32
  go_wp2
  go_loop [8] (fun i => ∃ j : Nat, j ≤ l.length ∧ i = .int .i64 j ∧ ∀ i, i < j → pcAt l i = true) (fun i => l.length - (intOf i).toNat)
  case atStart => exact ⟨0, by omega, rfl, fun i h => by omega⟩
  case round =>
    obtain ⟨j, hj, rfl, hall⟩ := hrel
    have HA : Hid (∀ i, i < j → pcAt l i = true) := hall
    clear hall
    by_cases hlt : j < l.length
    · have hlt' : (j : Int) < (l.length : Int) := by omega
      have hj0 : (0 : Int) ≤ (j : Int) := by omega
      have cj := HC.out j hlt
      have hp : pcAt l j = if j = 0 then isL (l.getD j 0) else isC (l.getD j 0) := by
        unfold pcAt; split
        · rename_i h; rw [h]
        · rfl
      have cl := fun w => rlow_any (l.getD j 0) w
      have cd := fun w => rdigit_any (l.getD j 0) w
      generalize hc : l.getD j 0 = c at *
      have stop : pcAt l j = false → Hid (namedL l = false) := fun h => by
        show namedL l = false
        have : ¬ wordLen l = l.length := fun e => by rw [wordLen_all e j hlt] at h; cases h
        simp [namedL, this]
      have next : pcAt l j = true → Hid (∀ i, i < j + 1 → pcAt l i = true) := fun h i hi => by
        by_cases e : i = j
        · rw [e]; exact h
        · exact HA.out i (by omega)
      cases hL : isL c with
      | true =>
        have hN := next (by rw [hp]; split <;> simp [hL, isC])
        rw [hL] at cl
        clear hp hL stop next HA hcw
        go_wp2_with (first
          | (go_at_call 46; refine (cl _).mono ?_; rintro e w' ⟨rfl, rfl⟩)
          | (go_at_call 47; refine (cd _).mono ?_; rintro e w' ⟨rfl, rfl⟩))
        go_round
        case rel => exact ⟨j + 1, by omega, by go_num, hN.out⟩
        case measure => simp [intOf]; omega
      | false =>
        rw [hL] at cl
        by_cases h0 : j = 0
        · have hS := stop (by rw [hp, if_pos h0, hL])
          clear hp hL stop next HA hj0 hlt' hcw
          subst h0
          have hlt0 : (0 : Int) < (l.length : Int) := by omega
          go_wp2_with (first
            | (go_at_call 46; refine (cl _).mono ?_; rintro e w' ⟨rfl, rfl⟩)
            | (go_at_call 47; refine (cd _).mono ?_; rintro e w' ⟨rfl, rfl⟩))
          go_ret
          exact ⟨by rw [hS.out]; rfl, hbb⟩
        · have h0' : ((j : Int) == 0) = false := by simp; omega
          cases hD : isD c with
          | true =>
            have hN := next (by rw [hp, if_neg h0]; simp [hD, isC])
            rw [hD] at cd
            clear hp hL hD stop next HA hcw h0
            go_wp2_with (first
              | (go_at_call 46; refine (cl _).mono ?_; rintro e w' ⟨rfl, rfl⟩)
              | (go_at_call 47; refine (cd _).mono ?_; rintro e w' ⟨rfl, rfl⟩))
            go_round
            case rel => exact ⟨j + 1, by omega, by go_num, hN.out⟩
            case measure => simp [intOf]; omega
          | false =>
            rw [hD] at cd
            by_cases h95 : c.toNat = 95
            · have hN := next (by rw [hp, if_neg h0]; simp [isC, h95])
              have i95 : ((c.toNat : Int) != 95) = false := by simp; omega
              clear hp hL hD stop next HA h95 hcw h0
              go_wp2_with (first
                | (go_at_call 46; refine (cl _).mono ?_; rintro e w' ⟨rfl, rfl⟩)
                | (go_at_call 47; refine (cd _).mono ?_; rintro e w' ⟨rfl, rfl⟩))
              go_round
              case rel => exact ⟨j + 1, by omega, by go_num, hN.out⟩
              case measure => simp [intOf]; omega
            · have hS := stop (by rw [hp, if_neg h0]; simp [isC, h95, hL, hD])
              have i95 : ((c.toNat : Int) != 95) = true := by simp; omega
              clear hp hL hD stop next HA h95 hcw h0
              go_wp2_with (first
                | (go_at_call 46; refine (cl _).mono ?_; rintro e w' ⟨rfl, rfl⟩)
                | (go_at_call 47; refine (cd _).mono ?_; rintro e w' ⟨rfl, rfl⟩))
              go_ret
              exact ⟨by rw [hS.out]; rfl, hbb⟩
    · have hjl : j = l.length := by omega
      have hwl : wordLen l = l.length := wordLen_eq l l.length (Nat.le_refl _) (by rw [← hjl]; exact HA.out) fun h => by omega
      have cw := fun w => rword_any s l hs w
      have hlt' : ¬ (j : Int) < (l.length : Int) := by omega
      clear hcw
      by_cases h0 : l.length = 0
      · have hS : Hid (namedL l = false) := by show namedL l = false; simp [namedL, h0]
        have i0 : ¬ (0 : Int) < (l.length : Int) := by omega
        clear h0 hwl
        go_wp2_with (go_at_call 48; refine (cw _).mono ?_; rintro e w1 ⟨rfl, hb1⟩)
        go_ret
        exact ⟨by rw [hS.out]; rfl, hbb⟩
      · have i0 : (0 : Int) < (l.length : Int) := by omega
        by_cases h20 : l.length ≤ 20
        · have i20 : (l.length : Int) ≤ 20 := by omega
          have hS : Hid (namedL l = !isWordL l) := by show namedL l = _; simp [namedL, h0, h20, hwl]
          clear h0 hwl
          generalize isWordL l = b at *
          go_wp2_with (go_at_call 48; refine (cw _).mono ?_; rintro e w1 ⟨rfl, hb1⟩; have hbw := hbb.trans (hb1.mono hbb.size))
          go_ret
          exact ⟨by rw [hS.out]; rfl, hbw⟩
        · have i20 : ¬ (l.length : Int) ≤ 20 := by omega
          have hS : Hid (namedL l = false) := by show namedL l = false; simp [namedL, h20]
          clear h0 hwl h20
          go_wp2_with (go_at_call 48; refine (cw _).mono ?_; rintro e w1 ⟨rfl, hb1⟩)
          go_ret
          exact ⟨by rw [hS.out]; rfl, hbb⟩
end Go.Proofs.Ytjllbklkaalafaa

/- What can be a name, of whatever length: the document's. -/
namespace Go.Proofs.Ytjllbklkaalafaa
open Go.RowKit Lx

set_option maxRecDepth 10000 in
set_option maxHeartbeats 400000 in
theorem rnamed_big (s : ByteArray) (l : List UInt8) (hs : s.data.toList = l) (hl : l.length ≤ 9223372036854775807) (w : World) :
    Calls Try.prog 32 #[.string s] w fun e w' => e = .returned (.bool (namedL l)) ∧ Below w.heap.size w w' := by
  have hz : s.size = l.length := by rw [← hs, Lib.size_eq]
  have hcw := Lib.run_convert_string_bytes (P := Try.prog) w 9 78 5 s Try.underlying9 bytesT Try.underlying5
  have hbb := below_bytes w 5 s
  have HC : Hid (∀ j, j < l.length → (Lib.bytesWorld w 5 s).cell? ⟨w.heap.size, j, none⟩ = some (.int .u8 ((l.getD j 0).toNat : Int))) := fun j hj => by
    rw [Lib.bytesWorld_cell w 5 _ j (by omega), hs]
  rw [hz] at hcw
  generalize Lib.bytesWorld w 5 s = wB at *
  generalize grownCap w l.length 0 5 = cap at *
  go_enter Try.func32, Try.ntmps32
  go_wp2
  go_loop [8] (fun i => ∃ j : Nat, j ≤ l.length ∧ i = .int .i64 j ∧ ∀ i, i < j → pcAt l i = true) (fun i => l.length - (intOf i).toNat)
  case atStart => exact ⟨0, by omega, rfl, fun i h => by omega⟩
  case round =>
    obtain ⟨j, hj, rfl, hall⟩ := hrel
    have HA : Hid (∀ i, i < j → pcAt l i = true) := hall
    clear hall
    by_cases hlt : j < l.length
    · have hlt' : (j : Int) < (l.length : Int) := by omega
      have hj0 : (0 : Int) ≤ (j : Int) := by omega
      have cj := HC.out j hlt
      have hp : pcAt l j = if j = 0 then isL (l.getD j 0) else isC (l.getD j 0) := by
        unfold pcAt; split
        · rename_i h; rw [h]
        · rfl
      have cl := fun w => rlow_any (l.getD j 0) w
      have cd := fun w => rdigit_any (l.getD j 0) w
      generalize hc : l.getD j 0 = c at *
      have stop : pcAt l j = false → Hid (namedL l = false) := fun h => by
        show namedL l = false
        have : ¬ wordLen l = l.length := fun e => by rw [wordLen_all e j hlt] at h; cases h
        simp [namedL, this]
      have next : pcAt l j = true → Hid (∀ i, i < j + 1 → pcAt l i = true) := fun h i hi => by
        by_cases e : i = j
        · rw [e]; exact h
        · exact HA.out i (by omega)
      cases hL : isL c with
      | true =>
        have hN := next (by rw [hp]; split <;> simp [hL, isC])
        rw [hL] at cl
        clear hp hL stop next HA hcw
        go_wp2_with (first
          | (go_at_call 46; refine (cl _).mono ?_; rintro e w' ⟨rfl, rfl⟩)
          | (go_at_call 47; refine (cd _).mono ?_; rintro e w' ⟨rfl, rfl⟩))
        go_round
        case rel => exact ⟨j + 1, by omega, by go_num, hN.out⟩
        case measure => simp [intOf]; omega
      | false =>
        rw [hL] at cl
        by_cases h0 : j = 0
        · have hS := stop (by rw [hp, if_pos h0, hL])
          clear hp hL stop next HA hj0 hlt' hcw
          subst h0
          have hlt0 : (0 : Int) < (l.length : Int) := by omega
          go_wp2_with (first
            | (go_at_call 46; refine (cl _).mono ?_; rintro e w' ⟨rfl, rfl⟩)
            | (go_at_call 47; refine (cd _).mono ?_; rintro e w' ⟨rfl, rfl⟩))
          go_ret
          exact ⟨by rw [hS.out]; rfl, hbb⟩
        · have h0' : ((j : Int) == 0) = false := by simp; omega
          cases hD : isD c with
          | true =>
            have hN := next (by rw [hp, if_neg h0]; simp [hD, isC])
            rw [hD] at cd
            clear hp hL hD stop next HA hcw h0
            go_wp2_with (first
              | (go_at_call 46; refine (cl _).mono ?_; rintro e w' ⟨rfl, rfl⟩)
              | (go_at_call 47; refine (cd _).mono ?_; rintro e w' ⟨rfl, rfl⟩))
            go_round
            case rel => exact ⟨j + 1, by omega, by go_num, hN.out⟩
            case measure => simp [intOf]; omega
          | false =>
            rw [hD] at cd
            by_cases h95 : c.toNat = 95
            · have hN := next (by rw [hp, if_neg h0]; simp [isC, h95])
              have i95 : ((c.toNat : Int) != 95) = false := by simp; omega
              clear hp hL hD stop next HA h95 hcw h0
              go_wp2_with (first
                | (go_at_call 46; refine (cl _).mono ?_; rintro e w' ⟨rfl, rfl⟩)
                | (go_at_call 47; refine (cd _).mono ?_; rintro e w' ⟨rfl, rfl⟩))
              go_round
              case rel => exact ⟨j + 1, by omega, by go_num, hN.out⟩
              case measure => simp [intOf]; omega
            · have hS := stop (by rw [hp, if_neg h0]; simp [isC, h95, hL, hD])
              have i95 : ((c.toNat : Int) != 95) = true := by simp; omega
              clear hp hL hD stop next HA h95 hcw h0
              go_wp2_with (first
                | (go_at_call 46; refine (cl _).mono ?_; rintro e w' ⟨rfl, rfl⟩)
                | (go_at_call 47; refine (cd _).mono ?_; rintro e w' ⟨rfl, rfl⟩))
              go_ret
              exact ⟨by rw [hS.out]; rfl, hbb⟩
    · have hjl : j = l.length := by omega
      have hwl : wordLen l = l.length := wordLen_eq l l.length (Nat.le_refl _) (by rw [← hjl]; exact HA.out) fun h => by omega
      have cw := fun w => rword_any s l hs w
      have hlt' : ¬ (j : Int) < (l.length : Int) := by omega
      clear hcw
      by_cases h0 : l.length = 0
      · have hS : Hid (namedL l = false) := by show namedL l = false; simp [namedL, h0]
        have i0 : ¬ (0 : Int) < (l.length : Int) := by omega
        clear h0 hwl
        go_wp2_with (go_at_call 48; refine (cw _).mono ?_; rintro e w1 ⟨rfl, hb1⟩)
        go_ret
        exact ⟨by rw [hS.out]; rfl, hbb⟩
      · have i0 : (0 : Int) < (l.length : Int) := by omega
        by_cases h20 : l.length ≤ 20
        · have i20 : (l.length : Int) ≤ 20 := by omega
          have hS : Hid (namedL l = !isWordL l) := by show namedL l = _; simp [namedL, h0, h20, hwl]
          clear h0 hwl
          generalize isWordL l = b at *
          go_wp2_with (go_at_call 48; refine (cw _).mono ?_; rintro e w1 ⟨rfl, hb1⟩; have hbw := hbb.trans (hb1.mono hbb.size))
          go_ret
          exact ⟨by rw [hS.out]; rfl, hbw⟩
        · have i20 : ¬ (l.length : Int) ≤ 20 := by omega
          have hS : Hid (namedL l = false) := by show namedL l = false; simp [namedL, h20]
          clear h0 hwl h20
          go_wp2_with (go_at_call 48; refine (cw _).mono ?_; rintro e w1 ⟨rfl, hb1⟩)
          go_ret
          exact ⟨by rw [hS.out]; rfl, hbb⟩
end Go.Proofs.Ytjllbklkaalafaa
