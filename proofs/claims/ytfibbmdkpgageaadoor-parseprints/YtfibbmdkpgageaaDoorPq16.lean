/- What slotref3.digits comes to. -/
import Derived.Test.YtfibbmdkpgageaaDoorPq15
import Derived.Lib.ConvBytes
import Derived.Test.YtfibbmdkpgageaaDoorPq10
namespace Go.Proofs.YtfibbmdkpgageaaDoor
open Go.RowKit Lx

/-- So many digits at a place: their number. -/
def digL (l : List UInt8) (k n : Nat) : Int × Bool := if k + n ≤ l.length ∧ ∀ i, i < n → isD (l.getD (k + i) 0) = true then (valL ((l.drop k).take n), true) else (0, false)
theorem below_bytes (w : World) (e : TypeId) (s : ByteArray) : Below w.heap.size w (Lib.bytesWorld w e s) := ⟨rfl, rfl, rfl, by rw [Lib.bytesWorld_size]; omega, fun k hk => Lib.bytesWorld_at_old w e s k hk⟩
theorem bytesT : Tryd.prog.underlying 67 = some (.slice 5) := by kernel_rfl

set_option maxRecDepth 10000 in
set_option maxHeartbeats 400000 in
theorem rdigits_any (s : ByteArray) (l : List UInt8) (hs : s.data.toList = l) (hl : l.length ≤ 6000) (k n : Nat) (hk : k ≤ 7000) (hn : n ≤ 6) (w : World) :
    Calls Tryd.prog 78 #[.string s, .int .i64 (k : Int), .int .i64 (n : Int)] w fun e w' => e = .returned (.tuple #[.int .i64 (digL l k n).1, .bool (digL l k n).2]) ∧ Below w.heap.size w w' := by
  have hz : s.size = l.length := by rw [← hs, Lib.size_eq]
  by_cases hle : k + n ≤ l.length
  · have i1 : ¬ (l.length : Int) < (k : Int) + (n : Int) := by omega
    have i2 : (0 : Int) ≤ (k : Int) := by omega
    have i3 : (k : Int) ≤ (k : Int) + (n : Int) := by omega
    have i4 : (k : Int) + (n : Int) ≤ (l.length : Int) := by omega
    have en : ((k : Int) + (n : Int)).toNat = k + n := by omega
    have hx : (s.extract k (k + n)).data.toList = (l.drop k).take n := by rw [Lib.extract_data, hs, show k + n - k = n by omega]
    have hxl : ((l.drop k).take n).length = n := by simp; omega
    have hxs : (s.extract k (k + n)).size = n := by rw [Lib.size_eq, hx, hxl]
    have hg : ∀ j, j < n → ((l.drop k).take n).getD j 0 = l.getD (k + j) 0 := fun j hj => by
      rw [List.getD_eq_getElem?_getD, List.getD_eq_getElem?_getD, List.getElem?_take, if_pos hj, List.getElem?_drop]
    have hcv := fun w => Lib.run_convert_string_bytes (P := Tryd.prog) w 9 67 5 (s.extract k (k + n)) Tryd.underlying9 bytesT Tryd.underlying5
    have hbb := below_bytes w 5 (s.extract k (k + n))
    have hcell : ∀ j, j < n → (Lib.bytesWorld w 5 (s.extract k (k + n))).cell? ⟨w.heap.size, j, none⟩ = some (.int .u8 ((l.getD (k + j) 0).toNat : Int)) := fun j hj => by
      rw [Lib.bytesWorld_cell w 5 _ j (by omega), hx, hg j hj]
    have HC : Hid (∀ j, j < n → (Lib.bytesWorld w 5 (s.extract k (k + n))).cell? ⟨w.heap.size, j, none⟩ = some (.int .u8 ((l.getD (k + j) 0).toNat : Int))) := hcell
    have hcw := hcv w
    rw [hxs] at hcw
    generalize Lib.bytesWorld w 5 (s.extract k (k + n)) = wB at *
    generalize grownCap w n 0 5 = cap at *
    clear hcell hcv
    go_enter Tryd.func78, Tryd.ntmps78
    go_wp2
    go_loop [8, 25] (fun x i => ∃ j : Nat, j ≤ n ∧ i = .int .i64 j ∧ x = .int .i64 (valL ((l.drop k).take j)) ∧ ∀ i, i < j → isD (l.getD (k + i) 0) = true) (fun _ i => n - (intOf i).toNat)
    case atStart => exact ⟨0, by omega, rfl, rfl, fun i h => by omega⟩
    case round =>
      obtain ⟨j, hj, rfl, rfl, hall⟩ := hrel
      have HA : Hid (∀ i, i < j → isD (l.getD (k + i) 0) = true) := hall
      clear hall
      by_cases hlt : j < n
      · have hlt' : (j : Int) < (n : Int) := by omega
        have hj0 : (0 : Int) ≤ (j : Int) := by omega
        have cj := HC.out j hlt
        have cd := fun w => rdigit_any (l.getD (k + j) 0) w
        have hdj : (l.drop k).getD j 0 = l.getD (k + j) 0 := by rw [List.getD_eq_getElem?_getD, List.getD_eq_getElem?_getD, List.getElem?_drop]
        have hvt := valL_take (l.drop k) j (by simp; omega)
        rw [hdj] at hvt
        have hjl : ((l.drop k).take j).length = j := by simp; omega
        have hvb := valL_small ((l.drop k).take j) (fun i hi => by
          rw [hjl] at hi
          have := HA.out i hi
          rw [List.getD_eq_getElem?_getD] at this ⊢
          rw [List.getElem?_take, if_pos hi, List.getElem?_drop]
          exact this) j (by omega) (by omega)
        rw [List.take_of_length_le (by omega)] at hvb
        have HV : Hid (valL ((l.drop k).take (j + 1)) = 10 * valL ((l.drop k).take j) + (((l.getD (k + j) 0).toNat : Int) - 48)) := hvt
        cases hD : isD (l.getD (k + j) 0) with
        | true =>
          rw [hD] at cd
          have hD' := hD
          simp only [isD, Bool.and_eq_true, decide_eq_true_eq] at hD'
          have HD : Hid (isD (l.getD (k + j) 0) = true) := hD
          have HK : Hid (48 ≤ (l.getD (k + j) 0).toNat ∧ (l.getD (k + j) 0).toNat ≤ 57) := hD'
          clear hD hD' hvt hdj hjl hcw
          generalize hc : l.getD (k + j) 0 = c at *
          generalize valL ((l.drop k).take j) = v at *
          go_wp2_with (go_at_call 64; refine (cd _).mono ?_; rintro e w' ⟨rfl, rfl⟩)
          go_round
          case rel =>
            refine ⟨j + 1, by omega, by go_num, ?_, fun i hi => ?_⟩
            · rw [HV.out]
              refine i64_eq ?_
              have := HK.out
              omega
            · by_cases e : i = j
              · rw [e, hc]; exact HD.out
              · exact HA.out i (by omega)
          case measure => simp [intOf]; omega
        | false =>
          rw [hD] at cd
          have HN : Hid (digL l k n = (0, false)) := by
            show digL l k n = _
            unfold digL
            rw [if_neg (fun h => by rw [h.2 j hlt] at hD; cases hD)]
          clear hD hvt hdj hjl hcw HV
          generalize hc : l.getD (k + j) 0 = c at *
          go_wp2_with (go_at_call 64; refine (cd _).mono ?_; rintro e w' ⟨rfl, rfl⟩)
          go_ret2
          exact ⟨by rw [HN.out]; rfl, hbb⟩
      · have hjn : j = n := by omega
        subst hjn
        have HN : Hid (digL l k j = (valL ((l.drop k).take j), true)) := by
          show digL l k j = _
          unfold digL
          rw [if_pos ⟨hle, HA.out⟩]
        clear hcw
        go_wp2
        go_ret2
        exact ⟨by rw [HN.out]; rfl, hbb⟩
  · have i1 : (l.length : Int) < (k : Int) + (n : Int) := by omega
    have HN : Hid (digL l k n = (0, false)) := by
      show digL l k n = _
      unfold digL; rw [if_neg (fun h => hle h.1)]
    go_enter Tryd.func78, Tryd.ntmps78
    go_wp2
    go_ret2
    exact ⟨by rw [HN.out]; rfl, Below.refl _ _⟩
end Go.Proofs.YtfibbmdkpgageaaDoor

/- What slotref3.Named comes to. -/
namespace Go.Proofs.YtfibbmdkpgageaaDoor
open Go.RowKit Lx

theorem wordLen_all : ∀ {l : List UInt8}, wordLen l = l.length → ∀ i, i < l.length → pcAt l i = true
  | [], _, i, h => by simp at h
  | c :: l, h, i, hi => by
    by_cases hc : isL c = true
    · simp only [wordLen, hc, if_true, List.length_cons] at h
      have hr : runOf isC l = l.length := by omega
      cases i with
      | zero => simpa [pcAt] using hc
      | succ i =>
        have hi' : i < l.length := by simpa using hi
        have := runOf_all isC l i (by omega)
        simpa [pcAt] using this
    · simp [wordLen, hc] at h

set_option maxRecDepth 10000 in
set_option maxHeartbeats 400000 in
theorem rnamed_any (s : ByteArray) (l : List UInt8) (hs : s.data.toList = l) (hl : l.length ≤ 9223372036854775806) (w : World) :
    Calls Tryd.prog 37 #[.string s] w fun e w' => e = .returned (.bool (namedL l)) ∧ Below w.heap.size w w' := by
  have hz : s.size = l.length := by rw [← hs, Lib.size_eq]
  have hcw := Lib.run_convert_string_bytes (P := Tryd.prog) w 9 67 5 s Tryd.underlying9 bytesT Tryd.underlying5
  have hbb := below_bytes w 5 s
  have HC : Hid (∀ j, j < l.length → (Lib.bytesWorld w 5 s).cell? ⟨w.heap.size, j, none⟩ = some (.int .u8 ((l.getD j 0).toNat : Int))) := fun j hj => by
    rw [Lib.bytesWorld_cell w 5 _ j (by omega), hs]
  rw [hz] at hcw
  generalize Lib.bytesWorld w 5 s = wB at *
  generalize grownCap w l.length 0 5 = cap at *
  go_enter Tryd.func37, Tryd.ntmps37
  go_wp2
  go_loop [8] (fun i => ∃ j : Nat, j ≤ l.length ∧ i = .int .i64 j ∧ ∀ i, i < j → pcAt l i = true) (fun i => l.length - (intOf i).toNat)
  case atStart => exact ⟨0, by omega, rfl, fun i h => by omega⟩
  case round =>
    obtain ⟨j, hj, rfl, hall⟩ := hrel
    have HA : Hid (∀ i, i < j → pcAt l i = true) := hall
    clear hall
    by_cases hlt : j < l.length
    · have hlt' : (j : Int) < (l.length : Int) := by omega
      have hj0 : (0 : Int) ≤ (j : Int) := by omega
      have cj := HC.out j hlt
      have hp : pcAt l j = if j = 0 then isL (l.getD j 0) else isC (l.getD j 0) := by
        unfold pcAt; split
        · rename_i h; rw [h]
        · rfl
      have cl := fun w => rlow_any (l.getD j 0) w
      have cd := fun w => rdigit_any (l.getD j 0) w
      generalize hc : l.getD j 0 = c at *
      have stop : pcAt l j = false → Hid (namedL l = false) := fun h => by
        show namedL l = false
        have : ¬ wordLen l = l.length := fun e => by rw [wordLen_all e j hlt] at h; cases h
        simp [namedL, this]
      have next : pcAt l j = true → Hid (∀ i, i < j + 1 → pcAt l i = true) := fun h i hi => by
        by_cases e : i = j
        · rw [e]; exact h
        · exact HA.out i (by omega)
      cases hL : isL c with
      | true =>
        have hN := next (by rw [hp]; split <;> simp [hL, isC])
        rw [hL] at cl
        clear hp hL stop next HA hcw
        go_wp2_with (first
          | (go_at_call 63; refine (cl _).mono ?_; rintro e w' ⟨rfl, rfl⟩)
          | (go_at_call 64; refine (cd _).mono ?_; rintro e w' ⟨rfl, rfl⟩))
        go_round
        case rel => exact ⟨j + 1, by omega, by go_num, hN.out⟩
        case measure => simp [intOf]; omega
      | false =>
        rw [hL] at cl
        by_cases h0 : j = 0
        · have hS := stop (by rw [hp, if_pos h0, hL])
          clear hp hL stop next HA hj0 hlt' hcw
          subst h0
          have hlt0 : (0 : Int) < (l.length : Int) := by omega
          go_wp2_with (first
            | (go_at_call 63; refine (cl _).mono ?_; rintro e w' ⟨rfl, rfl⟩)
            | (go_at_call 64; refine (cd _).mono ?_; rintro e w' ⟨rfl, rfl⟩))
          go_ret
          exact ⟨by rw [hS.out]; rfl, hbb⟩
        · have h0' : ((j : Int) == 0) = false := by simp; omega
          cases hD : isD c with
          | true =>
            have hN := next (by rw [hp, if_neg h0]; simp [hD, isC])
            rw [hD] at cd
            clear hp hL hD stop next HA hcw h0
            go_wp2_with (first
              | (go_at_call 63; refine (cl _).mono ?_; rintro e w' ⟨rfl, rfl⟩)
              | (go_at_call 64; refine (cd _).mono ?_; rintro e w' ⟨rfl, rfl⟩))
            go_round
            case rel => exact ⟨j + 1, by omega, by go_num, hN.out⟩
            case measure => simp [intOf]; omega
          | false =>
            rw [hD] at cd
            by_cases h95 : c.toNat = 95
            · have hN := next (by rw [hp, if_neg h0]; simp [isC, h95])
              have i95 : ((c.toNat : Int) != 95) = false := by simp; omega
              clear hp hL hD stop next HA h95 hcw h0
              go_wp2_with (first
                | (go_at_call 63; refine (cl _).mono ?_; rintro e w' ⟨rfl, rfl⟩)
                | (go_at_call 64; refine (cd _).mono ?_; rintro e w' ⟨rfl, rfl⟩))
              go_round
              case rel => exact ⟨j + 1, by omega, by go_num, hN.out⟩
              case measure => simp [intOf]; omega
            · have hS := stop (by rw [hp, if_neg h0]; simp [isC, h95, hL, hD])
              have i95 : ((c.toNat : Int) != 95) = true := by simp; omega
              clear hp hL hD stop next HA h95 hcw h0
              go_wp2_with (first
                | (go_at_call 63; refine (cl _).mono ?_; rintro e w' ⟨rfl, rfl⟩)
                | (go_at_call 64; refine (cd _).mono ?_; rintro e w' ⟨rfl, rfl⟩))
              go_ret
              exact ⟨by rw [hS.out]; rfl, hbb⟩
    · have hjl : j = l.length := by omega
      have hwl : wordLen l = l.length := wordLen_eq l l.length (Nat.le_refl _) (by rw [← hjl]; exact HA.out) fun h => by omega
      have cw := fun w => rword_any s l hs w
      have hlt' : ¬ (j : Int) < (l.length : Int) := by omega
      clear hcw
      by_cases h0 : l.length = 0
      · have hS : Hid (namedL l = false) := by show namedL l = false; simp [namedL, h0]
        have i0 : ¬ (0 : Int) < (l.length : Int) := by omega
        clear h0 hwl
        go_wp2_with (go_at_call 65; refine (cw _).mono ?_; rintro e w1 ⟨rfl, hb1⟩)
        go_ret
        exact ⟨by rw [hS.out]; rfl, hbb⟩
      · have i0 : (0 : Int) < (l.length : Int) := by omega
        by_cases h20 : l.length ≤ 20
        · have i20 : (l.length : Int) ≤ 20 := by omega
          have hS : Hid (namedL l = !isWordL l) := by show namedL l = _; simp [namedL, h0, h20, hwl]
          clear h0 hwl
          generalize isWordL l = b at *
          go_wp2_with (go_at_call 65; refine (cw _).mono ?_; rintro e w1 ⟨rfl, hb1⟩; have hbw := hbb.trans (hb1.mono hbb.size))
          go_ret
          exact ⟨by rw [hS.out]; rfl, hbw⟩
        · have i20 : ¬ (l.length : Int) ≤ 20 := by omega
          have hS : Hid (namedL l = false) := by show namedL l = false; simp [namedL, h20]
          clear h0 hwl h20
          go_wp2_with (go_at_call 65; refine (cw _).mono ?_; rintro e w1 ⟨rfl, hb1⟩)
          go_ret
          exact ⟨by rw [hS.out]; rfl, hbb⟩
end Go.Proofs.YtfibbmdkpgageaaDoor

/- Named and the document's Named, of a text of any length. -/
namespace Go.Proofs.YtfibbmdkpgageaaDoor
open Go.RowKit Lx

set_option maxRecDepth 10000 in
theorem named_big (s : ByteArray) (l : List UInt8) (hs : s.data.toList = l) (hl : l.length ≤ 9223372036854775807) (w : World) :
    Calls Tryd.prog 16 #[.string s] w fun e w' => e = .returned (.bool (namedL l)) ∧ Below w.heap.size w w' := by
  by_cases h20 : l.length ≤ 20
  · exact named_any s l hs (by omega) w
  · have hz : s.size = l.length := by rw [← hs, Lib.size_eq]
    have hq : s.toList.isEmpty = false := by rw [Lib.toList_data, hs]; cases l <;> simp at h20 ⊢
    have i20 : ¬ (l.length : Int) ≤ 20 := by omega
    have HN : Hid (namedL l = false) := by show namedL l = false; simp [namedL, h20]
    clear h20
    go_enter Tryd.func16, Tryd.ntmps16
    go_wp2_with fail
    go_ret
    exact ⟨by rw [HN.out]; rfl, Below.refl _ _⟩

set_option maxRecDepth 10000 in
set_option maxHeartbeats 400000 in
theorem rnamed_big (s : ByteArray) (l : List UInt8) (hs : s.data.toList = l) (hl : l.length ≤ 9223372036854775807) (w : World) :
    Calls Tryd.prog 37 #[.string s] w fun e w' => e = .returned (.bool (namedL l)) ∧ Below w.heap.size w w' := by
  have hz : s.size = l.length := by rw [← hs, Lib.size_eq]
  have hcw := Lib.run_convert_string_bytes (P := Tryd.prog) w 9 67 5 s Tryd.underlying9 bytesT Tryd.underlying5
  have hbb := below_bytes w 5 s
  have HC : Hid (∀ j, j < l.length → (Lib.bytesWorld w 5 s).cell? ⟨w.heap.size, j, none⟩ = some (.int .u8 ((l.getD j 0).toNat : Int))) := fun j hj => by
    rw [Lib.bytesWorld_cell w 5 _ j (by omega), hs]
  rw [hz] at hcw
  generalize Lib.bytesWorld w 5 s = wB at *
  generalize grownCap w l.length 0 5 = cap at *
  go_enter Tryd.func37, Tryd.ntmps37
  go_wp2
  go_loop [8] (fun i => ∃ j : Nat, j ≤ l.length ∧ i = .int .i64 j ∧ ∀ i, i < j → pcAt l i = true) (fun i => l.length - (intOf i).toNat)
  case atStart => exact ⟨0, by omega, rfl, fun i h => by omega⟩
  case round =>
    obtain ⟨j, hj, rfl, hall⟩ := hrel
    have HA : Hid (∀ i, i < j → pcAt l i = true) := hall
    clear hall
    by_cases hlt : j < l.length
    · have hlt' : (j : Int) < (l.length : Int) := by omega
      have hj0 : (0 : Int) ≤ (j : Int) := by omega
      have cj := HC.out j hlt
      have hp : pcAt l j = if j = 0 then isL (l.getD j 0) else isC (l.getD j 0) := by
        unfold pcAt; split
        · rename_i h; rw [h]
        · rfl
      have cl := fun w => rlow_any (l.getD j 0) w
      have cd := fun w => rdigit_any (l.getD j 0) w
      generalize hc : l.getD j 0 = c at *
      have stop : pcAt l j = false → Hid (namedL l = false) := fun h => by
        show namedL l = false
        have : ¬ wordLen l = l.length := fun e => by rw [wordLen_all e j hlt] at h; cases h
        simp [namedL, this]
      have next : pcAt l j = true → Hid (∀ i, i < j + 1 → pcAt l i = true) := fun h i hi => by
        by_cases e : i = j
        · rw [e]; exact h
        · exact HA.out i (by omega)
      cases hL : isL c with
      | true =>
        have hN := next (by rw [hp]; split <;> simp [hL, isC])
        rw [hL] at cl
        clear hp hL stop next HA hcw
        go_wp2_with (first
          | (go_at_call 63; refine (cl _).mono ?_; rintro e w' ⟨rfl, rfl⟩)
          | (go_at_call 64; refine (cd _).mono ?_; rintro e w' ⟨rfl, rfl⟩))
        go_round
        case rel => exact ⟨j + 1, by omega, by go_num, hN.out⟩
        case measure => simp [intOf]; omega
      | false =>
        rw [hL] at cl
        by_cases h0 : j = 0
        · have hS := stop (by rw [hp, if_pos h0, hL])
          clear hp hL stop next HA hj0 hlt' hcw
          subst h0
          have hlt0 : (0 : Int) < (l.length : Int) := by omega
          go_wp2_with (first
            | (go_at_call 63; refine (cl _).mono ?_; rintro e w' ⟨rfl, rfl⟩)
            | (go_at_call 64; refine (cd _).mono ?_; rintro e w' ⟨rfl, rfl⟩))
          go_ret
          exact ⟨by rw [hS.out]; rfl, hbb⟩
        · have h0' : ((j : Int) == 0) = false := by simp; omega
          cases hD : isD c with
          | true =>
            have hN := next (by rw [hp, if_neg h0]; simp [hD, isC])
            rw [hD] at cd
            clear hp hL hD stop next HA hcw h0
            go_wp2_with (first
              | (go_at_call 63; refine (cl _).mono ?_; rintro e w' ⟨rfl, rfl⟩)
              | (go_at_call 64; refine (cd _).mono ?_; rintro e w' ⟨rfl, rfl⟩))
            go_round
            case rel => exact ⟨j + 1, by omega, by go_num, hN.out⟩
            case measure => simp [intOf]; omega
          | false =>
            rw [hD] at cd
            by_cases h95 : c.toNat = 95
            · have hN := next (by rw [hp, if_neg h0]; simp [isC, h95])
              have i95 : ((c.toNat : Int) != 95) = false := by simp; omega
              clear hp hL hD stop next HA h95 hcw h0
              go_wp2_with (first
                | (go_at_call 63; refine (cl _).mono ?_; rintro e w' ⟨rfl, rfl⟩)
                | (go_at_call 64; refine (cd _).mono ?_; rintro e w' ⟨rfl, rfl⟩))
              go_round
              case rel => exact ⟨j + 1, by omega, by go_num, hN.out⟩
              case measure => simp [intOf]; omega
            · have hS := stop (by rw [hp, if_neg h0]; simp [isC, h95, hL, hD])
              have i95 : ((c.toNat : Int) != 95) = true := by simp; omega
              clear hp hL hD stop next HA h95 hcw h0
              go_wp2_with (first
                | (go_at_call 63; refine (cl _).mono ?_; rintro e w' ⟨rfl, rfl⟩)
                | (go_at_call 64; refine (cd _).mono ?_; rintro e w' ⟨rfl, rfl⟩))
              go_ret
              exact ⟨by rw [hS.out]; rfl, hbb⟩
    · have hjl : j = l.length := by omega
      have hwl : wordLen l = l.length := wordLen_eq l l.length (Nat.le_refl _) (by rw [← hjl]; exact HA.out) fun h => by omega
      have cw := fun w => rword_any s l hs w
      have hlt' : ¬ (j : Int) < (l.length : Int) := by omega
      clear hcw
      by_cases h0 : l.length = 0
      · have hS : Hid (namedL l = false) := by show namedL l = false; simp [namedL, h0]
        have i0 : ¬ (0 : Int) < (l.length : Int) := by omega
        clear h0 hwl
        go_wp2_with (go_at_call 65; refine (cw _).mono ?_; rintro e w1 ⟨rfl, hb1⟩)
        go_ret
        exact ⟨by rw [hS.out]; rfl, hbb⟩
      · have i0 : (0 : Int) < (l.length : Int) := by omega
        by_cases h20 : l.length ≤ 20
        · have i20 : (l.length : Int) ≤ 20 := by omega
          have hS : Hid (namedL l = !isWordL l) := by show namedL l = _; simp [namedL, h0, h20, hwl]
          clear h0 hwl
          generalize isWordL l = b at *
          go_wp2_with (go_at_call 65; refine (cw _).mono ?_; rintro e w1 ⟨rfl, hb1⟩; have hbw := hbb.trans (hb1.mono hbb.size))
          go_ret
          exact ⟨by rw [hS.out]; rfl, hbw⟩
        · have i20 : ¬ (l.length : Int) ≤ 20 := by omega
          have hS : Hid (namedL l = false) := by show namedL l = false; simp [namedL, h20]
          clear h0 hwl h20
          go_wp2_with (go_at_call 65; refine (cw _).mono ?_; rintro e w1 ⟨rfl, hb1⟩)
          go_ret
          exact ⟨by rw [hS.out]; rfl, hbb⟩
end Go.Proofs.YtfibbmdkpgageaaDoor

/- What wrongAlone comes to. -/
namespace Go.Proofs.YtfibbmdkpgageaaDoor
open Go.RowKit Lx

set_option maxRecDepth 100000 in
set_option maxHeartbeats 1000000 in
theorem alone_any (e : Ex) (p : Option Addr) (c : Nat) (hnm : e.name.length ≤ 9223372036854775807) (w : World) : Calls Tryd.prog 90 #[exV e (.slice p e.kids.length c)] w fun r w' => r = .returned (.int .i64 (aloneP e)) ∧ Below w.heap.size w w' := by
  have hb : Below w.heap.size w (w.alloc (.cells #[.int .i64 e.kind, .int .i64 e.a, .int .i64 e.b, .string ⟨e.name.toArray⟩, .slice p e.kids.length c] 60)) := (Below.refl _ _).alloc (Nat.le_refl _) _
  have hx := heap_alloc_new w (.cells #[.int .i64 e.kind, .int .i64 e.a, .int .i64 e.b, .string ⟨e.name.toArray⟩, .slice p e.kids.length c] 60)
  have cK := fun w => kidsOf_any e.kind w
  have cR := fun w => inRange_any e.kind e.a e.b ⟨e.name.toArray⟩ p e.kids.length c w
  have cN := fun w => named_big ⟨e.name.toArray⟩ e.name rfl hnm w
  unfold aloneP exV
  generalize kidsP e.kind = kp at *
  generalize rangeP e.kind e.a e.b = rp at *
  generalize namedL e.name = nb at *
  generalize e.kind = k at *
  generalize e.a = a at *
  generalize e.b = b at *
  generalize (⟨e.name.toArray⟩ : ByteArray) = nm at *
  generalize e.kids.length = n at *
  clear hnm
  generalize hA : (if k < 1 ∨ 10 < k then (1 : Int) else if n ≠ kp then 5 else if rp = false then 3 else if k = 10 ∧ nb = false then 7 else 0) = A
  have HA : Hid ((if k < 1 ∨ 10 < k then (1 : Int) else if n ≠ kp then 5 else if rp = false then 3 else if k = 10 ∧ nb = false then 7 else 0) = A) := hA
  clear hA
  by_cases c1 : k < 1
  · have HE : Hid (A = 1) := by show _ = _; rw [← HA.out, if_pos (.inl c1)]
    go_enter Tryd.func90, Tryd.ntmps90
    go_wp2_with fail
    go_ret
    exact ⟨by rw [HE.out]; rfl, hb⟩
  by_cases c2 : 10 < k
  · have HE : Hid (A = 1) := by show _ = _; rw [← HA.out, if_pos (.inr c2)]
    go_enter Tryd.func90, Tryd.ntmps90
    go_wp2_with fail
    go_ret
    exact ⟨by rw [HE.out]; rfl, hb⟩
  have hk : ¬ (k < 1 ∨ 10 < k) := by omega
  have HK : Hid (¬ (k < 1 ∨ 10 < k)) := hk
  clear hk
  have k0 := (cell_of_row _ _ 0 _ _ _ hx).trans rfl
  have k3 := (cell_of_row _ _ 3 _ _ _ hx).trans rfl
  have k4 := (cell_of_row _ _ 4 _ _ _ hx).trans rfl
  generalize hw1 : w.alloc (.cells #[.int .i64 k, .int .i64 a, .int .i64 b, .string nm, .slice p n c] 60) = w1 at *
  by_cases c3 : n = kp
  · have n3 : ((n : Int) != (kp : Int)) = false := by simp; omega
    have HN : Hid (¬ n ≠ kp) := fun h => h c3
    clear c3
    go_enter Tryd.func90, Tryd.ntmps90
    go_wp2_with fail
    go_quiet ((go_at_call 108; exact Calls.quiet_of_same (cK _)))
    have hx2 : (w1.drewN nq).heap[w.heap.size]? = some (.cells #[.int .i64 k, .int .i64 a, .int .i64 b, .string nm, .slice p n c] 60 (0, 0)) := hx
    have k02 : (w1.drewN nq).cell? ⟨w.heap.size, 0, none⟩ = some (.int .i64 k) := k0
    have k32 : (w1.drewN nq).cell? ⟨w.heap.size, 3, none⟩ = some (.string nm) := k3
    have hb2 := below_drewN hb nq
    clear hx k0 k3 k4 hw1 hb cK
    generalize w1.drewN nq = w2 at *
    cases rp with
    | false =>
      have HE : Hid (A = 3) := by show _ = _; rw [← HA.out, if_neg HK.out, if_neg HN.out, if_pos rfl]
      go_wp2_with (refine wpList_load_row rfl 60 _ rfl _ rfl _ _ _ _ hx2 exprType rfl (by kernel_rfl) ?_)
      refine (cR _).mono ?_
      rintro r w3 ⟨rfl, hb3⟩
      have hb3w := hb2.trans (hb3.mono hb2.size)
      go_wp2_with fail
      go_ret
      exact ⟨by rw [HE.out]; rfl, hb3w⟩
    | true =>
      go_wp2_with (refine wpList_load_row rfl 60 _ rfl _ rfl _ _ _ _ hx2 exprType rfl (by kernel_rfl) ?_)
      refine (cR _).mono ?_
      rintro r w3 ⟨rfl, hb3⟩
      have hb3w := hb2.trans (hb3.mono hb2.size)
      have q0 := (hb3.cell (block_lt_of_cell k02)).trans k02
      have q3 := (hb3.cell (block_lt_of_cell k32)).trans k32
      clear cR hx2 k02 k32 hb3
      by_cases c5 : k = 10
      · have i5 : (k == 10) = true := by simpa using c5
        cases nb with
        | false =>
          have HE : Hid (A = 7) := by show _ = _; rw [← HA.out, if_neg HK.out, if_neg HN.out, if_neg (by decide), if_pos ⟨c5, rfl⟩]
          go_wp2_with fail
          refine (cN _).mono ?_
          rintro r w4 ⟨rfl, hb4⟩
          have hb4w := hb3w.trans (hb4.mono hb3w.size)
          go_wp2_with fail
          go_ret
          exact ⟨by rw [HE.out]; rfl, hb4w⟩
        | true =>
          have HE : Hid (A = 0) := by show _ = _; rw [← HA.out, if_neg HK.out, if_neg HN.out, if_neg (by decide), if_neg (by simp)]
          go_wp2_with fail
          refine (cN _).mono ?_
          rintro r w4 ⟨rfl, hb4⟩
          have hb4w := hb3w.trans (hb4.mono hb3w.size)
          go_wp2_with fail
          go_ret
          exact ⟨by rw [HE.out]; rfl, hb4w⟩
      · have i5 : (k == 10) = false := by simpa using c5
        have HE : Hid (A = 0) := by show _ = _; rw [← HA.out, if_neg HK.out, if_neg HN.out, if_neg (by decide), if_neg (fun h => c5 h.1)]
        go_wp2_with fail
        go_ret
        exact ⟨by rw [HE.out]; rfl, hb3w⟩
  · have n3 : ((n : Int) != (kp : Int)) = true := by simp; omega
    have HE : Hid (A = 5) := by show _ = _; rw [← HA.out, if_neg HK.out, if_pos c3]
    go_enter Tryd.func90, Tryd.ntmps90
    go_wp2_with fail
    go_quiet ((go_at_call 108; exact Calls.quiet_of_same (cK _)))
    have hb2 := below_drewN hb nq
    go_wp2_with fail
    go_ret
    exact ⟨by rw [HE.out]; rfl, hb2⟩
end Go.Proofs.YtfibbmdkpgageaaDoor
