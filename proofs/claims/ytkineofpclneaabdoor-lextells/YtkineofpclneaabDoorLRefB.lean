/- What slotref3.digits comes to. -/
import Derived.Test.YtkineofpclneaabDoorLRefA
import Derived.Lib.ConvBytes
namespace Go.Proofs.YtkineofpclneaabDoor
open Go.RowKit Lx

/-- So many digits at a place: their number. -/
def digL (l : List UInt8) (k n : Nat) : Int × Bool := if k + n ≤ l.length ∧ ∀ i, i < n → isD (l.getD (k + i) 0) = true then (valL ((l.drop k).take n), true) else (0, false)
theorem below_bytes (w : World) (e : TypeId) (s : ByteArray) : Below w.heap.size w (Lib.bytesWorld w e s) := ⟨rfl, rfl, rfl, by rw [Lib.bytesWorld_size]; omega, fun k hk => Lib.bytesWorld_at_old w e s k hk⟩
theorem bytesT : Tryd.prog.underlying 68 = some (.slice 5) := by kernel_rfl

set_option maxRecDepth 10000 in
set_option maxHeartbeats 400000 in
theorem rdigits_any (s : ByteArray) (l : List UInt8) (hs : s.data.toList = l) (hl : l.length ≤ 6000) (k n : Nat) (hk : k ≤ 7000) (hn : n ≤ 6) (w : World) :
    Calls Tryd.prog 60 #[.string s, .int .i64 (k : Int), .int .i64 (n : Int)] w fun e w' => e = .returned (.tuple #[.int .i64 (digL l k n).1, .bool (digL l k n).2]) ∧ Below w.heap.size w w' := by
  have hz : s.size = l.length := by rw [← hs, Lib.size_eq]
  by_cases hle : k + n ≤ l.length
  · have i1 : ¬ (l.length : Int) < (k : Int) + (n : Int) := by omega
    have i2 : (0 : Int) ≤ (k : Int) := by omega
    have i3 : (k : Int) ≤ (k : Int) + (n : Int) := by omega
    have i4 : (k : Int) + (n : Int) ≤ (l.length : Int) := by omega
    have en : ((k : Int) + (n : Int)).toNat = k + n := by omega
    have hx : (s.extract k (k + n)).data.toList = (l.drop k).take n := by rw [Lib.extract_data, hs, show k + n - k = n by omega]
    have hxl : ((l.drop k).take n).length = n := by simp; omega
    have hxs : (s.extract k (k + n)).size = n := by rw [Lib.size_eq, hx, hxl]
    have hg : ∀ j, j < n → ((l.drop k).take n).getD j 0 = l.getD (k + j) 0 := fun j hj => by
      rw [List.getD_eq_getElem?_getD, List.getD_eq_getElem?_getD, List.getElem?_take, if_pos hj, List.getElem?_drop]
    have hcv := fun w => Lib.run_convert_string_bytes (P := Tryd.prog) w 9 68 5 (s.extract k (k + n)) Tryd.underlying9 bytesT Tryd.underlying5
    have hbb := below_bytes w 5 (s.extract k (k + n))
    have hcell : ∀ j, j < n → (Lib.bytesWorld w 5 (s.extract k (k + n))).cell? ⟨w.heap.size, j, none⟩ = some (.int .u8 ((l.getD (k + j) 0).toNat : Int)) := fun j hj => by
      rw [Lib.bytesWorld_cell w 5 _ j (by omega), hx, hg j hj]
    have HC : Hid (∀ j, j < n → (Lib.bytesWorld w 5 (s.extract k (k + n))).cell? ⟨w.heap.size, j, none⟩ = some (.int .u8 ((l.getD (k + j) 0).toNat : Int))) := hcell
    have hcw := hcv w
    rw [hxs] at hcw
    generalize Lib.bytesWorld w 5 (s.extract k (k + n)) = wB at *
    generalize grownCap w n 0 5 = cap at *
    clear hcell hcv
    go_enter Tryd.func60, Tryd.ntmps60
    go_wp2
    go_loop [8, 25] (fun x i => ∃ j : Nat, j ≤ n ∧ i = .int .i64 j ∧ x = .int .i64 (valL ((l.drop k).take j)) ∧ ∀ i, i < j → isD (l.getD (k + i) 0) = true) (fun _ i => n - (intOf i).toNat)
    case atStart => exact ⟨0, by omega, rfl, rfl, fun i h => by omega⟩
    case round =>
      obtain ⟨j, hj, rfl, rfl, hall⟩ := hrel
      have HA : Hid (∀ i, i < j → isD (l.getD (k + i) 0) = true) := hall
      clear hall
      by_cases hlt : j < n
      · have hlt' : (j : Int) < (n : Int) := by omega
        have hj0 : (0 : Int) ≤ (j : Int) := by omega
        have cj := HC.out j hlt
        have cd := fun w => rdigit_any (l.getD (k + j) 0) w
        have hdj : (l.drop k).getD j 0 = l.getD (k + j) 0 := by rw [List.getD_eq_getElem?_getD, List.getD_eq_getElem?_getD, List.getElem?_drop]
        have hvt := valL_take (l.drop k) j (by simp; omega)
        rw [hdj] at hvt
        have hjl : ((l.drop k).take j).length = j := by simp; omega
        have hvb := valL_small ((l.drop k).take j) (fun i hi => by
          rw [hjl] at hi
          have := HA.out i hi
          rw [List.getD_eq_getElem?_getD] at this ⊢
          rw [List.getElem?_take, if_pos hi, List.getElem?_drop]
          exact this) j (by omega) (by omega)
        rw [List.take_of_length_le (by omega)] at hvb
        have HV : Hid (valL ((l.drop k).take (j + 1)) = 10 * valL ((l.drop k).take j) + (((l.getD (k + j) 0).toNat : Int) - 48)) := hvt
        cases hD : isD (l.getD (k + j) 0) with
        | true =>
          rw [hD] at cd
          have hD' := hD
          simp only [isD, Bool.and_eq_true, decide_eq_true_eq] at hD'
          have HD : Hid (isD (l.getD (k + j) 0) = true) := hD
          have HK : Hid (48 ≤ (l.getD (k + j) 0).toNat ∧ (l.getD (k + j) 0).toNat ≤ 57) := hD'
          clear hD hD' hvt hdj hjl hcw
          generalize hc : l.getD (k + j) 0 = c at *
          generalize valL ((l.drop k).take j) = v at *
          go_wp2_with (go_at_call 47; refine (cd _).mono ?_; rintro e w' ⟨rfl, rfl⟩)
          go_round
          case rel =>
            refine ⟨j + 1, by omega, by go_num, ?_, fun i hi => ?_⟩
            · rw [HV.out]
              refine i64_eq ?_
              have := HK.out
              omega
            · by_cases e : i = j
              · rw [e, hc]; exact HD.out
              · exact HA.out i (by omega)
          case measure => simp [intOf]; omega
        | false =>
          rw [hD] at cd
          have HN : Hid (digL l k n = (0, false)) := by
            show digL l k n = _
            unfold digL
            rw [if_neg (fun h => by rw [h.2 j hlt] at hD; cases hD)]
          clear hD hvt hdj hjl hcw HV
          generalize hc : l.getD (k + j) 0 = c at *
          go_wp2_with (go_at_call 47; refine (cd _).mono ?_; rintro e w' ⟨rfl, rfl⟩)
          go_ret2
          exact ⟨by rw [HN.out]; rfl, hbb⟩
      · have hjn : j = n := by omega
        subst hjn
        have HN : Hid (digL l k j = (valL ((l.drop k).take j), true)) := by
          show digL l k j = _
          unfold digL
          rw [if_pos ⟨hle, HA.out⟩]
        clear hcw
        go_wp2
        go_ret2
        exact ⟨by rw [HN.out]; rfl, hbb⟩
  · have i1 : (l.length : Int) < (k : Int) + (n : Int) := by omega
    have HN : Hid (digL l k n = (0, false)) := by
      show digL l k n = _
      unfold digL; rw [if_neg (fun h => hle h.1)]
    go_enter Tryd.func60, Tryd.ntmps60
    go_wp2
    go_ret2
    exact ⟨by rw [HN.out]; rfl, Below.refl _ _⟩
end Go.Proofs.YtkineofpclneaabDoor
