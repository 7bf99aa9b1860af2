/- What the document's Text comes to, kind by kind, where it comes to what it should at the kids. -/
import Derived.Test.YtfibbmdkpgageaaDoorPq30
namespace Go.Proofs.YtfibbmdkpgageaaDoor
open Go.RowKit Lx

set_option maxRecDepth 100000 in
set_option maxHeartbeats 8000000 in
theorem text_step_5 (a b1 : Int) (name : List UInt8) (kids : List Ex) (p : Option Addr) (c : Nat) (w : World) (least : Nat) (hks : kids = [] ∨ KidsX w (.slice p kids.length c) kids) (hok : OKE ⟨5, a, b1, name, kids⟩) (hPT : ∀ w', Below w.heap.size w w' → PowT w') (hl3 : least ≤ 3) :
    Calls Tryd.prog 35 #[.agg #[.int .i64 5, .int .i64 a, .int .i64 b1, .string ⟨name.toArray⟩, .slice p kids.length c], .int .i64 (least : Int)] w (OutX (textE ⟨5, a, b1, name, kids⟩ least) w) := by
  have hr : rangeP 5 a b1 = true := hok.kinds.2.2.2.1
  obtain ⟨k0, hk0, ho0⟩ := hok.kid0 (show 1 ≤ kidsP 5 by decide)
  have hln : kids.length = 1 := hok.kinds.2.2.1
  have hne : kids ≠ [] := fun e => by rw [e] at hln; cases hln
  dsimp only at hk0
  simp [rangeP] at hr
  have HT : Hid (textE ⟨5, a, b1, name, kids⟩ least = brk (decide (holdP 5 < least)) (bareP ⟨5, a, b1, name, kids⟩ (kidT kids))) := textE_eq _ _
  rw [bare_5 rfl] at HT
  try dsimp only at HT
  rw [kidT_at hk0] at HT
  rw [show holdP 5 = 2 by decide] at HT
  generalize textE ⟨5, a, b1, name, kids⟩ least = TXT at *
  obtain ⟨g, o, c', hsl, hkid⟩ := hks.resolve_left hne
  injection hsl with q1 q2 q3
  subst q1
  subst q3
  rw [hln]
  obtain ⟨p0, q0, d0', d1', d2', d3', d4', c0⟩ := hkid 0 k0 hk0
  clear hkid
  have hbA := (Below.refl w.heap.size w).alloc (Nat.le_refl _) (.cells #[.int .i64 5, .int .i64 a, .int .i64 b1, .string ⟨name.toArray⟩, .slice (some ⟨g, o, none⟩) 1 c] 60)
  have hxA := heap_alloc_new w (.cells #[.int .i64 5, .int .i64 a, .int .i64 b1, .string ⟨name.toArray⟩, .slice (some ⟨g, o, none⟩) 1 c] 60)
  generalize hwA : w.alloc (.cells #[.int .i64 5, .int .i64 a, .int .i64 b1, .string ⟨name.toArray⟩, .slice (some ⟨g, o, none⟩) 1 c] 60) = wA at *
  have z0 := (cell_of_row _ _ 0 _ _ _ hxA).trans rfl
  have d0 : wA.cell? ⟨g, o, none⟩ = _ := (hbA.cell (block_lt_of_cell d0')).trans d0'
  have d1 : wA.cell? ⟨g, o + 1, none⟩ = _ := (hbA.cell (block_lt_of_cell d1')).trans d1'
  have d2 : wA.cell? ⟨g, o + 2, none⟩ = _ := (hbA.cell (block_lt_of_cell d2')).trans d2'
  have d3 : wA.cell? ⟨g, o + 3, none⟩ = _ := (hbA.cell (block_lt_of_cell d3')).trans d3'
  have d4 : wA.cell? ⟨g, o + 4, none⟩ = _ := (hbA.cell (block_lt_of_cell d4')).trans d4'
  have z4 := (cell_of_row _ _ 4 _ _ _ hxA).trans rfl
  have z1 := (cell_of_row _ _ 1 _ _ _ hxA).trans rfl
  have z2 := (cell_of_row _ _ 2 _ _ _ hxA).trans rfl
  have l0 := ho0.len 2
  have cD := rday_any a (by omega) (by omega) wA (fun w' hw => hPT w' (hbA.trans (hw.mono hbA.size)))
  have cE := fun (W : World) (hW : Below w.heap.size w W) => rday_any b1 (by omega) (by omega) W (fun w' hw => hPT w' (hW.trans (hw.mono hW.size)))
  have cA := fun (W : World) (hW : Below w.heap.size w W) => c0 W 2 hW (by omega) (fun _ => by omega)
  unfold OutX at cA
  have lA := date_len a
  have lB := date_len b1
  clear c0 hok hks hk0 hln hne ho0 hPT
  generalize textE k0 2 = T0 at *
  unfold datesL at HT
  by_cases hab : a = b1
  · rw [if_pos hab] at HT
    have bab : (a != b1) = false := by simpa using hab
    clear hab cE
    generalize dateL a = A at *

    have l1 : ¬ 9223372036854775807 < 6 + A.length := by omega
    have l2 : ¬ 9223372036854775807 < 6 + A.length + 2 := by omega
    have l3 : ¬ 9223372036854775807 < 6 + A.length + 2 + T0.length := by omega
    go_enter Tryd.func35, Tryd.ntmps35
    go_wp2_with fail
    refine cD.mono ?_
    rintro r w1 ⟨rfl, hb1⟩
    have hb1w := hbA.trans (hb1.mono hbA.size)
    have y1 := (hb1.cell (block_lt_of_cell z1)).trans z1
    have y2 := (hb1.cell (block_lt_of_cell z2)).trans z2
    have y4 := (hb1.cell (block_lt_of_cell z4)).trans z4
    have f0 := (hb1.cell (block_lt_of_cell d0)).trans d0
    have f1 := (hb1.cell (block_lt_of_cell d1)).trans d1
    have f2 := (hb1.cell (block_lt_of_cell d2)).trans d2
    have f3 := (hb1.cell (block_lt_of_cell d3)).trans d3
    have f4 := (hb1.cell (block_lt_of_cell d4)).trans d4
    have cA1 := cA w1 hb1w
    clear cD cA z0 z1 z2 z4 d0 d1 d2 d3 d4
    go_wp2_with fail
    refine cA1.mono ?_
    rintro r w3 ⟨rfl, hb3⟩
    clear cA1
    have hbel := hb1w.trans (hb3.mono hb1w.size)
    have HT2 : Hid (TXT = brk (decide (2 < least)) ([100, 97, 116, 101, 115, 32] ++ (A ++ 58 :: 32 :: T0))) := by show _ = _; rw [HT.out]; simp
    have q1 : ¬ 9223372036854775807 < 1 + ([100, 97, 116, 101, 115, 32] ++ (A ++ 58 :: 32 :: T0)).length := by simp; omega
    by_cases hh : 2 < least
    · have hg : (2 : Int) < (least : Int) := by omega
      have e9 : TXT = [40] ++ ([100, 97, 116, 101, 115, 32] ++ (A ++ 58 :: 32 :: T0)) ++ [41] := by rw [HT2.out, decide_eq_true hh]; rfl
      clear HT HT2
      go_wp2_with fail
      all_goals first
        | (exfalso; simp at *; omega)
        | (go_ret; exact ⟨congrArg Ending.returned (str_of (by rw [e9]; simp)), hbel⟩)
    · have hg : ¬ (2 : Int) < (least : Int) := by omega
      have e9 : TXT = [100, 97, 116, 101, 115, 32] ++ (A ++ 58 :: 32 :: T0) := by rw [HT2.out, decide_eq_false hh]; rfl
      clear HT HT2
      go_wp2_with fail
      go_ret
      exact ⟨congrArg Ending.returned (str_of (by rw [e9]; simp)), hbel⟩
  · rw [if_neg hab] at HT
    have bab : (a != b1) = true := by simpa using hab
    clear hab
    generalize dateL a = A at *
    generalize dateL b1 = D at *
    have l1 : ¬ 9223372036854775807 < 6 + A.length := by omega
    have l2 : ¬ 9223372036854775807 < 6 + A.length + 2 := by omega
    have l4 : ¬ 9223372036854775807 < 6 + A.length + 2 + D.length := by omega
    have l5 : ¬ 9223372036854775807 < 6 + A.length + 2 + D.length + 2 := by omega
    have l3 : ¬ 9223372036854775807 < 6 + A.length + 2 + D.length + 2 + T0.length := by omega
    go_enter Tryd.func35, Tryd.ntmps35
    go_wp2_with fail
    refine cD.mono ?_
    rintro r w1 ⟨rfl, hb1⟩
    have hb1w := hbA.trans (hb1.mono hbA.size)
    have y1 := (hb1.cell (block_lt_of_cell z1)).trans z1
    have y2 := (hb1.cell (block_lt_of_cell z2)).trans z2
    have y4 := (hb1.cell (block_lt_of_cell z4)).trans z4
    have f0 := (hb1.cell (block_lt_of_cell d0)).trans d0
    have f1 := (hb1.cell (block_lt_of_cell d1)).trans d1
    have f2 := (hb1.cell (block_lt_of_cell d2)).trans d2
    have f3 := (hb1.cell (block_lt_of_cell d3)).trans d3
    have f4 := (hb1.cell (block_lt_of_cell d4)).trans d4
    have cE1 := cE w1 hb1w
    clear cD cE z0 z1 z2 z4 d0 d1 d2 d3 d4
    go_wp2_with fail
    refine cE1.mono ?_
    rintro r w2 ⟨rfl, hb2⟩
    clear cE1
    have hb2w := hb1w.trans (hb2.mono hb1w.size)
    have x4 := (hb2.cell (block_lt_of_cell y4)).trans y4
    have m0 := (hb2.cell (block_lt_of_cell f0)).trans f0
    have m1 := (hb2.cell (block_lt_of_cell f1)).trans f1
    have m2 := (hb2.cell (block_lt_of_cell f2)).trans f2
    have m3 := (hb2.cell (block_lt_of_cell f3)).trans f3
    have m4 := (hb2.cell (block_lt_of_cell f4)).trans f4
    have cA1 := cA w2 hb2w
    clear cA y1 y2 y4 f0 f1 f2 f3 f4
    go_wp2_with fail
    refine cA1.mono ?_
    rintro r w3 ⟨rfl, hb3⟩
    clear cA1
    have hbel := hb2w.trans (hb3.mono hb2w.size)
    have HT2 : Hid (TXT = brk (decide (2 < least)) ([100, 97, 116, 101, 115, 32] ++ (A ++ 46 :: 46 :: (D ++ 58 :: 32 :: T0)))) := by show _ = _; rw [HT.out]; simp
    have q1 : ¬ 9223372036854775807 < 1 + ([100, 97, 116, 101, 115, 32] ++ (A ++ 46 :: 46 :: (D ++ 58 :: 32 :: T0))).length := by simp; omega
    by_cases hh : 2 < least
    · have hg : (2 : Int) < (least : Int) := by omega
      have e9 : TXT = [40] ++ ([100, 97, 116, 101, 115, 32] ++ (A ++ 46 :: 46 :: (D ++ 58 :: 32 :: T0))) ++ [41] := by rw [HT2.out, decide_eq_true hh]; rfl
      clear HT HT2
      go_wp2_with fail
      all_goals first
        | (exfalso; simp at *; omega)
        | (go_ret; exact ⟨congrArg Ending.returned (str_of (by rw [e9]; simp)), hbel⟩)
    · have hg : ¬ (2 : Int) < (least : Int) := by omega
      have e9 : TXT = [100, 97, 116, 101, 115, 32] ++ (A ++ 46 :: 46 :: (D ++ 58 :: 32 :: T0)) := by rw [HT2.out, decide_eq_false hh]; rfl
      clear HT HT2
      go_wp2_with fail
      go_ret
      exact ⟨congrArg Ending.returned (str_of (by rw [e9]; simp)), hbel⟩
set_option maxRecDepth 100000 in
set_option maxHeartbeats 8000000 in
theorem text_step_4 (a b1 : Int) (name : List UInt8) (kids : List Ex) (p : Option Addr) (c : Nat) (w : World) (least : Nat) (hks : kids = [] ∨ KidsX w (.slice p kids.length c) kids) (hok : OKE ⟨4, a, b1, name, kids⟩) (_hPT : ∀ w', Below w.heap.size w w' → PowT w') (hl3 : least ≤ 3) :
    Calls Tryd.prog 35 #[.agg #[.int .i64 4, .int .i64 a, .int .i64 b1, .string ⟨name.toArray⟩, .slice p kids.length c], .int .i64 (least : Int)] w (OutX (textE ⟨4, a, b1, name, kids⟩ least) w) := by
  have hr : rangeP 4 a b1 = true := hok.kinds.2.2.2.1
  obtain ⟨k0, hk0, ho0⟩ := hok.kid0 (show 1 ≤ kidsP 4 by decide)
  have hln : kids.length = 1 := hok.kinds.2.2.1
  have hne : kids ≠ [] := fun e => by rw [e] at hln; cases hln
  dsimp only at hk0
  simp [rangeP] at hr
  have HT : Hid (textE ⟨4, a, b1, name, kids⟩ least = brk (decide (holdP 4 < least)) (bareP ⟨4, a, b1, name, kids⟩ (kidT kids))) := textE_eq _ _
  rw [bare_4 rfl] at HT
  try dsimp only at HT
  rw [kidT_at hk0] at HT
  rw [show holdP 4 = 2 by decide] at HT
  generalize textE ⟨4, a, b1, name, kids⟩ least = TXT at *
  obtain ⟨g, o, c', hsl, hkid⟩ := hks.resolve_left hne
  injection hsl with q1 q2 q3
  subst q1
  subst q3
  rw [hln]
  obtain ⟨p0, q0, d0', d1', d2', d3', d4', c0⟩ := hkid 0 k0 hk0
  clear hkid
  have hbA := (Below.refl w.heap.size w).alloc (Nat.le_refl _) (.cells #[.int .i64 4, .int .i64 a, .int .i64 b1, .string ⟨name.toArray⟩, .slice (some ⟨g, o, none⟩) 1 c] 60)
  have hxA := heap_alloc_new w (.cells #[.int .i64 4, .int .i64 a, .int .i64 b1, .string ⟨name.toArray⟩, .slice (some ⟨g, o, none⟩) 1 c] 60)
  generalize hwA : w.alloc (.cells #[.int .i64 4, .int .i64 a, .int .i64 b1, .string ⟨name.toArray⟩, .slice (some ⟨g, o, none⟩) 1 c] 60) = wA at *
  have z0 := (cell_of_row _ _ 0 _ _ _ hxA).trans rfl
  have hbD := hbA.trans (((Below.refl wA.heap.size wA).alloc (Nat.le_refl _) (.cells #[.string ⟨#[109, 111, 110]⟩, .string ⟨#[116, 117, 101]⟩, .string ⟨#[119, 101, 100]⟩, .string ⟨#[116, 104, 117]⟩, .string ⟨#[102, 114, 105]⟩, .string ⟨#[115, 97, 116]⟩, .string ⟨#[115, 117, 110]⟩] 9)).mono hbA.size)
  have hxD := heap_alloc_new wA (.cells #[.string ⟨#[109, 111, 110]⟩, .string ⟨#[116, 117, 101]⟩, .string ⟨#[119, 101, 100]⟩, .string ⟨#[116, 104, 117]⟩, .string ⟨#[102, 114, 105]⟩, .string ⟨#[115, 97, 116]⟩, .string ⟨#[115, 117, 110]⟩] 9)
  have hxB := (Below.heap_alloc wA (.cells #[.string ⟨#[109, 111, 110]⟩, .string ⟨#[116, 117, 101]⟩, .string ⟨#[119, 101, 100]⟩, .string ⟨#[116, 104, 117]⟩, .string ⟨#[102, 114, 105]⟩, .string ⟨#[115, 97, 116]⟩, .string ⟨#[115, 117, 110]⟩] 9) _ (lt_of_block hxA)).trans hxA
  generalize hwD : wA.alloc (.cells #[.string ⟨#[109, 111, 110]⟩, .string ⟨#[116, 117, 101]⟩, .string ⟨#[119, 101, 100]⟩, .string ⟨#[116, 104, 117]⟩, .string ⟨#[102, 114, 105]⟩, .string ⟨#[115, 97, 116]⟩, .string ⟨#[115, 117, 110]⟩] 9) = wD at *
  have d0 : wD.cell? ⟨g, o, none⟩ = _ := (hbD.cell (block_lt_of_cell d0')).trans d0'
  have d1 : wD.cell? ⟨g, o + 1, none⟩ = _ := (hbD.cell (block_lt_of_cell d1')).trans d1'
  have d2 : wD.cell? ⟨g, o + 2, none⟩ = _ := (hbD.cell (block_lt_of_cell d2')).trans d2'
  have d3 : wD.cell? ⟨g, o + 3, none⟩ = _ := (hbD.cell (block_lt_of_cell d3')).trans d3'
  have d4 : wD.cell? ⟨g, o + 4, none⟩ = _ := (hbD.cell (block_lt_of_cell d4')).trans d4'
  have z4 := (cell_of_row _ _ 4 _ _ _ hxB).trans rfl
  have z1 := (cell_of_row _ _ 1 _ _ _ hxB).trans rfl
  have s0 := (cell_of_row _ _ 0 _ _ _ hxD).trans rfl
  have s1 := (cell_of_row _ _ 1 _ _ _ hxD).trans rfl
  have s2 := (cell_of_row _ _ 2 _ _ _ hxD).trans rfl
  have s3 := (cell_of_row _ _ 3 _ _ _ hxD).trans rfl
  have s4 := (cell_of_row _ _ 4 _ _ _ hxD).trans rfl
  have s5 := (cell_of_row _ _ 5 _ _ _ hxD).trans rfl
  have s6 := (cell_of_row _ _ 6 _ _ _ hxD).trans rfl
  have l0 := ho0.len 2
  have cA := fun (W : World) (hW : Below wD.heap.size wD W) => c0 W 2 (hbD.trans (hW.mono hbD.size)) (by omega) (fun _ => by omega)
  unfold OutX at cA
  have lD := days_len (a := a) (by omega) (by omega)
  clear c0 hok hks hk0 hln hne ho0 _hPT
  generalize textE k0 2 = T0 at *
  go_enter Tryd.func35, Tryd.ntmps35
  go_wp2_with fail
  clear hwA hwD z0
  go_loopw [5, 8, 9, 118] (fun s _ _ t wr => ∃ j : Nat, t = .int .i64 (j : Int) ∧ j ≤ 7 ∧ s = .string ⟨(cm a j).toArray⟩ ∧ Below wD.heap.size wD wr) (fun _ _ _ t _ => 7 - (intOf t).toNat)
  case atStart => exact ⟨0, rfl, by omega, rfl, Below.refl _ _⟩
  case round =>
    obtain ⟨j, rfl, hj, rfl, hbr⟩ := hrel
    by_cases hlt : j < 7
    · have hj7 : j = 0 ∨ j = 1 ∨ j = 2 ∨ j = 3 ∨ j = 4 ∨ j = 5 ∨ j = 6 := by omega
      rcases hj7 with rfl | rfl | rfl | rfl | rfl | rfl | rfl
      · cases hon : dayOn a 0 with
        | false =>
          have hbit := and_day a 0 (by omega) (by omega) (by omega)
          rw [hon] at hbit
          have HU : Hid (cm a (0 + 1) = cm a 0) := cm_off hon
          clear hon
          simp at hbit
          have y1 := (hbr.cell (block_lt_of_cell z1)).trans z1
          have xs := (hbr.cell (block_lt_of_cell s0)).trans s0
          go_wp2_with fail
          go_quiet (fail)
          go_wp2_with fail
          go_roundw
          case rel => exact ⟨0 + 1, by first | rfl | go_num, by omega, by rw [HU.out], below_drewN hbr _⟩
          case measure => simp [intOf]
        | true =>
          have hbit := and_day a 0 (by omega) (by omega) (by omega)
          rw [hon] at hbit
          have HU : Hid (cm a (0 + 1) = cm a 0 ++ 44 :: [109, 111, 110]) := cm_on hon
          clear hon
          simp at hbit
          have y1 := (hbr.cell (block_lt_of_cell z1)).trans z1
          have xs := (hbr.cell (block_lt_of_cell s0)).trans s0
          have hcl := cm_len a 0
          generalize cm a 0 = U at *
          have u1 : ¬ 9223372036854775807 < U.length + 1 := by omega
          have u2 : ¬ 9223372036854775807 < U.length + 1 + 3 := by omega
          go_wp2_with fail
          go_quiet (fail)
          go_wp2_with fail
          go_roundw
          case rel => exact ⟨0 + 1, by first | rfl | go_num, by omega, by rw [HU.out]; exact str_of (by simp), below_drewN hbr _⟩
          case measure => simp [intOf]
      · cases hon : dayOn a 1 with
        | false =>
          have hbit := and_day a 1 (by omega) (by omega) (by omega)
          rw [hon] at hbit
          have HU : Hid (cm a (1 + 1) = cm a 1) := cm_off hon
          clear hon
          simp at hbit
          have y1 := (hbr.cell (block_lt_of_cell z1)).trans z1
          have xs := (hbr.cell (block_lt_of_cell s1)).trans s1
          go_wp2_with fail
          go_quiet (fail)
          go_wp2_with fail
          go_roundw
          case rel => exact ⟨1 + 1, by first | rfl | go_num, by omega, by rw [HU.out], below_drewN hbr _⟩
          case measure => simp [intOf]
        | true =>
          have hbit := and_day a 1 (by omega) (by omega) (by omega)
          rw [hon] at hbit
          have HU : Hid (cm a (1 + 1) = cm a 1 ++ 44 :: [116, 117, 101]) := cm_on hon
          clear hon
          simp at hbit
          have y1 := (hbr.cell (block_lt_of_cell z1)).trans z1
          have xs := (hbr.cell (block_lt_of_cell s1)).trans s1
          have hcl := cm_len a 1
          generalize cm a 1 = U at *
          have u1 : ¬ 9223372036854775807 < U.length + 1 := by omega
          have u2 : ¬ 9223372036854775807 < U.length + 1 + 3 := by omega
          go_wp2_with fail
          go_quiet (fail)
          go_wp2_with fail
          go_roundw
          case rel => exact ⟨1 + 1, by first | rfl | go_num, by omega, by rw [HU.out]; exact str_of (by simp), below_drewN hbr _⟩
          case measure => simp [intOf]
      · cases hon : dayOn a 2 with
        | false =>
          have hbit := and_day a 2 (by omega) (by omega) (by omega)
          rw [hon] at hbit
          have HU : Hid (cm a (2 + 1) = cm a 2) := cm_off hon
          clear hon
          simp at hbit
          have y1 := (hbr.cell (block_lt_of_cell z1)).trans z1
          have xs := (hbr.cell (block_lt_of_cell s2)).trans s2
          go_wp2_with fail
          go_quiet (fail)
          go_wp2_with fail
          go_roundw
          case rel => exact ⟨2 + 1, by first | rfl | go_num, by omega, by rw [HU.out], below_drewN hbr _⟩
          case measure => simp [intOf]
        | true =>
          have hbit := and_day a 2 (by omega) (by omega) (by omega)
          rw [hon] at hbit
          have HU : Hid (cm a (2 + 1) = cm a 2 ++ 44 :: [119, 101, 100]) := cm_on hon
          clear hon
          simp at hbit
          have y1 := (hbr.cell (block_lt_of_cell z1)).trans z1
          have xs := (hbr.cell (block_lt_of_cell s2)).trans s2
          have hcl := cm_len a 2
          generalize cm a 2 = U at *
          have u1 : ¬ 9223372036854775807 < U.length + 1 := by omega
          have u2 : ¬ 9223372036854775807 < U.length + 1 + 3 := by omega
          go_wp2_with fail
          go_quiet (fail)
          go_wp2_with fail
          go_roundw
          case rel => exact ⟨2 + 1, by first | rfl | go_num, by omega, by rw [HU.out]; exact str_of (by simp), below_drewN hbr _⟩
          case measure => simp [intOf]
      · cases hon : dayOn a 3 with
        | false =>
          have hbit := and_day a 3 (by omega) (by omega) (by omega)
          rw [hon] at hbit
          have HU : Hid (cm a (3 + 1) = cm a 3) := cm_off hon
          clear hon
          simp at hbit
          have y1 := (hbr.cell (block_lt_of_cell z1)).trans z1
          have xs := (hbr.cell (block_lt_of_cell s3)).trans s3
          go_wp2_with fail
          go_quiet (fail)
          go_wp2_with fail
          go_roundw
          case rel => exact ⟨3 + 1, by first | rfl | go_num, by omega, by rw [HU.out], below_drewN hbr _⟩
          case measure => simp [intOf]
        | true =>
          have hbit := and_day a 3 (by omega) (by omega) (by omega)
          rw [hon] at hbit
          have HU : Hid (cm a (3 + 1) = cm a 3 ++ 44 :: [116, 104, 117]) := cm_on hon
          clear hon
          simp at hbit
          have y1 := (hbr.cell (block_lt_of_cell z1)).trans z1
          have xs := (hbr.cell (block_lt_of_cell s3)).trans s3
          have hcl := cm_len a 3
          generalize cm a 3 = U at *
          have u1 : ¬ 9223372036854775807 < U.length + 1 := by omega
          have u2 : ¬ 9223372036854775807 < U.length + 1 + 3 := by omega
          go_wp2_with fail
          go_quiet (fail)
          go_wp2_with fail
          go_roundw
          case rel => exact ⟨3 + 1, by first | rfl | go_num, by omega, by rw [HU.out]; exact str_of (by simp), below_drewN hbr _⟩
          case measure => simp [intOf]
      · cases hon : dayOn a 4 with
        | false =>
          have hbit := and_day a 4 (by omega) (by omega) (by omega)
          rw [hon] at hbit
          have HU : Hid (cm a (4 + 1) = cm a 4) := cm_off hon
          clear hon
          simp at hbit
          have y1 := (hbr.cell (block_lt_of_cell z1)).trans z1
          have xs := (hbr.cell (block_lt_of_cell s4)).trans s4
          go_wp2_with fail
          go_quiet (fail)
          go_wp2_with fail
          go_roundw
          case rel => exact ⟨4 + 1, by first | rfl | go_num, by omega, by rw [HU.out], below_drewN hbr _⟩
          case measure => simp [intOf]
        | true =>
          have hbit := and_day a 4 (by omega) (by omega) (by omega)
          rw [hon] at hbit
          have HU : Hid (cm a (4 + 1) = cm a 4 ++ 44 :: [102, 114, 105]) := cm_on hon
          clear hon
          simp at hbit
          have y1 := (hbr.cell (block_lt_of_cell z1)).trans z1
          have xs := (hbr.cell (block_lt_of_cell s4)).trans s4
          have hcl := cm_len a 4
          generalize cm a 4 = U at *
          have u1 : ¬ 9223372036854775807 < U.length + 1 := by omega
          have u2 : ¬ 9223372036854775807 < U.length + 1 + 3 := by omega
          go_wp2_with fail
          go_quiet (fail)
          go_wp2_with fail
          go_roundw
          case rel => exact ⟨4 + 1, by first | rfl | go_num, by omega, by rw [HU.out]; exact str_of (by simp), below_drewN hbr _⟩
          case measure => simp [intOf]
      · cases hon : dayOn a 5 with
        | false =>
          have hbit := and_day a 5 (by omega) (by omega) (by omega)
          rw [hon] at hbit
          have HU : Hid (cm a (5 + 1) = cm a 5) := cm_off hon
          clear hon
          simp at hbit
          have y1 := (hbr.cell (block_lt_of_cell z1)).trans z1
          have xs := (hbr.cell (block_lt_of_cell s5)).trans s5
          go_wp2_with fail
          go_quiet (fail)
          go_wp2_with fail
          go_roundw
          case rel => exact ⟨5 + 1, by first | rfl | go_num, by omega, by rw [HU.out], below_drewN hbr _⟩
          case measure => simp [intOf]
        | true =>
          have hbit := and_day a 5 (by omega) (by omega) (by omega)
          rw [hon] at hbit
          have HU : Hid (cm a (5 + 1) = cm a 5 ++ 44 :: [115, 97, 116]) := cm_on hon
          clear hon
          simp at hbit
          have y1 := (hbr.cell (block_lt_of_cell z1)).trans z1
          have xs := (hbr.cell (block_lt_of_cell s5)).trans s5
          have hcl := cm_len a 5
          generalize cm a 5 = U at *
          have u1 : ¬ 9223372036854775807 < U.length + 1 := by omega
          have u2 : ¬ 9223372036854775807 < U.length + 1 + 3 := by omega
          go_wp2_with fail
          go_quiet (fail)
          go_wp2_with fail
          go_roundw
          case rel => exact ⟨5 + 1, by first | rfl | go_num, by omega, by rw [HU.out]; exact str_of (by simp), below_drewN hbr _⟩
          case measure => simp [intOf]
      · cases hon : dayOn a 6 with
        | false =>
          have hbit := and_day a 6 (by omega) (by omega) (by omega)
          rw [hon] at hbit
          have HU : Hid (cm a (6 + 1) = cm a 6) := cm_off hon
          clear hon
          simp at hbit
          have y1 := (hbr.cell (block_lt_of_cell z1)).trans z1
          have xs := (hbr.cell (block_lt_of_cell s6)).trans s6
          go_wp2_with fail
          go_quiet (fail)
          go_wp2_with fail
          go_roundw
          case rel => exact ⟨6 + 1, by first | rfl | go_num, by omega, by rw [HU.out], below_drewN hbr _⟩
          case measure => simp [intOf]
        | true =>
          have hbit := and_day a 6 (by omega) (by omega) (by omega)
          rw [hon] at hbit
          have HU : Hid (cm a (6 + 1) = cm a 6 ++ 44 :: [115, 117, 110]) := cm_on hon
          clear hon
          simp at hbit
          have y1 := (hbr.cell (block_lt_of_cell z1)).trans z1
          have xs := (hbr.cell (block_lt_of_cell s6)).trans s6
          have hcl := cm_len a 6
          generalize cm a 6 = U at *
          have u1 : ¬ 9223372036854775807 < U.length + 1 := by omega
          have u2 : ¬ 9223372036854775807 < U.length + 1 + 3 := by omega
          go_wp2_with fail
          go_quiet (fail)
          go_wp2_with fail
          go_roundw
          case rel => exact ⟨6 + 1, by first | rfl | go_num, by omega, by rw [HU.out]; exact str_of (by simp), below_drewN hbr _⟩
          case measure => simp [intOf]
    · obtain rfl : j = 7 := by omega
      obtain ⟨hU0, hU1, hUl⟩ := cm_days (a := a) (by omega) (by omega)
      generalize cm a 7 = U at *
      generalize daysL a = D at *
      have hUl' : (1 : Int) ≤ (U.length : Int) := by omega
      have hU2 : D.length = U.length - 1 := by rw [← hU1, List.length_drop]
      go_wp2_with fail
      refine wp_region_wals (by kernel_rfl) (by kernel_rfl) (by kernel_rfl) (by kernel_rfl) [(134, .string ⟨(U).toArray⟩), (135, .string ⟨(D).toArray⟩), (136, .string ⟨(119 :: 101 :: 101 :: 107 :: 108 :: 121 :: 32 :: D).toArray⟩), (137, .string ⟨(119 :: 101 :: 101 :: 107 :: 108 :: 121 :: 32 :: (D ++ [58, 32])).toArray⟩), (138, .pointer (some ⟨w.heap.size, 4, none⟩)), (139, .slice (some ⟨g, o, none⟩) 1 c), (140, .pointer (some ⟨g, o, none⟩)), (141, .agg #[.int .i64 k0.kind, .int .i64 k0.a, .int .i64 k0.b, .string ⟨k0.name.toArray⟩, .slice p0 k0.kids.length q0]), (142, .string ⟨(T0).toArray⟩), (143, .string ⟨(119 :: 101 :: 101 :: 107 :: 108 :: 121 :: 32 :: (D ++ 58 :: 32 :: T0)).toArray⟩), (5, .string ⟨(119 :: 101 :: 101 :: 107 :: 108 :: 121 :: 32 :: (D ++ 58 :: 32 :: T0)).toArray⟩), (6, .int .i64 2)] (by kernel_rfl) (by kernel_rfl) ?_ ?_
      · intro i s v o L A W ho hv hdep hJ hkept hhas hLi hc hk2
        match i, ho, hv with
        | 0, ho, hv =>
          cases Option.some.inj ho
          cases Option.some.inj hv
          have hk5 : L 10 = false := by
            cases hq : L 10 with
            | false => rfl
            | true =>
              have r9 : L 9 = true := hc 10 _ rfl hq ⟨9, .data⟩ (by simp) rfl
              have r3 : L 3 = true := hc 9 _ rfl r9 ⟨3, .data⟩ (by simp) rfl
              have r2 : L 2 = true := hc 3 _ rfl r3 ⟨2, .data⟩ (by simp) rfl
              have r1 : L 1 = true := hc 2 _ rfl r2 ⟨1, .data⟩ (by simp) rfl
              have r0 : L 0 = true := hc 1 _ rfl r1 ⟨0, .data⟩ (by simp) rfl
              rw [hLi] at r0; cases r0
          have h5 : A.tmps[5]?.getD undef = .string ⟨(U).toArray⟩ := (gd A 5).trans (hk2 5 10 (by kernel_rfl) hk5)
          refine wpOp_step rfl (fun K hK => ?_)
          go_simp
          exact hK _ _ ⟨rfl, Below.refl _ _⟩
        | 1, ho, hv =>
          cases Option.some.inj ho
          cases Option.some.inj hv
          have h134 : A.tmps[134]?.getD undef = .string ⟨(U).toArray⟩ := (gd A 134).trans (hhas 0 134 _ rfl (hdep ⟨0, .data⟩ (by simp) rfl))
          have hu1 := hU1
          refine wpOp_step rfl (fun K hK => ?_)
          go_simp
          exact hK _ _ ⟨congrArg (A.put (some 135)) (str_of (by simp [hu1]; exact List.take_of_length_le (by omega))), Below.refl _ _⟩
        | 2, ho, hv =>
          cases Option.some.inj ho
          cases Option.some.inj hv
          have h135 : A.tmps[135]?.getD undef = .string ⟨(D).toArray⟩ := (gd A 135).trans (hhas 1 135 _ rfl (hdep ⟨1, .data⟩ (by simp) rfl))
          refine wpOp_step rfl (fun K hK => ?_)
          go_simp
          try rw [if_neg (by omega)]
          exact hK _ _ ⟨congrArg (A.put (some 136)) (str_of (by simp)), Below.refl _ _⟩
        | 3, ho, hv =>
          cases Option.some.inj ho
          cases Option.some.inj hv
          have h136 : A.tmps[136]?.getD undef = .string ⟨(119 :: 101 :: 101 :: 107 :: 108 :: 121 :: 32 :: D).toArray⟩ := (gd A 136).trans (hhas 2 136 _ rfl (hdep ⟨2, .data⟩ (by simp) rfl))
          refine wpOp_step rfl (fun K hK => ?_)
          go_simp
          try rw [if_neg (by omega)]
          exact hK _ _ ⟨congrArg (A.put (some 137)) (str_of (by simp)), Below.refl _ _⟩
        | 4, ho, hv =>
          cases Option.some.inj ho
          cases Option.some.inj hv
          have h2 : A.tmps[2]?.getD undef = .pointer (some ⟨w.heap.size, 0, none⟩) := (gd A 2).trans (hkept 2 (by kernel_rfl))
          refine wpOp_step rfl (fun K hK => ?_)
          go_simp
          exact hK _ _ ⟨rfl, Below.refl _ _⟩
        | 5, ho, hv =>
          cases Option.some.inj ho
          cases Option.some.inj hv
          have h138 : A.tmps[138]?.getD undef = .pointer (some ⟨w.heap.size, 4, none⟩) := (gd A 138).trans (hhas 4 138 _ rfl (hdep ⟨4, .data⟩ (by simp) rfl))
          have hJw := hbr.trans (hJ.mono hbr.size)
          have z4W : W.cell? ⟨w.heap.size, 4, none⟩ = some (.slice (some ⟨g, o, none⟩) 1 c) := (hJw.cell (block_lt_of_cell z4)).trans z4
          refine wpOp_step rfl (fun K hK => ?_)
          go_simp
          exact hK _ _ ⟨rfl, Below.refl _ _⟩
        | 6, ho, hv =>
          cases Option.some.inj ho
          cases Option.some.inj hv
          have h139 : A.tmps[139]?.getD undef = .slice (some ⟨g, o, none⟩) 1 c := (gd A 139).trans (hhas 5 139 _ rfl (hdep ⟨5, .data⟩ (by simp) rfl))
          refine wpOp_step rfl (fun K hK => ?_)
          go_simp
          exact hK _ _ ⟨rfl, Below.refl _ _⟩
        | 7, ho, hv =>
          cases Option.some.inj ho
          cases Option.some.inj hv
          have h140 : A.tmps[140]?.getD undef = .pointer (some ⟨g, o, none⟩) := (gd A 140).trans (hhas 6 140 _ rfl (hdep ⟨6, .data⟩ (by simp) rfl))
          have hJw := hbr.trans (hJ.mono hbr.size)
          have d0W : W.cell? ⟨g, o, none⟩ = some (.int .i64 k0.kind) := (hJw.cell (block_lt_of_cell d0)).trans d0
          have d1W : W.cell? ⟨g, o + 1, none⟩ = some (.int .i64 k0.a) := (hJw.cell (block_lt_of_cell d1)).trans d1
          have d2W : W.cell? ⟨g, o + 2, none⟩ = some (.int .i64 k0.b) := (hJw.cell (block_lt_of_cell d2)).trans d2
          have d3W : W.cell? ⟨g, o + 3, none⟩ = some (.string ⟨k0.name.toArray⟩) := (hJw.cell (block_lt_of_cell d3)).trans d3
          have d4W : W.cell? ⟨g, o + 4, none⟩ = some (.slice p0 k0.kids.length q0) := (hJw.cell (block_lt_of_cell d4)).trans d4
          refine wpOp_step rfl (fun K hK => ?_)
          go_simp
          exact hK _ _ ⟨rfl, Below.refl _ _⟩
        | 8, ho, hv =>
          cases Option.some.inj ho
          cases Option.some.inj hv
          have h141 : A.tmps[141]?.getD undef = .agg #[.int .i64 k0.kind, .int .i64 k0.a, .int .i64 k0.b, .string ⟨k0.name.toArray⟩, .slice p0 k0.kids.length q0] := (gd A 141).trans (hhas 7 141 _ rfl (hdep ⟨7, .data⟩ (by simp) rfl))
          have hJw := hbr.trans (hJ.mono hbr.size)
          refine wpOp_step rfl (fun K hK => ?_)
          go_simp
          refine (cA W hJw).mono ?_
          rintro e' W' ⟨rfl, hb'⟩
          exact hK _ _ ⟨rfl, hb'⟩
        | 9, ho, hv =>
          cases Option.some.inj ho
          cases Option.some.inj hv
          have h137 : A.tmps[137]?.getD undef = .string ⟨(119 :: 101 :: 101 :: 107 :: 108 :: 121 :: 32 :: (D ++ [58, 32])).toArray⟩ := (gd A 137).trans (hhas 3 137 _ rfl (hdep ⟨3, .data⟩ (by simp) rfl))
          have h142 : A.tmps[142]?.getD undef = .string ⟨(T0).toArray⟩ := (gd A 142).trans (hhas 8 142 _ rfl (hdep ⟨8, .data⟩ (by simp) rfl))
          refine wpOp_step rfl (fun K hK => ?_)
          go_simp
          try rw [if_neg (by omega)]
          exact hK _ _ ⟨congrArg (A.put (some 143)) (str_of (by simp)), Below.refl _ _⟩
        | 10, ho, hv =>
          cases Option.some.inj ho
          cases Option.some.inj hv
          have h143 : A.tmps[143]?.getD undef = .string ⟨(119 :: 101 :: 101 :: 107 :: 108 :: 121 :: 32 :: (D ++ 58 :: 32 :: T0)).toArray⟩ := (gd A 143).trans (hhas 9 143 _ rfl (hdep ⟨9, .data⟩ (by simp) rfl))
          refine wpOp_step rfl (fun K hK => ?_)
          go_simp
          exact hK _ _ ⟨rfl, Below.refl _ _⟩
        | 11, ho, hv =>
          cases Option.some.inj ho
          cases Option.some.inj hv
          refine wpOp_step rfl (fun K hK => ?_)
          go_simp
          exact hK _ _ ⟨rfl, Below.refl _ _⟩
        | k + 12, ho, hv => simp at ho
      · intro W hJ
        simp only [putAll_cons, putAll_nil]
        go_simp
        have hSl : (119 :: 101 :: 101 :: 107 :: 108 :: 121 :: 32 :: (D ++ 58 :: 32 :: T0)).length ≤ 100000 := by simp; omega
        have HT' : Hid (TXT = brk (decide (2 < least)) (119 :: 101 :: 101 :: 107 :: 108 :: 121 :: 32 :: (D ++ 58 :: 32 :: T0))) := by show _ = _; rw [HT.out]; simp
        clear HT
        generalize 119 :: 101 :: 101 :: 107 :: 108 :: 121 :: 32 :: (D ++ 58 :: 32 :: T0) = S0 at *
        have q1 : ¬ 9223372036854775807 < 1 + S0.length := by omega
        have q2 : ¬ 9223372036854775807 < 1 + S0.length + 1 := by omega
        by_cases hh : 2 < least
        · have hg : (2 : Int) < (least : Int) := by omega
          have e9 : TXT = [40] ++ S0 ++ [41] := by rw [HT'.out, decide_eq_true hh]; rfl
          go_wp2_with fail
          go_ret
          exact ⟨congrArg Ending.returned (str_of (by rw [e9]; simp)), hbD.trans ((hbr.trans (hJ.mono hbr.size)).mono hbD.size)⟩
        · have hg : ¬ (2 : Int) < (least : Int) := by omega
          have e9 : TXT = S0 := by rw [HT'.out, decide_eq_false hh]; rfl
          go_wp2_with fail
          go_ret
          exact ⟨congrArg Ending.returned (str_of (by first | rfl | rw [e9])), hbD.trans ((hbr.trans (hJ.mono hbr.size)).mono hbD.size)⟩
end Go.Proofs.YtfibbmdkpgageaaDoor
