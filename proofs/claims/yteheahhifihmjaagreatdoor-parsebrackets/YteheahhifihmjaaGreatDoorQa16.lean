/- What the program's texts of dates and of days come to. -/
import Derived.Test.YteheahhifihmjaaGreatDoorQa14
import Derived.Test.YteheahhifihmjaaGreatDoorQa15
import Derived.Test.YteheahhifihmjaaGreatDoorQa07
namespace Go.Proofs.YteheahhifihmjaaGreatDoor
open Go.RowKit Lx

theorem dayAt0 (w : World) : (Instr.index 92 (.agg #[.string ⟨#[109, 111, 110]⟩, .string ⟨#[116, 117, 101]⟩, .string ⟨#[119, 101, 100]⟩, .string ⟨#[116, 104, 117]⟩, .string ⟨#[102, 114, 105]⟩, .string ⟨#[115, 97, 116]⟩, .string ⟨#[115, 117, 110]⟩]) (.int .i64 0)).run Tryz.prog w = .ok (.string ⟨#[109, 111, 110]⟩) w := by
  unfold Instr.index
  simp [go_sem]
theorem dayAt1 (w : World) : (Instr.index 92 (.agg #[.string ⟨#[109, 111, 110]⟩, .string ⟨#[116, 117, 101]⟩, .string ⟨#[119, 101, 100]⟩, .string ⟨#[116, 104, 117]⟩, .string ⟨#[102, 114, 105]⟩, .string ⟨#[115, 97, 116]⟩, .string ⟨#[115, 117, 110]⟩]) (.int .i64 1)).run Tryz.prog w = .ok (.string ⟨#[116, 117, 101]⟩) w := by
  unfold Instr.index
  simp [go_sem]
theorem dayAt2 (w : World) : (Instr.index 92 (.agg #[.string ⟨#[109, 111, 110]⟩, .string ⟨#[116, 117, 101]⟩, .string ⟨#[119, 101, 100]⟩, .string ⟨#[116, 104, 117]⟩, .string ⟨#[102, 114, 105]⟩, .string ⟨#[115, 97, 116]⟩, .string ⟨#[115, 117, 110]⟩]) (.int .i64 2)).run Tryz.prog w = .ok (.string ⟨#[119, 101, 100]⟩) w := by
  unfold Instr.index
  simp [go_sem]
theorem dayAt3 (w : World) : (Instr.index 92 (.agg #[.string ⟨#[109, 111, 110]⟩, .string ⟨#[116, 117, 101]⟩, .string ⟨#[119, 101, 100]⟩, .string ⟨#[116, 104, 117]⟩, .string ⟨#[102, 114, 105]⟩, .string ⟨#[115, 97, 116]⟩, .string ⟨#[115, 117, 110]⟩]) (.int .i64 3)).run Tryz.prog w = .ok (.string ⟨#[116, 104, 117]⟩) w := by
  unfold Instr.index
  simp [go_sem]
theorem dayAt4 (w : World) : (Instr.index 92 (.agg #[.string ⟨#[109, 111, 110]⟩, .string ⟨#[116, 117, 101]⟩, .string ⟨#[119, 101, 100]⟩, .string ⟨#[116, 104, 117]⟩, .string ⟨#[102, 114, 105]⟩, .string ⟨#[115, 97, 116]⟩, .string ⟨#[115, 117, 110]⟩]) (.int .i64 4)).run Tryz.prog w = .ok (.string ⟨#[102, 114, 105]⟩) w := by
  unfold Instr.index
  simp [go_sem]
theorem dayAt5 (w : World) : (Instr.index 92 (.agg #[.string ⟨#[109, 111, 110]⟩, .string ⟨#[116, 117, 101]⟩, .string ⟨#[119, 101, 100]⟩, .string ⟨#[116, 104, 117]⟩, .string ⟨#[102, 114, 105]⟩, .string ⟨#[115, 97, 116]⟩, .string ⟨#[115, 117, 110]⟩]) (.int .i64 5)).run Tryz.prog w = .ok (.string ⟨#[115, 97, 116]⟩) w := by
  unfold Instr.index
  simp [go_sem]
theorem dayAt6 (w : World) : (Instr.index 92 (.agg #[.string ⟨#[109, 111, 110]⟩, .string ⟨#[116, 117, 101]⟩, .string ⟨#[119, 101, 100]⟩, .string ⟨#[116, 104, 117]⟩, .string ⟨#[102, 114, 105]⟩, .string ⟨#[115, 97, 116]⟩, .string ⟨#[115, 117, 110]⟩]) (.int .i64 6)).run Tryz.prog w = .ok (.string ⟨#[115, 117, 110]⟩) w := by
  unfold Instr.index
  simp [go_sem]
attribute [local go_sem] dayAt0 dayAt1 dayAt2 dayAt3 dayAt4 dayAt5 dayAt6
theorem strsType : Tryz.prog.underlying 91 = some (.slice 9) := Tryz.underlying91
theorem and_all : ∀ (a : Fin 128) (j : Fin 7), bits .and .i64 (a.1 : Int) (2 ^ j.1) = if dayOn (a.1 : Int) j.1 then 2 ^ j.1 else 0 := by decide +kernel
theorem and_day (a : Int) (j : Nat) (hj : j < 7) (h0 : 0 ≤ a) (h1 : a < 128) : bits .and .i64 a (2 ^ j) = if dayOn a j then 2 ^ j else 0 := by
  have h := and_all ⟨a.toNat, by omega⟩ ⟨j, hj⟩
  rw [show (((⟨a.toNat, by omega⟩ : Fin 128).1 : Nat) : Int) = a from by simp; omega] at h
  exact h
theorem up_off {a : Int} {j : Nat} (h : dayOn a j = false) : daysUp a (j + 1) = daysUp a j := by rw [daysUp, h]; rfl
theorem up_on {a : Int} {j : Nat} (h : dayOn a j = true) : daysUp a (j + 1) = daysUp a j ++ [wDays.getD j []] := by rw [daysUp, h]; rfl
theorem daysUp_len (a : Int) : ∀ j, (daysUp a j).length ≤ j
  | 0 => by simp [daysUp]
  | j + 1 => by
    have := daysUp_len a j
    rw [daysUp]
    split
    · simp; omega
    · omega
theorem some_all : ∀ a : Fin 128, 1 ≤ a.1 → 0 < (daysUp (a.1 : Int) 7).length := by decide +kernel
theorem days_some (a : Int) (h0 : 1 ≤ a) (h1 : a < 128) : 0 < (daysUp a 7).length := by
  have h := some_all ⟨a.toNat, by omega⟩ (by show 1 ≤ a.toNat; omega)
  rw [show (((⟨a.toNat, by omega⟩ : Fin 128).1 : Nat) : Int) = a from by simp; omega] at h
  exact h
theorem strs_back (l : List (List UInt8)) : (l.map fun s => (⟨s.toArray⟩ : ByteArray)).map (fun x => x.data.toList) = l := by
  induction l with
  | nil => rfl
  | cons x l ih => rw [List.map_cons, List.map_cons, ih]
/-- A row of texts of the call's own. -/
theorem own_strs {wr : World} {B : Nat} {v : Value} {l : List (List UInt8)} (h : wr.ownsRow B 9 1 v l.length (l.map fun s => .string ⟨s.toArray⟩)) (h0 : 0 < l.length) :
    ∃ g cap : Nat, v = .slice (some ⟨g, 0, none⟩) l.length cap ∧ l.length ≤ cap ∧ g < wr.heap.size ∧ ∀ (j : Nat) (x : ByteArray), (l.map fun s => (⟨s.toArray⟩ : ByteArray))[j]? = some x → wr.cell? ⟨g, j, none⟩ = some (.string x) := by
  obtain ⟨_, ⟨_, h2⟩ | ⟨g, cap, cur, hv, hB, hg, hn, hm, hsz, ht⟩⟩ := h
  · omega
  · refine ⟨g, cap, hv, hn, (Array.getElem?_eq_some_iff.1 hg).1, fun j x hx => ?_⟩
    rw [List.getElem?_map] at hx
    obtain ⟨s, hs, rfl⟩ := Option.map_eq_some_iff.1 hx
    have h1 : (cur.toList.take (l.length * 1))[j]? = some (.string ⟨s.toArray⟩) := by rw [ht, List.getElem?_map, hs]; rfl
    rw [List.getElem?_take] at h1
    split at h1
    · simp [World.cell?, hg]
      simpa using h1
    · cases h1
set_option maxRecDepth 100000 in
set_option maxHeartbeats 4000000 in
theorem daysText_any (a : Int) (ha0 : 1 ≤ a) (ha1 : a < 128) (w : World) (hD : DTab w) :
    Calls Tryz.prog 36 #[.int .i64 a] w fun e w' => e = .returned (.string ⟨(daysL a).toArray⟩) ∧ Below w.heap.size w w' := by
  have t0 := hD 0 (by omega)
  have t1 := hD 1 (by omega)
  have t2 := hD 2 (by omega)
  have t3 := hD 3 (by omega)
  have t4 := hD 4 (by omega)
  have t5 := hD 5 (by omega)
  have t6 := hD 6 (by omega)
  simp only [wDays, List.getD_cons_zero, List.getD_cons_succ] at t0 t1 t2 t3 t4 t5 t6
  obtain ⟨i0, hi, hz0, hz1, hz2⟩ := info_parts (show (Tryz.prog.info? 9).map (fun i => (i.zero, i.size, i.bytes)) = some (some (.string ⟨#[]⟩), 1, 16) by kernel_rfl)
  go_enter Tryz.func36, Tryz.ntmps36
  go_wp2_with fail
  clear t0 t1 t2 t3 t4 t5 t6 hD
  go_loopw [3, 4, 5, 7] (fun v _ _ q wr => ∃ j : Nat, q = .int .i64 (j : Int) ∧ j ≤ 7 ∧ wr.ownsRow w.heap.size 9 1 v (daysUp a j).length ((daysUp a j).map fun s => .string ⟨s.toArray⟩) ∧ Below w.heap.size w wr) (fun _ _ _ q _ => 7 - (intOf q).toNat)
  case atStart => exact ⟨0, rfl, by omega, World.ownsRow_nil _ _ _ _, Below.refl _ _⟩
  case round =>
    obtain ⟨j, rfl, hj, hown, hbel⟩ := hrel
    by_cases hlt : j < 7
    · have hj7 : j = 0 ∨ j = 1 ∨ j = 2 ∨ j = 3 ∨ j = 4 ∨ j = 5 ∨ j = 6 := by omega
      rcases hj7 with rfl | rfl | rfl | rfl | rfl | rfl | rfl
      · cases hon : dayOn a 0 with
        | false =>
          have hbit := and_day a 0 (by omega) (by omega) ha1
          rw [hon] at hbit
          have HU : Hid (daysUp a (0 + 1) = daysUp a 0) := up_off hon
          clear hon
          simp at hbit
          go_wp2_with fail
          go_roundw
          case rel => exact ⟨0 + 1, by first | rfl | go_num, by omega, by rw [HU.out]; exact hown, hbel⟩
          case measure => simp [intOf]
        | true =>
          have hbit := and_day a 0 (by omega) (by omega) ha1
          rw [hon] at hbit
          have HU : Hid (daysUp a (0 + 1) = daysUp a 0 ++ [wDays.getD 0 []]) := up_on hon
          clear hon
          simp at hbit
          go_wp2_with (at_builtin; refine wpList_append_own _ rfl _ _ 91 rfl w.heap.size 9 i0 (.string ⟨#[]⟩) 1 16 strsType hi hz0 hz1 hz2 rfl (by decide) u3 (daysUp a 0).length ((daysUp a 0).map fun s => .string ⟨s.toArray⟩) rfl (hown.alloc _) ⟨wr.heap.size, 0, none⟩ 1 1 [.string ⟨#[109, 111, 110]⟩] rfl rfl ?c1 ?c2 ?c3 ?c4 ?c5 ?_)
          case c1 =>
            intro j u hj
            match j, hj with
            | 0, hj => simp at hj; subst hj; simp [Addr.add]
          case c2 => intro u hu; simp at hu; rcases hu with rfl; rfl
          case c3 => unfold maxLen; have := daysUp_len a 0; omega
          case c4 => have := daysUp_len a 0; omega
          case c5 => have := hbel.size; simp; omega
          · intro v' w2 hown' hgrow _
            have hown2 : w2.ownsRow w.heap.size 9 1 v' (daysUp a (0 + 1)).length ((daysUp a (0 + 1)).map fun s => .string ⟨s.toArray⟩) := by
              rw [HU.out]
              simpa [wDays] using hown'
            have hbel2 : Below w.heap.size w w2 := (hbel.alloc hbel.size _).grown hgrow (by have := hbel.size; simp; omega) (fun k hk => (hown.lt k hk).1)
            clear hown hown'
            go_wp2_with fail
            go_roundw
            case rel => exact ⟨0 + 1, by first | rfl | go_num, by omega, hown2, hbel2⟩
            case measure => simp [intOf]
      · cases hon : dayOn a 1 with
        | false =>
          have hbit := and_day a 1 (by omega) (by omega) ha1
          rw [hon] at hbit
          have HU : Hid (daysUp a (1 + 1) = daysUp a 1) := up_off hon
          clear hon
          simp at hbit
          go_wp2_with fail
          go_roundw
          case rel => exact ⟨1 + 1, by first | rfl | go_num, by omega, by rw [HU.out]; exact hown, hbel⟩
          case measure => simp [intOf]
        | true =>
          have hbit := and_day a 1 (by omega) (by omega) ha1
          rw [hon] at hbit
          have HU : Hid (daysUp a (1 + 1) = daysUp a 1 ++ [wDays.getD 1 []]) := up_on hon
          clear hon
          simp at hbit
          go_wp2_with (at_builtin; refine wpList_append_own _ rfl _ _ 91 rfl w.heap.size 9 i0 (.string ⟨#[]⟩) 1 16 strsType hi hz0 hz1 hz2 rfl (by decide) u3 (daysUp a 1).length ((daysUp a 1).map fun s => .string ⟨s.toArray⟩) rfl (hown.alloc _) ⟨wr.heap.size, 0, none⟩ 1 1 [.string ⟨#[116, 117, 101]⟩] rfl rfl ?c1 ?c2 ?c3 ?c4 ?c5 ?_)
          case c1 =>
            intro j u hj
            match j, hj with
            | 0, hj => simp at hj; subst hj; simp [Addr.add]
          case c2 => intro u hu; simp at hu; rcases hu with rfl; rfl
          case c3 => unfold maxLen; have := daysUp_len a 1; omega
          case c4 => have := daysUp_len a 1; omega
          case c5 => have := hbel.size; simp; omega
          · intro v' w2 hown' hgrow _
            have hown2 : w2.ownsRow w.heap.size 9 1 v' (daysUp a (1 + 1)).length ((daysUp a (1 + 1)).map fun s => .string ⟨s.toArray⟩) := by
              rw [HU.out]
              simpa [wDays] using hown'
            have hbel2 : Below w.heap.size w w2 := (hbel.alloc hbel.size _).grown hgrow (by have := hbel.size; simp; omega) (fun k hk => (hown.lt k hk).1)
            clear hown hown'
            go_wp2_with fail
            go_roundw
            case rel => exact ⟨1 + 1, by first | rfl | go_num, by omega, hown2, hbel2⟩
            case measure => simp [intOf]
      · cases hon : dayOn a 2 with
        | false =>
          have hbit := and_day a 2 (by omega) (by omega) ha1
          rw [hon] at hbit
          have HU : Hid (daysUp a (2 + 1) = daysUp a 2) := up_off hon
          clear hon
          simp at hbit
          go_wp2_with fail
          go_roundw
          case rel => exact ⟨2 + 1, by first | rfl | go_num, by omega, by rw [HU.out]; exact hown, hbel⟩
          case measure => simp [intOf]
        | true =>
          have hbit := and_day a 2 (by omega) (by omega) ha1
          rw [hon] at hbit
          have HU : Hid (daysUp a (2 + 1) = daysUp a 2 ++ [wDays.getD 2 []]) := up_on hon
          clear hon
          simp at hbit
          go_wp2_with (at_builtin; refine wpList_append_own _ rfl _ _ 91 rfl w.heap.size 9 i0 (.string ⟨#[]⟩) 1 16 strsType hi hz0 hz1 hz2 rfl (by decide) u3 (daysUp a 2).length ((daysUp a 2).map fun s => .string ⟨s.toArray⟩) rfl (hown.alloc _) ⟨wr.heap.size, 0, none⟩ 1 1 [.string ⟨#[119, 101, 100]⟩] rfl rfl ?c1 ?c2 ?c3 ?c4 ?c5 ?_)
          case c1 =>
            intro j u hj
            match j, hj with
            | 0, hj => simp at hj; subst hj; simp [Addr.add]
          case c2 => intro u hu; simp at hu; rcases hu with rfl; rfl
          case c3 => unfold maxLen; have := daysUp_len a 2; omega
          case c4 => have := daysUp_len a 2; omega
          case c5 => have := hbel.size; simp; omega
          · intro v' w2 hown' hgrow _
            have hown2 : w2.ownsRow w.heap.size 9 1 v' (daysUp a (2 + 1)).length ((daysUp a (2 + 1)).map fun s => .string ⟨s.toArray⟩) := by
              rw [HU.out]
              simpa [wDays] using hown'
            have hbel2 : Below w.heap.size w w2 := (hbel.alloc hbel.size _).grown hgrow (by have := hbel.size; simp; omega) (fun k hk => (hown.lt k hk).1)
            clear hown hown'
            go_wp2_with fail
            go_roundw
            case rel => exact ⟨2 + 1, by first | rfl | go_num, by omega, hown2, hbel2⟩
            case measure => simp [intOf]
      · cases hon : dayOn a 3 with
        | false =>
          have hbit := and_day a 3 (by omega) (by omega) ha1
          rw [hon] at hbit
          have HU : Hid (daysUp a (3 + 1) = daysUp a 3) := up_off hon
          clear hon
          simp at hbit
          go_wp2_with fail
          go_roundw
          case rel => exact ⟨3 + 1, by first | rfl | go_num, by omega, by rw [HU.out]; exact hown, hbel⟩
          case measure => simp [intOf]
        | true =>
          have hbit := and_day a 3 (by omega) (by omega) ha1
          rw [hon] at hbit
          have HU : Hid (daysUp a (3 + 1) = daysUp a 3 ++ [wDays.getD 3 []]) := up_on hon
          clear hon
          simp at hbit
          go_wp2_with (at_builtin; refine wpList_append_own _ rfl _ _ 91 rfl w.heap.size 9 i0 (.string ⟨#[]⟩) 1 16 strsType hi hz0 hz1 hz2 rfl (by decide) u3 (daysUp a 3).length ((daysUp a 3).map fun s => .string ⟨s.toArray⟩) rfl (hown.alloc _) ⟨wr.heap.size, 0, none⟩ 1 1 [.string ⟨#[116, 104, 117]⟩] rfl rfl ?c1 ?c2 ?c3 ?c4 ?c5 ?_)
          case c1 =>
            intro j u hj
            match j, hj with
            | 0, hj => simp at hj; subst hj; simp [Addr.add]
          case c2 => intro u hu; simp at hu; rcases hu with rfl; rfl
          case c3 => unfold maxLen; have := daysUp_len a 3; omega
          case c4 => have := daysUp_len a 3; omega
          case c5 => have := hbel.size; simp; omega
          · intro v' w2 hown' hgrow _
            have hown2 : w2.ownsRow w.heap.size 9 1 v' (daysUp a (3 + 1)).length ((daysUp a (3 + 1)).map fun s => .string ⟨s.toArray⟩) := by
              rw [HU.out]
              simpa [wDays] using hown'
            have hbel2 : Below w.heap.size w w2 := (hbel.alloc hbel.size _).grown hgrow (by have := hbel.size; simp; omega) (fun k hk => (hown.lt k hk).1)
            clear hown hown'
            go_wp2_with fail
            go_roundw
            case rel => exact ⟨3 + 1, by first | rfl | go_num, by omega, hown2, hbel2⟩
            case measure => simp [intOf]
      · cases hon : dayOn a 4 with
        | false =>
          have hbit := and_day a 4 (by omega) (by omega) ha1
          rw [hon] at hbit
          have HU : Hid (daysUp a (4 + 1) = daysUp a 4) := up_off hon
          clear hon
          simp at hbit
          go_wp2_with fail
          go_roundw
          case rel => exact ⟨4 + 1, by first | rfl | go_num, by omega, by rw [HU.out]; exact hown, hbel⟩
          case measure => simp [intOf]
        | true =>
          have hbit := and_day a 4 (by omega) (by omega) ha1
          rw [hon] at hbit
          have HU : Hid (daysUp a (4 + 1) = daysUp a 4 ++ [wDays.getD 4 []]) := up_on hon
          clear hon
          simp at hbit
          go_wp2_with (at_builtin; refine wpList_append_own _ rfl _ _ 91 rfl w.heap.size 9 i0 (.string ⟨#[]⟩) 1 16 strsType hi hz0 hz1 hz2 rfl (by decide) u3 (daysUp a 4).length ((daysUp a 4).map fun s => .string ⟨s.toArray⟩) rfl (hown.alloc _) ⟨wr.heap.size, 0, none⟩ 1 1 [.string ⟨#[102, 114, 105]⟩] rfl rfl ?c1 ?c2 ?c3 ?c4 ?c5 ?_)
          case c1 =>
            intro j u hj
            match j, hj with
            | 0, hj => simp at hj; subst hj; simp [Addr.add]
          case c2 => intro u hu; simp at hu; rcases hu with rfl; rfl
          case c3 => unfold maxLen; have := daysUp_len a 4; omega
          case c4 => have := daysUp_len a 4; omega
          case c5 => have := hbel.size; simp; omega
          · intro v' w2 hown' hgrow _
            have hown2 : w2.ownsRow w.heap.size 9 1 v' (daysUp a (4 + 1)).length ((daysUp a (4 + 1)).map fun s => .string ⟨s.toArray⟩) := by
              rw [HU.out]
              simpa [wDays] using hown'
            have hbel2 : Below w.heap.size w w2 := (hbel.alloc hbel.size _).grown hgrow (by have := hbel.size; simp; omega) (fun k hk => (hown.lt k hk).1)
            clear hown hown'
            go_wp2_with fail
            go_roundw
            case rel => exact ⟨4 + 1, by first | rfl | go_num, by omega, hown2, hbel2⟩
            case measure => simp [intOf]
      · cases hon : dayOn a 5 with
        | false =>
          have hbit := and_day a 5 (by omega) (by omega) ha1
          rw [hon] at hbit
          have HU : Hid (daysUp a (5 + 1) = daysUp a 5) := up_off hon
          clear hon
          simp at hbit
          go_wp2_with fail
          go_roundw
          case rel => exact ⟨5 + 1, by first | rfl | go_num, by omega, by rw [HU.out]; exact hown, hbel⟩
          case measure => simp [intOf]
        | true =>
          have hbit := and_day a 5 (by omega) (by omega) ha1
          rw [hon] at hbit
          have HU : Hid (daysUp a (5 + 1) = daysUp a 5 ++ [wDays.getD 5 []]) := up_on hon
          clear hon
          simp at hbit
          go_wp2_with (at_builtin; refine wpList_append_own _ rfl _ _ 91 rfl w.heap.size 9 i0 (.string ⟨#[]⟩) 1 16 strsType hi hz0 hz1 hz2 rfl (by decide) u3 (daysUp a 5).length ((daysUp a 5).map fun s => .string ⟨s.toArray⟩) rfl (hown.alloc _) ⟨wr.heap.size, 0, none⟩ 1 1 [.string ⟨#[115, 97, 116]⟩] rfl rfl ?c1 ?c2 ?c3 ?c4 ?c5 ?_)
          case c1 =>
            intro j u hj
            match j, hj with
            | 0, hj => simp at hj; subst hj; simp [Addr.add]
          case c2 => intro u hu; simp at hu; rcases hu with rfl; rfl
          case c3 => unfold maxLen; have := daysUp_len a 5; omega
          case c4 => have := daysUp_len a 5; omega
          case c5 => have := hbel.size; simp; omega
          · intro v' w2 hown' hgrow _
            have hown2 : w2.ownsRow w.heap.size 9 1 v' (daysUp a (5 + 1)).length ((daysUp a (5 + 1)).map fun s => .string ⟨s.toArray⟩) := by
              rw [HU.out]
              simpa [wDays] using hown'
            have hbel2 : Below w.heap.size w w2 := (hbel.alloc hbel.size _).grown hgrow (by have := hbel.size; simp; omega) (fun k hk => (hown.lt k hk).1)
            clear hown hown'
            go_wp2_with fail
            go_roundw
            case rel => exact ⟨5 + 1, by first | rfl | go_num, by omega, hown2, hbel2⟩
            case measure => simp [intOf]
      · cases hon : dayOn a 6 with
        | false =>
          have hbit := and_day a 6 (by omega) (by omega) ha1
          rw [hon] at hbit
          have HU : Hid (daysUp a (6 + 1) = daysUp a 6) := up_off hon
          clear hon
          simp at hbit
          go_wp2_with fail
          go_roundw
          case rel => exact ⟨6 + 1, by first | rfl | go_num, by omega, by rw [HU.out]; exact hown, hbel⟩
          case measure => simp [intOf]
        | true =>
          have hbit := and_day a 6 (by omega) (by omega) ha1
          rw [hon] at hbit
          have HU : Hid (daysUp a (6 + 1) = daysUp a 6 ++ [wDays.getD 6 []]) := up_on hon
          clear hon
          simp at hbit
          go_wp2_with (at_builtin; refine wpList_append_own _ rfl _ _ 91 rfl w.heap.size 9 i0 (.string ⟨#[]⟩) 1 16 strsType hi hz0 hz1 hz2 rfl (by decide) u3 (daysUp a 6).length ((daysUp a 6).map fun s => .string ⟨s.toArray⟩) rfl (hown.alloc _) ⟨wr.heap.size, 0, none⟩ 1 1 [.string ⟨#[115, 117, 110]⟩] rfl rfl ?c1 ?c2 ?c3 ?c4 ?c5 ?_)
          case c1 =>
            intro j u hj
            match j, hj with
            | 0, hj => simp at hj; subst hj; simp [Addr.add]
          case c2 => intro u hu; simp at hu; rcases hu with rfl; rfl
          case c3 => unfold maxLen; have := daysUp_len a 6; omega
          case c4 => have := daysUp_len a 6; omega
          case c5 => have := hbel.size; simp; omega
          · intro v' w2 hown' hgrow _
            have hown2 : w2.ownsRow w.heap.size 9 1 v' (daysUp a (6 + 1)).length ((daysUp a (6 + 1)).map fun s => .string ⟨s.toArray⟩) := by
              rw [HU.out]
              simpa [wDays] using hown'
            have hbel2 : Below w.heap.size w w2 := (hbel.alloc hbel.size _).grown hgrow (by have := hbel.size; simp; omega) (fun k hk => (hown.lt k hk).1)
            clear hown hown'
            go_wp2_with fail
            go_roundw
            case rel => exact ⟨6 + 1, by first | rfl | go_num, by omega, hown2, hbel2⟩
            case measure => simp [intOf]
    · obtain rfl : j = 7 := by omega
      obtain ⟨g, cap, rfl, hcap, hglt, hcells⟩ := own_strs hown (days_some a ha0 ha1)
      have hlen7 := daysUp_len a 7
      have cJ := join_any g 0 cap ((daysUp a 7).map fun s => ⟨s.toArray⟩) ⟨#[44]⟩ wr (fun j x hx => by rw [Nat.zero_add]; exact hcells j x hx) hglt (by simp; omega) (by simpa using hcap) (by rw [strs_back]; have := days_len (a := a) (by omega) ha1; exact Nat.le_trans this (by decide))
      rw [strs_back, List.length_map] at cJ
      clear hcells hown hlt hj
      go_wp2_with fail
      refine cJ.mono ?_
      rintro e w1 ⟨rfl, hb1⟩
      clear cJ
      go_wp2_with fail
      go_ret
      exact ⟨rfl, hbel.trans (hb1.mono hbel.size)⟩
set_option maxRecDepth 100000 in
set_option maxHeartbeats 1000000 in
theorem datesText_any (a b : Int) (h0 : 0 ≤ a) (h1 : a < 146097) (h2 : 0 ≤ b) (h3 : b < 146097) (w : World) (hT : ∀ w', Below w.heap.size w w' → CTab w' ∧ PowT w') :
    Calls Tryz.prog 37 #[.int .i64 a, .int .i64 b] w fun e w' => e = .returned (.string ⟨(datesL a b).toArray⟩) ∧ Below w.heap.size w w' := by
  have cA := dateText_any a h0 h1 w (hT w (Below.refl _ _)).1 (fun w' h => (hT w' h).2)
  have cB := fun (W : World) (h : Below w.heap.size w W) => dateText_any b h2 h3 W (hT W h).1 (fun w' h' => (hT w' (h.trans (h'.mono h.size))).2)
  have lA := date_len a
  have lB := date_len b
  unfold datesL
  clear hT h0 h1 h2 h3
  by_cases e : a = b
  · subst e
    rw [if_pos rfl]
    clear cB
    go_enter Tryz.func37, Tryz.ntmps37
    go_wp2_with fail
    refine cA.mono ?_
    rintro e w1 ⟨rfl, hb1⟩
    go_wp2_with fail
    go_ret
    exact ⟨rfl, hb1⟩
  · rw [if_neg e]
    generalize dateL a = A at *
    generalize dateL b = B at *
    have eb : (a == b) = false := by simpa using e
    clear e
    go_enter Tryz.func37, Tryz.ntmps37
    go_wp2_with fail
    refine cA.mono ?_
    rintro e w1 ⟨rfl, hb1⟩
    have cB1 := cB w1 hb1
    clear cA cB
    have q1 : ¬ 9223372036854775807 < A.length + 2 := by omega
    have q2 : ¬ 9223372036854775807 < A.length + 2 + B.length := by omega
    go_wp2_with fail
    refine cB1.mono ?_
    rintro e w2 ⟨rfl, hb2⟩
    clear cB1
    go_wp2_with fail
    go_ret
    exact ⟨congrArg Ending.returned (str_of (by simp)), hb1.trans (hb2.mono hb1.size)⟩
end Go.Proofs.YteheahhifihmjaaGreatDoor
