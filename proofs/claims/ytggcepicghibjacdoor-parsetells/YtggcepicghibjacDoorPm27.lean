/- What the document's answer (package slotref1) comes to: the same plain functions. -/
import Derived.Test.YtggcepicghibjacDoorPm04
import Derived.Test.YtggcepicghibjacDoorPm26
import Derived.Lib.SlBytesConst
namespace Go.Proofs.YtggcepicghibjacDoor
open Go.RowKit

set_option maxHeartbeats 400000 in
theorem rleap_any (y : Int) (w : World) (h0 : 0 ≤ y) (h1 : y ≤ 9223372036854775807) :
    Calls Tryd.prog 114 #[.int .i64 y] w fun e w' => e = .returned (.bool (Cal.lpB y)) ∧ w' = w := by
  by_cases h400 : y % 400 = 0
  · have e : Cal.lpB y = true := by unfold Cal.lpB; exact decide_eq_true ⟨by omega, .inr h400⟩
    rw [e]
    have a2 : (y % 400 == 0) = true := by simp [h400]
    clear e h400
    go_enter Tryd.func114, Tryd.ntmps114
    go_wp2
    go_ret
    exact ⟨rfl, rfl⟩
  · have a2 : (y % 400 == 0) = false := by simp [h400]
    by_cases h100 : y % 100 = 0
    · have e : Cal.lpB y = false := by unfold Cal.lpB; exact decide_eq_false (fun h => by omega)
      rw [e]
      have a1 : (y % 100 == 0) = true := by simp [h100]
      clear e h400 h100
      go_enter Tryd.func114, Tryd.ntmps114
      go_wp2
      go_ret
      exact ⟨rfl, rfl⟩
    · have a1 : (y % 100 == 0) = false := by simp [h100]
      have e : Cal.lpB y = (y % 4 == 0) := by unfold Cal.lpB; by_cases h4 : y % 4 = 0 <;> simp [h4, h100]
      rw [e]
      clear e h400 h100
      go_enter Tryd.func114, Tryd.ntmps114
      go_wp2
      go_ret
      exact ⟨rfl, rfl⟩

set_option maxHeartbeats 400000 in
theorem ryear_any (y : Int) (w : World) (h0 : 0 ≤ y) (h1 : y ≤ 9223372036854775807) :
    Calls Tryd.prog 102 #[.int .i64 y] w fun e w' => e = .returned (.int .i64 (365 + Cal.lp y)) ∧ w' = w := by
  have hl := Cal.lp_of y
  cases hb : Cal.lpB y
  all_goals
    rw [hb] at hl
    simp at hl
    rw [hl]
    clear hl
    go_enter Tryd.func102, Tryd.ntmps102
    go_wp2_with (go_at_call 114; refine (rleap_any _ _ h0 h1).mono ?_; rw [hb]; rintro e w' ⟨rfl, rfl⟩)
    go_ret
    exact ⟨rfl, rfl⟩

set_option maxHeartbeats 400000 in
theorem rlength_out (y m : Int) (w : World) (h : y < 2000 ∨ 2399 < y) :
    Calls Tryd.prog 101 #[.int .i64 y, .int .i64 m] w fun e w' => e = .returned (.int .i64 0) ∧ w' = w := by
  by_cases a : y < 2000
  · go_enter Tryd.func101, Tryd.ntmps101
    go_wp2
    go_ret
    exact ⟨rfl, rfl⟩
  · have b : 2399 < y := by omega
    go_enter Tryd.func101, Tryd.ntmps101
    go_wp2
    go_ret
    exact ⟨rfl, rfl⟩

set_option maxHeartbeats 800000 in
theorem rlength_no (y m : Int) (w : World) (a : 2000 ≤ y) (b : y ≤ 2399) (h : m < 1 ∨ 12 < m) :
    Calls Tryd.prog 101 #[.int .i64 y, .int .i64 m] w fun e w' => e = .returned (.int .i64 0) ∧ w' = w := by
  have t1 : (m == 1) = false := by simp; omega
  have t2 : (m == 2) = false := by simp; omega
  have t3 : (m == 3) = false := by simp; omega
  have t4 : (m == 4) = false := by simp; omega
  have t5 : (m == 5) = false := by simp; omega
  have t6 : (m == 6) = false := by simp; omega
  have t7 : (m == 7) = false := by simp; omega
  have t8 : (m == 8) = false := by simp; omega
  have t9 : (m == 9) = false := by simp; omega
  have t10 : (m == 10) = false := by simp; omega
  have t11 : (m == 11) = false := by simp; omega
  have t12 : (m == 12) = false := by simp; omega
  clear h
  go_enter Tryd.func101, Tryd.ntmps101
  go_wp2
  go_ret
  exact ⟨rfl, rfl⟩

set_option maxHeartbeats 400000 in
theorem rlength_two (y : Int) (w : World) (a : 2000 ≤ y) (b : y ≤ 2399) :
    Calls Tryd.prog 101 #[.int .i64 y, .int .i64 2] w fun e w' => e = .returned (.int .i64 (28 + Cal.lp y)) ∧ w' = w := by
  have hl := Cal.lp_of y
  cases hb : Cal.lpB y
  all_goals
    rw [hb] at hl
    simp at hl
    rw [hl]
    clear hl
    go_enter Tryd.func101, Tryd.ntmps101
    go_wp2_with (go_at_call 114; refine (rleap_any _ _ (by omega) (by omega)).mono ?_; rw [hb]; rintro e w' ⟨rfl, rfl⟩)
    go_ret
    exact ⟨rfl, rfl⟩

set_option maxHeartbeats 1000000 in
theorem rlength_in (y m : Int) (w : World) (a : 2000 ≤ y) (b : y ≤ 2399) (c : 1 ≤ m) (d : m ≤ 12) :
    Calls Tryd.prog 101 #[.int .i64 y, .int .i64 m] w fun e w' => e = .returned (.int .i64 (Cal.dim y m)) ∧ w' = w := by
  have h : m = 1 ∨ m = 2 ∨ m = 3 ∨ m = 4 ∨ m = 5 ∨ m = 6 ∨ m = 7 ∨ m = 8 ∨ m = 9 ∨ m = 10 ∨ m = 11 ∨ m = 12 := by omega
  have e : Cal.dim y m = if m = 2 then 28 + Cal.lp y else if m = 4 ∨ m = 6 ∨ m = 9 ∨ m = 11 then 30 else 31 := by unfold Cal.dim; rw [if_neg (by omega)]
  rw [e]
  clear e
  rcases h with rfl | h
  · rw [if_neg (by decide), if_neg (by decide)]
    go_enter Tryd.func101, Tryd.ntmps101
    go_wp2
    go_ret
    exact ⟨rfl, rfl⟩
  rcases h with rfl | h
  · exact rlength_two y w a b
  rcases h with rfl | h
  · rw [if_neg (by decide), if_neg (by decide)]
    go_enter Tryd.func101, Tryd.ntmps101
    go_wp2
    go_ret
    exact ⟨rfl, rfl⟩
  rcases h with rfl | h
  · rw [if_neg (by decide), if_pos (by decide)]
    go_enter Tryd.func101, Tryd.ntmps101
    go_wp2
    go_ret
    exact ⟨rfl, rfl⟩
  rcases h with rfl | h
  · rw [if_neg (by decide), if_neg (by decide)]
    go_enter Tryd.func101, Tryd.ntmps101
    go_wp2
    go_ret
    exact ⟨rfl, rfl⟩
  rcases h with rfl | h
  · rw [if_neg (by decide), if_pos (by decide)]
    go_enter Tryd.func101, Tryd.ntmps101
    go_wp2
    go_ret
    exact ⟨rfl, rfl⟩
  rcases h with rfl | h
  · rw [if_neg (by decide), if_neg (by decide)]
    go_enter Tryd.func101, Tryd.ntmps101
    go_wp2
    go_ret
    exact ⟨rfl, rfl⟩
  rcases h with rfl | h
  · rw [if_neg (by decide), if_neg (by decide)]
    go_enter Tryd.func101, Tryd.ntmps101
    go_wp2
    go_ret
    exact ⟨rfl, rfl⟩
  rcases h with rfl | h
  · rw [if_neg (by decide), if_pos (by decide)]
    go_enter Tryd.func101, Tryd.ntmps101
    go_wp2
    go_ret
    exact ⟨rfl, rfl⟩
  rcases h with rfl | h
  · rw [if_neg (by decide), if_neg (by decide)]
    go_enter Tryd.func101, Tryd.ntmps101
    go_wp2
    go_ret
    exact ⟨rfl, rfl⟩
  rcases h with rfl | h
  · rw [if_neg (by decide), if_pos (by decide)]
    go_enter Tryd.func101, Tryd.ntmps101
    go_wp2
    go_ret
    exact ⟨rfl, rfl⟩
  subst h
  rw [if_neg (by decide), if_neg (by decide)]
  go_enter Tryd.func101, Tryd.ntmps101
  go_wp2
  go_ret
  exact ⟨rfl, rfl⟩

theorem rlength_any (y m : Int) (w : World) :
    Calls Tryd.prog 101 #[.int .i64 y, .int .i64 m] w fun e w' => e = .returned (.int .i64 (Cal.dim y m)) ∧ w' = w := by
  by_cases h : y < 2000 ∨ 2399 < y
  · rw [Cal.dim_out y m (by omega)]; exact rlength_out y m w h
  · by_cases g : m < 1 ∨ 12 < m
    · rw [Cal.dim_out y m (by omega)]; exact rlength_no y m w (by omega) (by omega) g
    · exact rlength_in y m w (by omega) (by omega) (by omega) (by omega)

set_option maxHeartbeats 400000 in
theorem rnumber_no (y m d : Int) (w : World) (a : d < 1 ∨ Cal.dim y m < d) :
    Calls Tryd.prog 80 #[.agg #[.int .i64 y, .int .i64 m, .int .i64 d]] w fun e w' => e = .returned (.tuple #[.int .i64 0, .int .i64 3]) ∧ Below w.heap.size w w' := by
  by_cases z : Cal.dim y m = 0
  · have z1 : (Cal.dim y m == 0) = true := by simp [z]
    clear z a
    go_enter Tryd.func80, Tryd.ntmps80
    go_wp2
    go_quiet ((go_at_call 101; exact Calls.quiet_of_same (rlength_any _ _ _)))
    go_wp2
    go_ret2
    exact ⟨rfl, below_drewN ((Below.refl _ _).alloc (Nat.le_refl _) _) _⟩
  · have z1 : (Cal.dim y m == 0) = false := by simp [z]
    by_cases a1 : d < 1
    · have n1 : decide (d < 1) = true := by simp; omega
      clear a z
      go_enter Tryd.func80, Tryd.ntmps80
      go_wp2
      go_quiet ((go_at_call 101; exact Calls.quiet_of_same (rlength_any _ _ _)))
      go_wp2
      go_ret2
      exact ⟨rfl, below_drewN ((Below.refl _ _).alloc (Nat.le_refl _) _) _⟩
    · have n1 : decide (d < 1) = false := by simp; omega
      have n2 : decide (Cal.dim y m < d) = true := by simp; omega
      clear a z
      go_enter Tryd.func80, Tryd.ntmps80
      go_wp2
      go_quiet ((go_at_call 101; exact Calls.quiet_of_same (rlength_any _ _ _)))
      go_wp2
      go_ret2
      exact ⟨rfl, below_drewN ((Below.refl _ _).alloc (Nat.le_refl _) _) _⟩

theorem ret2 {a b : Int} (h : a = b) : Ending.returned (.tuple #[.int .i64 a, .int .i64 0]) = .returned (.tuple #[.int .i64 b, .int .i64 0]) := by rw [h]
set_option maxHeartbeats 800000 in
theorem rnumber_yes (y m d : Int) (w : World) (a : 1 ≤ d) (b : d ≤ Cal.dim y m) :
    Calls Tryd.prog 80 #[.agg #[.int .i64 y, .int .i64 m, .int .i64 d]] w fun e w' => e = .returned (.tuple #[.int .i64 (Cal.num y m d), .int .i64 0]) ∧ Below w.heap.size w w' := by
  obtain ⟨r1, r2, r3, r4⟩ := Cal.dim_pos y m (by omega)
  have d31 := Cal.dim_31 y m
  have yb := Cal.ys_bd y r1 (by omega)
  have cb := Cal.cum_bd y m r3 (by omega)
  have z1 : (Cal.dim y m == 0) = false := by simp; omega
  have n1 : decide (d < 1) = false := by simp; omega
  have n2 : decide (Cal.dim y m < d) = false := by simp; omega
  go_enter Tryd.func80, Tryd.ntmps80
  go_wp2
  go_quiet ((go_at_call 101; exact Calls.quiet_of_same (rlength_any _ _ _)))
  go_wp2
  generalize hw : (w.alloc (.cells #[.int .i64 y, .int .i64 m, .int .i64 d] 102)).drewN nq = w1
  have c0 : w1.cell? ⟨w.heap.size, 0, none⟩ = some (.int .i64 y) := by rw [← hw]; simp
  have c1 : w1.cell? ⟨w.heap.size, 1, none⟩ = some (.int .i64 m) := by rw [← hw]; simp
  have c2 : w1.cell? ⟨w.heap.size, 2, none⟩ = some (.int .i64 d) := by rw [← hw]; simp
  have hb : Hid (Below w.heap.size w w1) := by show Below _ _ _; rw [← hw]; exact below_drewN ((Below.refl _ _).alloc (Nat.le_refl _) _) _
  clear hw z1 n1 n2
  go_wp2
  go_loop [4, 5] (fun t i => ∃ k : Int, 2000 ≤ k ∧ k ≤ y ∧ i = .int .i64 k ∧ t = .int .i64 (d - 1 + Cal.ys k)) (fun _ i => (2400 - intOf i).toNat)
  case atStart => exact ⟨2000, by omega, by omega, rfl, by rw [Cal.ys_2000]; go_num⟩
  case round =>
    obtain ⟨k, hk1, hk2, rfl, rfl⟩ := hrel
    have kb := Cal.ys_bd k hk1 (by omega)
    have lb := Cal.lp_01 k
    by_cases hlt : k < y
    · have cs : Hid (Cal.ys (k + 1) = Cal.ys k + 365 + Cal.lp k) := Cal.ys_succ k
      go_wp2_with (go_at_call 102; refine (ryear_any _ _ (by omega) (by omega)).mono ?_; rintro e w' ⟨rfl, rfl⟩)
      go_round
      case rel => exact ⟨k + 1, by omega, by omega, rfl, by rw [cs.out]; go_num⟩
      case measure => simp [intOf]; omega
    · have e : k = y := by omega
      subst e
      go_wp2
      go_loop [4, 6] (fun t i => ∃ j : Int, 1 ≤ j ∧ j ≤ m ∧ i = .int .i64 j ∧ t = .int .i64 (d - 1 + Cal.ys k + Cal.cum k j)) (fun _ i => (13 - intOf i).toNat)
      case atStart => exact ⟨1, by omega, by omega, rfl, by rw [Cal.cum_one]; go_num⟩
      case round =>
        obtain ⟨j, hj1, hj2, rfl, rfl⟩ := hrel
        have jb := Cal.cum_bd k j hj1 (by omega)
        have db := Cal.dim_31 k j
        by_cases hjm : j < m
        · have cs : Hid (Cal.cum k (j + 1) = Cal.cum k j + Cal.dim k j) := Cal.cum_succ k j (by omega) (by omega) hj1 (by omega)
          go_wp2_with (go_at_call 101; refine (rlength_any _ _ _).mono ?_; rintro e w' ⟨rfl, rfl⟩)
          go_round
          case rel => exact ⟨j + 1, by omega, by omega, rfl, by rw [cs.out]; go_num⟩
          case measure => simp [intOf]; omega
        · have e : j = m := by omega
          subst e
          go_wp2
          go_ret2
          exact ⟨ret2 (by unfold Cal.num; omega), hb.out⟩

end Go.Proofs.YtggcepicghibjacDoor

/- What the document's answer tells of one token, in plain words: the forms of dates and times by digits and signs. -/
namespace Go.Proofs.YtggcepicghibjacDoor
open Go.RowKit Lx

theorem dig_iff (l : List UInt8) (k n : Nat) : (digL l k n).2 = true ↔ (k + n ≤ l.length ∧ ∀ i, i < n → isD (l.getD (k + i) 0) = true) := by
  unfold digL
  split
  · rename_i h; simp only [true_iff]; exact h
  · rename_i h; simp only [Bool.false_eq_true, false_iff]; exact h
theorem dig_val {l : List UInt8} {k n : Nat} (h : (digL l k n).2 = true) : (digL l k n).1 = valL ((l.drop k).take n) := by
  have := (dig_iff l k n).1 h
  unfold digL
  rw [if_pos this]
theorem atB_iff (l : List UInt8) (k c : Nat) : atB l k c = true ↔ (k < l.length ∧ (l.getD k 0).toNat = c) := by
  unfold atB; simp
theorem getD_drop (l : List UInt8) (k i : Nat) : (l.drop k).getD i 0 = l.getD (k + i) 0 := by
  rw [List.getD_eq_getElem?_getD, List.getD_eq_getElem?_getD, List.getElem?_drop]
theorem date_bools (l : List UInt8) (k : Nat) : fitsL (l.drop k) dateF = ((digL l k 4).2 && ((digL l (k + 5) 2).2 && ((digL l (k + 8) 2).2 && (atB l (k + 4) 45 && atB l (k + 7) 45)))) := by
  rw [Bool.eq_iff_iff]
  simp only [Bool.and_eq_true, dig_iff, atB_iff]
  constructor
  · intro h
    obtain ⟨h1, h2⟩ := fitsL_at h
    have h10 : 10 ≤ l.length - k := by simpa [dateF] using h1
    have g : ∀ i, i < 10 → okB (dateF.getD i 0) (l.getD (k + i) 0) = true := fun i hi => by rw [← getD_drop]; exact h2 i hi
    have g0 := g 0 (by omega)
    have g1 := g 1 (by omega)
    have g2 := g 2 (by omega)
    have g3 := g 3 (by omega)
    have g4 := g 4 (by omega)
    have g5 := g 5 (by omega)
    have g6 := g 6 (by omega)
    have g7 := g 7 (by omega)
    have g8 := g 8 (by omega)
    have g9 := g 9 (by omega)
    simp [okB, dateF] at g0 g1 g2 g3 g4 g5 g6 g7 g8 g9
    refine ⟨⟨by omega, fun i hi => ?_⟩, ⟨by omega, fun i hi => ?_⟩, ⟨by omega, fun i hi => ?_⟩, ⟨by omega, ?_⟩, ⟨by omega, ?_⟩⟩
    · match i, hi with
      | 0, _ => simpa using g0
      | 1, _ => simpa using g1
      | 2, _ => simpa using g2
      | 3, _ => simpa using g3
    · match i, hi with
      | 0, _ => simpa using g5
      | 1, _ => simpa using g6
    · match i, hi with
      | 0, _ => simpa using g8
      | 1, _ => simpa using g9
    · simpa using g4.symm
    · simpa using g7.symm
  · rintro ⟨⟨a1, a2⟩, ⟨b1, b2⟩, ⟨c1, c2⟩, ⟨d1, d2⟩, ⟨e1, e2⟩⟩
    refine fitsL_yes (by simp [dateF]; omega) fun i hi => ?_
    rw [getD_drop]
    match i, hi with
    | 0, _ => simpa [okB, dateF] using a2 0 (by omega)
    | 1, _ => simpa [okB, dateF] using a2 1 (by omega)
    | 2, _ => simpa [okB, dateF] using a2 2 (by omega)
    | 3, _ => simpa [okB, dateF] using a2 3 (by omega)
    | 4, _ => simpa [okB, dateF] using d2.symm
    | 5, _ => simpa [okB, dateF] using b2 0 (by omega)
    | 6, _ => simpa [okB, dateF] using b2 1 (by omega)
    | 7, _ => simpa [okB, dateF] using e2.symm
    | 8, _ => simpa [okB, dateF] using c2 0 (by omega)
    | 9, _ => simpa [okB, dateF] using c2 1 (by omega)
theorem time_bools (l : List UInt8) (k : Nat) : fitsL (l.drop k) timeF = ((digL l k 2).2 && ((digL l (k + 3) 2).2 && atB l (k + 2) 58)) := by
  rw [Bool.eq_iff_iff]
  simp only [Bool.and_eq_true, dig_iff, atB_iff]
  constructor
  · intro h
    obtain ⟨h1, h2⟩ := fitsL_at h
    have h10 : 5 ≤ l.length - k := by simpa [timeF] using h1
    have g : ∀ i, i < 5 → okB (timeF.getD i 0) (l.getD (k + i) 0) = true := fun i hi => by rw [← getD_drop]; exact h2 i hi
    have g0 := g 0 (by omega)
    have g1 := g 1 (by omega)
    have g2 := g 2 (by omega)
    have g3 := g 3 (by omega)
    have g4 := g 4 (by omega)
    simp [okB, timeF] at g0 g1 g2 g3 g4
    refine ⟨⟨by omega, fun i hi => ?_⟩, ⟨by omega, fun i hi => ?_⟩, ⟨by omega, ?_⟩⟩
    · match i, hi with
      | 0, _ => simpa using g0
      | 1, _ => simpa using g1
    · match i, hi with
      | 0, _ => simpa using g3
      | 1, _ => simpa using g4
    · simpa using g2.symm
  · rintro ⟨⟨a1, a2⟩, ⟨b1, b2⟩, ⟨d1, d2⟩⟩
    refine fitsL_yes (by simp [timeF]; omega) fun i hi => ?_
    rw [getD_drop]
    match i, hi with
    | 0, _ => simpa [okB, timeF] using a2 0 (by omega)
    | 1, _ => simpa [okB, timeF] using a2 1 (by omega)
    | 2, _ => simpa [okB, timeF] using d2.symm
    | 3, _ => simpa [okB, timeF] using b2 0 (by omega)
    | 4, _ => simpa [okB, timeF] using b2 1 (by omega)
theorem rnum_any (y m d : Int) (w : World) :
    Calls Tryd.prog 80 #[.agg #[.int .i64 y, .int .i64 m, .int .i64 d]] w fun e w' => e = .returned (.tuple #[.int .i64 (numE y m d).1, .int .i64 (numE y m d).2]) ∧ Below w.heap.size w w' := by
  unfold numE
  by_cases h : 1 ≤ d ∧ d ≤ Cal.dim y m
  · rw [if_pos h]; exact rnumber_yes y m d w h.1 h.2
  · rw [if_neg h]; exact rnumber_no y m d w (by omega)
/-- What One hands back of a token that is told. -/
def OneTells (F : T1) (k : Nat) (e : Ending) : Prop := ∃ (a b c en : Int) (x : ByteArray), e = .returned (.tuple #[.agg #[.int .i64 a, .int .i64 b, .int .i64 c, .string x], .int .i64 en, .int .i64 F.err]) ∧ (F.err = 0 → a = F.kind ∧ b = F.n ∧ c = (k : Int) ∧ x = ⟨F.text.toArray⟩ ∧ en = ((k + F.len : Nat) : Int))
theorem one_post {R : Ending → World → Prop} {a : Act} {w : World} (g : Nat) (c0 c1 c2 en er : Int) (x : ByteArray) (hd : a.defers = []) (h4 : a.tmps.getD 4 undef = .pointer (some ⟨g, 0, none⟩))
    (h5 : a.tmps.getD 5 undef = .int .i64 en) (h6 : a.tmps.getD 6 undef = .int .i64 er) (hg : w.heap[g]? = some (.cells #[.int .i64 c0, .int .i64 c1, .int .i64 c2, .string x] 30 (0, 0)))
    (hR : R (.returned (.tuple #[.agg #[.int .i64 c0, .int .i64 c1, .int .i64 c2, .string x], .int .i64 en, .int .i64 er])) w) : bodyPost Tryd.prog Tryd.f53 R .ret a w := by
  refine bodyPost_ret (v := .tuple #[.agg #[.int .i64 c0, .int .i64 c1, .int .i64 c2, .string x], .int .i64 en, .int .i64 er]) ?_ hd hR
  have h4' : a.tmps[4]?.getD undef = .pointer (some ⟨g, 0, none⟩) := by simpa using h4
  have h5' : a.tmps[5]?.getD undef = .int .i64 en := by simpa using h5
  have h6' : a.tmps[6]?.getD undef = .int .i64 er := by simpa using h6
  have hv := run_loadVar_row (P := Tryd.prog) w g 30 30 _ _ _ hg tokType rfl (by kernel_rfl)
  simp [results, Tryd.results53, h4', h5', h6', asAddr, hv]
end Go.Proofs.YtggcepicghibjacDoor

/- What slotref3.One comes to where a date stands. -/
namespace Go.Proofs.YtggcepicghibjacDoor
open Go.RowKit Lx

set_option maxRecDepth 10000 in
set_option maxHeartbeats 1000000 in
theorem one_date (s : ByteArray) (l : List UInt8) (hs : s.data.toList = l) (hl : l.length ≤ 6000) (k : Nat) (hk : k < l.length) (hf : fitsL (l.drop k) dateF = true) (w : World) :
    Calls Tryd.prog 53 #[.string s, .int .i64 (k : Int)] w fun e w' => OneTells (firstT (l.drop k)) k e ∧ Below w.heap.size w w' := by
  have hF : firstT (l.drop k) = dateT (l.drop k) := by unfold firstT; rw [if_pos hf]
  have hfb := hf
  rw [date_bools] at hfb
  simp only [Bool.and_eq_true] at hfb
  obtain ⟨b1, b2, b3, b4, b5⟩ := hfb
  have v1 := dig_val b1
  have v2 := dig_val b2
  have v3 := dig_val b3
  have c1 : ∀ w, Calls Tryd.prog 78 #[.string s, .int .i64 (k : Int), .int .i64 4] w fun e w' => e = .returned (.tuple #[.int .i64 (valL ((l.drop k).take 4)), .bool true]) ∧ Below w.heap.size w w' := fun w => by
    have := rdigits_any s l hs hl k 4 (by omega) (by omega) w
    rw [b1, v1] at this; exact this
  have c2 : ∀ w, Calls Tryd.prog 78 #[.string s, .int .i64 ((k : Int) + 5), .int .i64 2] w fun e w' => e = .returned (.tuple #[.int .i64 (valL ((l.drop (k + 5)).take 2)), .bool true]) ∧ Below w.heap.size w w' := fun w => by
    have := rdigits_any s l hs hl (k + 5) 2 (by omega) (by omega) w
    rw [b2, v2] at this; exact this
  have c3 : ∀ w, Calls Tryd.prog 78 #[.string s, .int .i64 ((k : Int) + 8), .int .i64 2] w fun e w' => e = .returned (.tuple #[.int .i64 (valL ((l.drop (k + 8)).take 2)), .bool true]) ∧ Below w.heap.size w w' := fun w => by
    have := rdigits_any s l hs hl (k + 8) 2 (by omega) (by omega) w
    rw [b3, v3] at this; exact this
  have c4 : ∀ w, Calls Tryd.prog 79 #[.string s, .int .i64 ((k : Int) + 4), .int .u8 45] w fun e w' => e = .returned (.bool true) ∧ w' = w := fun w => by
    have := rsign_any s l hs (k + 4) 45 w
    rw [b4] at this; exact this
  have c5 : ∀ w, Calls Tryd.prog 79 #[.string s, .int .i64 ((k : Int) + 7), .int .u8 45] w fun e w' => e = .returned (.bool true) ∧ w' = w := fun w => by
    have := rsign_any s l hs (k + 7) 45 w
    rw [b5] at this; exact this
  have hD : dateT (l.drop k) = if (numE (valL ((l.drop k).take 4)) (valL ((l.drop (k + 5)).take 2)) (valL ((l.drop (k + 8)).take 2))).2 = 0 then ⟨5, (numE (valL ((l.drop k).take 4)) (valL ((l.drop (k + 5)).take 2)) (valL ((l.drop (k + 8)).take 2))).1, [], 10, 0⟩ else bad 3 := by
    unfold dateT
    rw [List.drop_drop, List.drop_drop, List.drop_drop]; rfl
  have hE := numE_err (valL ((l.drop k).take 4)) (valL ((l.drop (k + 5)).take 2)) (valL ((l.drop (k + 8)).take 2))
  have c6 := fun w => rnum_any (valL ((l.drop k).take 4)) (valL ((l.drop (k + 5)).take 2)) (valL ((l.drop (k + 8)).take 2)) w
  have h0 : (w.alloc (.cells #[.int .i64 0, .int .i64 0, .int .i64 0, .string ⟨#[]⟩] 30)).heap[w.heap.size]? = some (.cells #[.int .i64 0, .int .i64 0, .int .i64 0, .string ⟨#[]⟩] 30 (0, 0)) := heap_alloc_new w _
  have hb0 : Below w.heap.size w (w.alloc (.cells #[.int .i64 0, .int .i64 0, .int .i64 0, .string ⟨#[]⟩] 30)) := (Below.refl _ _).alloc (Nat.le_refl _) _
  generalize valL ((l.drop k).take 4) = y at *
  generalize valL ((l.drop (k + 5)).take 2) = m at *
  generalize valL ((l.drop (k + 8)).take 2) = d at *
  have HO : ∀ nn ee, nn = (numE y m d).1 → ee = (numE y m d).2 → Hid ((firstT (l.drop k)).err = ee ∧ (ee = 0 → firstT (l.drop k) = ⟨5, nn, [], 10, 0⟩)) := by
    intro nn ee e1 e2
    subst e1 e2
    show _ ∧ _
    rw [hF, hD]
    rcases hE with h | h
    · rw [if_pos h, h]; exact ⟨rfl, fun _ => rfl⟩
    · rw [if_neg (by omega)]; exact ⟨h.symm, fun h' => by omega⟩
  obtain ⟨nn, en⟩ : ∃ nn, nn = (numE y m d).1 := ⟨_, rfl⟩
  obtain ⟨ee, ee'⟩ : ∃ ee, ee = (numE y m d).2 := ⟨_, rfl⟩
  have HH := HO nn ee en ee'
  rw [← en, ← ee'] at c6
  have hk' : (k : Int) < 6000 := by omega
  have hk0 : (0 : Int) ≤ (k : Int) := by omega
  clear HO hE hD hF hf b1 b2 b3 b4 b5 v1 v2 v3 en ee'
  go_enter Tryd.func53, Tryd.ntmps53
  go_wp2_with fail
  refine (c1 _).mono ?_
  rintro e w1 ⟨rfl, hb1⟩
  have h1 := (hb1.block _ (lt_of_block h0)).trans h0
  have hbw1 := hb0.trans (hb1.mono hb0.size)
  clear hb1 h0 hb0
  go_wp2_with fail
  refine (c2 _).mono ?_
  rintro e w2 ⟨rfl, hb2⟩
  have h2 := (hb2.block _ (lt_of_block h1)).trans h1
  have hbw2 := hbw1.trans (hb2.mono hbw1.size)
  clear hb2 h1 hbw1
  go_wp2_with fail
  refine (c3 _).mono ?_
  rintro e w3 ⟨rfl, hb3⟩
  have h3 := (hb3.block _ (lt_of_block h2)).trans h2
  have hbw3 := hbw2.trans (hb3.mono hbw2.size)
  clear hb3 h2 hbw2
  go_wp2_with fail
  refine (c4 _).mono ?_
  rintro e w' ⟨rfl, rfl⟩
  go_wp2_with fail
  refine (c5 _).mono ?_
  rintro e w' ⟨rfl, rfl⟩
  go_wp2_with fail
  refine (c6 _).mono ?_
  rintro e w4 ⟨rfl, hb4⟩
  have h4 := (hb4.block _ (lt_of_block h3)).trans h3
  have hbw4 := hbw3.trans (hb4.mono hbw3.size)
  clear hb4 h3 hbw3
  go_wp2_with (refine wpList_store_row rfl 30 _ _ rfl _ _ rfl rfl _ _ h4 (by kernel_rfl) (by simp) (by simp [Value.oneCell']) ?_)
  refine one_post w.heap.size 5 nn (k : Int) ((k : Int) + 10) ee ⟨#[]⟩ rfl rfl rfl rfl (setRow_heap _ _ _ _ _ _ h4) ⟨?_, below_setRow hbw4 (Nat.le_refl _) _⟩
  obtain ⟨e1, e2⟩ := HH.out
  refine ⟨5, nn, (k : Int), (k : Int) + 10, ⟨#[]⟩, by rw [e1], fun h => ?_⟩
  rw [e2 (by rw [← e1]; exact h)]
  exact ⟨rfl, rfl, rfl, rfl, rfl⟩
end Go.Proofs.YtggcepicghibjacDoor

/- More plain words for One: the runs of words, and signs. -/
namespace Go.Proofs.YtggcepicghibjacDoor
open Go.RowKit Lx

theorem isL_isC {c : UInt8} (h : isL c = true) : isC c = true := by unfold isC; rw [h]; rfl
theorem wordLen_run : ∀ {l : List UInt8}, isL (l.getD 0 0) = true → wordLen l = runOf isC l
  | [], h => by simp [isL] at h
  | c :: l, h => by
    have hc : isL c = true := by simpa using h
    simp only [wordLen, runOf, hc, isL_isC hc, if_true]
theorem run_at (p : UInt8 → Bool) (l : List UInt8) (k e : Nat) (h1 : k ≤ e) (h2 : e ≤ l.length) (hall : ∀ i, k ≤ i → i < e → p (l.getD i 0) = true) (hend : e < l.length → p (l.getD e 0) = false) : runOf p (l.drop k) = e - k := by
  refine runOf_eq p _ _ (by simp; omega) (fun i hi => ?_) (fun h => ?_)
  · rw [getD_drop]; exact hall _ (by omega) (by omega)
  · rw [getD_drop, show k + (e - k) = e by omega]
    exact hend (by simp at h; omega)
theorem word_short {x : List UInt8} (h : 20 < x.length) : isWordL x = false := by
  cases e : isWordL x with
  | false => rfl
  | true =>
    unfold isWordL at e
    rw [List.any_eq_true] at e
    obtain ⟨y, hy, hx⟩ := e
    have hyx : y = x := by simpa using hx
    subst hyx
    exfalso
    simp only [wordsL, List.mem_cons, List.not_mem_nil, or_false] at hy
    rcases hy with h' | h' | h' | h' | h' | h' | h' | h' | h' | h' | h' | h' | h' <;> subst h' <;> simp at h
theorem dots_bools (l : List UInt8) (k : Nat) : Lib.hasPrefix (l.drop k) [46, 46] = (atB l k 46 && atB l (k + 1) 46) := by
  have h1 : atB l k 46 = atB (l.drop k) 0 46 := by
    unfold atB
    rw [getD_drop, List.length_drop]
    congr 1
    simp only [decide_eq_decide]; omega
  have h2 : atB l (k + 1) 46 = atB (l.drop k) 1 46 := by
    unfold atB
    rw [getD_drop, List.length_drop]
    congr 1
    simp only [decide_eq_decide]; omega
  rw [h1, h2]
  generalize l.drop k = m
  have e46 : ∀ c : UInt8, (46 == c) = decide (c.toNat = 46) := fun c => by
    rw [Bool.eq_iff_iff]
    simp only [beq_iff_eq, decide_eq_true_eq]
    constructor
    · intro h; rw [← h]; rfl
    · intro h; apply UInt8.toNat_inj.1; rw [h]; rfl
  match m with
  | [] => simp [Lib.hasPrefix, List.isPrefixOf, atB]
  | [c] => simp [Lib.hasPrefix, List.isPrefixOf, atB]
  | c :: d :: r => simp [Lib.hasPrefix, List.isPrefixOf, atB, e46]
theorem sign_yes {c : UInt8} (j : Nat) (hj : j < 9) (h : signsL.getD j 0 = c) : ¬ Lib.indexByte signsL c < 0 := by
  subst h
  match j, hj with
  | 0, _ => decide
  | 1, _ => decide
  | 2, _ => decide
  | 3, _ => decide
  | 4, _ => decide
  | 5, _ => decide
  | 6, _ => decide
  | 7, _ => decide
  | 8, _ => decide
theorem sign_no {c : UInt8} (h : ∀ j, j < 9 → signsL.getD j 0 ≠ c) : Lib.indexByte signsL c < 0 := by
  by_cases g : Lib.indexByte signsL c < 0
  · exact g
  · exfalso
    have lt := index_lt signsL c
    obtain ⟨j, hj⟩ : ∃ j : Nat, Lib.indexByte signsL c = j := ⟨(Lib.indexByte signsL c).toNat, by omega⟩
    have hl : signsL.length = 9 := rfl
    exact h j (by omega) (index_at signsL c j hj)
def signCells : Array Value := #[.int .u8 61, .int .u8 59, .int .u8 58, .int .u8 43, .int .u8 45, .int .u8 38, .int .u8 40, .int .u8 41, .int .u8 44]
theorem signCell (j : Nat) (hj : j < 9) : signCells[j]? = some (.int .u8 ((signsL.getD j 0).toNat : Int)) := by
  match j, hj with
  | 0, _ => rfl
  | 1, _ => rfl
  | 2, _ => rfl
  | 3, _ => rfl
  | 4, _ => rfl
  | 5, _ => rfl
  | 6, _ => rfl
  | 7, _ => rfl
  | 8, _ => rfl
theorem take_one {l : List UInt8} {k : Nat} (h : k < l.length) : (l.drop k).take 1 = [l.getD k 0] := by
  have e : l.drop k = l[k] :: l.drop (k + 1) := List.drop_eq_getElem_cons h
  rw [e, List.take_succ_cons, List.take_zero]
  simp [List.getD, h]
end Go.Proofs.YtggcepicghibjacDoor
