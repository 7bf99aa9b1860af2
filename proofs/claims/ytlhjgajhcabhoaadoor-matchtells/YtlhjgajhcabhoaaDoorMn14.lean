/- What slotref10.WrongService comes to: the same as match.Wrong. -/
import Derived.Test.YtlhjgajhcabhoaaDoorMn01
import Derived.Test.YtlhjgajhcabhoaaDoorMn02
import Derived.Test.YtlhjgajhcabhoaaDoorMn04
namespace Go.Proofs.YtlhjgajhcabhoaaDoor
open Go.RowKit Msk Mx

set_option maxRecDepth 100000 in
set_option maxHeartbeats 1000000 in
theorem rwrongsv_any (s : Sv) (rv : Value) (n : Int) (w : World) (hl : -9223372036854775808 ≤ s.len ∧ s.len < 9223372036854775808) (h : RowRI w rv s.roles) : Calls Tryd.prog 11 #[svV s rv, .int .i64 n] w fun e w' => e = .returned (.int .i64 (wrongS s n)) ∧ Below w.heap.size w w' := by
  obtain ⟨l, b, a, roles⟩ := s
  dsimp only at h hl
  unfold svV
  dsimp only
  have bA := (Below.refl w.heap.size w).alloc (Nat.le_refl _) (.cells #[.int .i64 l, .int .i64 b, .int .i64 a, rv] 24)
  have nA := heap_alloc_new w (.cells #[.int .i64 l, .int .i64 b, .int .i64 a, rv] 24)
  have HR := hidr (h.below bA)
  obtain ⟨ad, c, rfl, hlen, _⟩ := h
  generalize hwA : w.alloc (.cells #[.int .i64 l, .int .i64 b, .int .i64 a, .slice ad roles.length c] 24) = wA at *
  obtain ⟨q, hq⟩ : ∃ q, IntKind.i64.wrap (l - 1) = q := ⟨_, rfl⟩
  have HQ : Hid ((0 ≤ q ∧ q ≤ 1440) ↔ (1 ≤ l ∧ l ≤ 1441)) := by
    show _ ↔ _
    rw [← hq, IntKind.wrap_i64]
    omega
  clear hl
  have HB := hidr bA
  have z0 := (cell_of_row _ _ 0 _ _ _ nA).trans rfl
  have z1 := (cell_of_row _ _ 1 _ _ _ nA).trans rfl
  have z2 := (cell_of_row _ _ 2 _ _ _ nA).trans rfl
  have z3 := (cell_of_row _ _ 3 _ _ _ nA).trans rfl
  clear bA nA
  have bB := (Below.refl wA.heap.size wA).alloc (Nat.le_refl _) (.cells #[.int .i64 q, .int .i64 b, .int .i64 a] 3)
  have nB := heap_alloc_new wA (.cells #[.int .i64 q, .int .i64 b, .int .i64 a] 3)
  go_enter Tryd.func11, Tryd.ntmps11
  go_wp2_with fail
  generalize hwB : wA.alloc (.cells #[.int .i64 q, .int .i64 b, .int .i64 a] 3) = wB at *
  have y0 := (bB.cell (block_lt_of_cell (z0.trans rfl))).trans z0
  have y1 := (bB.cell (block_lt_of_cell (z1.trans rfl))).trans z1
  have y2 := (bB.cell (block_lt_of_cell (z2.trans rfl))).trans z2
  have y3 := (bB.cell (block_lt_of_cell (z3.trans rfl))).trans z3
  have HB1 := hidr (HB.out.trans (bB.mono HB.out.size))
  have HR1 := hidr (HR.out.below bB)
  have HX3 : Hid (¬ (1 ≤ l ∧ l ≤ 1440 ∧ 0 ≤ b ∧ b ≤ 1440 ∧ 0 ≤ a ∧ a ≤ 1440 ∧ b + l + a ≤ 1440) → wrongS ⟨l, b, a, roles⟩ n = 3) := fun h => by
    show (if measB l b a = false then _ else _) = _
    rw [if_pos]
    unfold measB
    exact decide_eq_false h
  have HC : Hid (∀ (j : Nat) (x : Int), [q, b, a][j]? = some x → wB.cell? ⟨wA.heap.size, j, none⟩ = some (.int .i64 x)) := fun j x hx => by
    match j, hx with
    | 0, hx => cases hx; exact (cell_of_row _ _ 0 _ _ _ nB).trans rfl
    | 1, hx => cases hx; exact (cell_of_row _ _ 1 _ _ _ nB).trans rfl
    | 2, hx => cases hx; exact (cell_of_row _ _ 2 _ _ _ nB).trans rfl
  clear bB nB z0 z1 z2 z3 HB HR hwA hwB hq
  go_loopw [6, 21] (fun _ t wr => ∃ j : Nat, t = .int .i64 (j : Int) ∧ j ≤ 3 ∧ Hid (∀ (i : Nat) (x : Int), [q, b, a][i]? = some x → i < j → 0 ≤ x ∧ x ≤ 1440) ∧ wr = wB) (fun _ t _ => 3 - (intOf t).toNat)
  case atStart => exact ⟨0, rfl, by omega, fun i x _ hi => by omega, rfl⟩
  case round =>
    obtain ⟨j, rfl, hj, hX, rfl⟩ := hrel
    have hj0 : (0 : Int) ≤ (j : Int) := by omega
    by_cases hlt : j < 3
    · have hlt' : (j : Int) < 3 := by omega
      obtain ⟨x, hjx⟩ : ∃ x, [q, b, a][j]? = some x := ⟨[q, b, a][j], List.getElem?_eq_getElem hlt⟩
      have c0 := HC.out j x hjx
      have HN : Hid ((x < 0 ∨ 1440 < x) → ¬ (1 ≤ l ∧ l ≤ 1440 ∧ 0 ≤ b ∧ b ≤ 1440 ∧ 0 ≤ a ∧ a ≤ 1440 ∧ b + l + a ≤ 1440)) := fun hx h => by
        have hq := HQ.out
        match j, hjx with
        | 0, hjx => cases hjx; omega
        | 1, hjx => cases hjx; omega
        | 2, hjx => cases hjx; omega
      by_cases hx1 : x < 0
      · have HX := hidr (HX3.out (HN.out (.inl hx1)))
        clear hjx
        go_wp2_with fail
        go_ret
        exact ⟨by (rw [HX.out]) <;> rfl, HB1.out⟩
      by_cases hx2 : 1440 < x
      · have HX := hidr (HX3.out (HN.out (.inr hx2)))
        clear hjx
        go_wp2_with fail
        go_ret
        exact ⟨by (rw [HX.out]) <;> rfl, HB1.out⟩
      have HX : Hid (∀ (i : Nat) (x : Int), [q, b, a][i]? = some x → i < j + 1 → 0 ≤ x ∧ x ≤ 1440) := fun i y hy hi => by
        by_cases hij : i < j
        · exact hX.out i y hy hij
        · have e : i = j := by omega
          subst e
          rw [hjx] at hy
          cases hy
          omega
      clear hjx hX
      go_wp2_with fail
      go_roundw
      case rel => exact ⟨j + 1, by go_num, by omega, HX, trivial⟩
      case measure => simp [intOf]; omega
    · have e3 : j = 3 := by omega
      subst e3
      have hq := hX.out 0 q rfl (by omega)
      have hb := hX.out 1 b rfl (by omega)
      have ha := hX.out 2 a rfl (by omega)
      have hl := HQ.out.1 hq
      have w1 : IntKind.i64.wrap (b + l) = b + l := by rw [IntKind.wrap_i64]; omega
      have w2 : IntKind.i64.wrap (b + l + a) = b + l + a := by rw [IntKind.wrap_i64]; omega
      by_cases hbig : 1440 < b + l + a
      · have HX := hidr (HX3.out (by omega))
        clear hq hb ha hl hX hj0 hlt hj
        go_wp2_with fail
        go_ret
        exact ⟨by (rw [HX.out]) <;> rfl, HB1.out⟩
      have HE : Hid (wrongS ⟨l, b, a, roles⟩ n = if roles.length < 1 ∨ 4 < roles.length then 5 else rolesG n roles) := by
        show (if measB l b a = false then _ else _) = _
        rw [if_neg]
        unfold measB
        rw [decide_eq_true (by omega)]
        decide
      clear hq hb ha hl hX hj0 hlt hj HQ HX3 HC
      by_cases h1 : (roles.length : Int) = 0
      · have HX := hidr (HE.out.trans (if_pos (by omega)))
        clear HE
        go_wp2_with fail
        go_ret
        exact ⟨by (rw [HX.out]) <;> rfl, HB1.out⟩
      have h1' : ((roles.length : Int) == 0) = false := beq_eq_false_iff_ne.2 h1
      by_cases h2 : 4 < (roles.length : Int)
      · have HX := hidr (HE.out.trans (if_pos (by omega)))
        clear HE
        go_wp2_with fail
        go_ret
        exact ⟨by (rw [HX.out]) <;> rfl, HB1.out⟩
      have HX := hidr (HE.out.trans (if_neg (by omega)))
      clear HE
      go_wp2_with fail
      go_loopw [8, 9, 10, 11, 54] (fun _ _ _ _ t w2 => ∃ j : Nat, t = .int .i64 (j : Int) ∧ j ≤ roles.length ∧ Hid (wrongS ⟨l, b, a, roles⟩ n = rolesG n (roles.drop j)) ∧ w2 = wr) (fun _ _ _ _ t _ => roles.length - (intOf t).toNat)
      case atStart => exact ⟨0, rfl, by omega, HX, rfl⟩
      case round =>
        clear HX
        obtain ⟨j, rfl, hj, hX, rfl⟩ := hrel
        have hj0 : (0 : Int) ≤ (j : Int) := by omega
        by_cases hlt : j < roles.length
        · have hlt' : (j : Int) < (roles.length : Int) := by omega
          obtain ⟨pl, hjp⟩ : ∃ r, roles[j]? = some r := ⟨roles[j], List.getElem?_eq_getElem hlt⟩
          obtain ⟨ad', c', e', _, hall⟩ := HR1.out
          cases e'
          obtain ⟨g, o, sv, hpe, c0, hrow⟩ := hall j _ hjp
          subst hpe
          have hS := rolesG_step n hjp
          obtain ⟨ap, cp, rfl, hpl, hpc⟩ := hrow
          have HPC := hidr hpc
          clear hpc hall
          by_cases g1 : (pl.length : Int) = 0
          · have hp : poolE pl n = 5 := by
              unfold poolE
              rw [if_pos (by omega)]
            rw [hp, if_pos (by decide)] at hS
            have HX2 := hidr (hX.out.trans hS)
            clear hS hX hjp hp HPC
            go_wp2_with fail
            go_ret
            exact ⟨by (rw [HX2.out]) <;> rfl, HB1.out⟩
          have g1' : ((pl.length : Int) == 0) = false := beq_eq_false_iff_ne.2 g1
          by_cases g2 : 8 < (pl.length : Int)
          · have hp : poolE pl n = 5 := by
              unfold poolE
              rw [if_pos (by omega)]
            rw [hp, if_pos (by decide)] at hS
            have HX2 := hidr (hX.out.trans hS)
            clear hS hX hjp hp HPC
            go_wp2_with fail
            go_ret
            exact ⟨by (rw [HX2.out]) <;> rfl, HB1.out⟩
          have HP : Hid (poolE pl n = poolG pl n pl.length 0) := by
            show _ = _
            unfold poolE
            rw [if_neg (by omega)]
          have HS := hidr (hX.out.trans hS)
          clear hS hX hjp
          go_wp2_with fail
          go_loopw [9, 10, 11, 68] (fun la _ _ t w2 => ∃ i : Nat, t = .int .i64 (i : Int) ∧ i ≤ pl.length ∧ (∃ z : Int, la = .int .i64 z ∧ Hid (0 < i → pl[i - 1]? = some z)) ∧ Hid (poolE pl n = poolG pl n (pl.length - i) i) ∧ w2 = wr) (fun _ _ _ t _ => pl.length - (intOf t).toNat)
          case atStart => exact ⟨0, rfl, by omega, ⟨-1, rfl, fun h => by omega⟩, by exact HP, rfl⟩
          case round =>
            clear HP
            obtain ⟨i, rfl, hi, ⟨z, rfl, hz⟩, hY, rfl⟩ := hrel
            have hi0 : (0 : Int) ≤ (i : Int) := by omega
            by_cases hit : i < pl.length
            · have hit' : (i : Int) < (pl.length : Int) := by omega
              obtain ⟨r, hir⟩ : ∃ r, pl[i]? = some r := ⟨pl[i], List.getElem?_eq_getElem hit⟩
              obtain ⟨g', o', hpe, k0⟩ := HPC.out i _ hir
              subst hpe
              have hP := poolG_step pl n i hit
              rw [getD_some hir] at hP
              by_cases hr : r < 0
              · have hp : poolE pl n = 6 := hY.out.trans (hP.trans (if_pos (.inl hr)))
                have hS := HS.out
                rw [hp, if_pos (by decide)] at hS
                have HX2 := hidr hS
                clear hS hp hP hY hir HPC HS hz
                go_wp2_with fail
                go_ret
                exact ⟨by (rw [HX2.out]) <;> rfl, HB1.out⟩
              by_cases hr2 : n ≤ r
              · have hp : poolE pl n = 6 := hY.out.trans (hP.trans (if_pos (.inr hr2)))
                have hS := HS.out
                rw [hp, if_pos (by decide)] at hS
                have HX2 := hidr hS
                clear hS hp hP hY hir HPC HS hz
                go_wp2_with fail
                go_ret
                exact ⟨by (rw [HX2.out]) <;> rfl, HB1.out⟩
              rw [if_neg (by omega)] at hP
              have HZ : Hid (0 < i + 1 → pl[i + 1 - 1]? = some r) := fun _ => by
                rw [Nat.add_sub_cancel]
                exact hir
              by_cases hi1 : 0 < i
              · have hi1' : 0 < (i : Int) := by omega
                rw [getD_some (hz.out hi1)] at hP
                by_cases hq : r ≤ z
                · have hp : poolE pl n = 2 := hY.out.trans (hP.trans (if_pos ⟨hi1, hq⟩))
                  have hS := HS.out
                  rw [hp, if_pos (by decide)] at hS
                  have HX2 := hidr hS
                  clear hS hp hP hY hir HPC HS hz HZ
                  go_wp2_with fail
                  go_ret
                  exact ⟨by (rw [HX2.out]) <;> rfl, HB1.out⟩
                · rw [if_neg (by omega)] at hP
                  have HY2 := hidr (hY.out.trans hP)
                  clear hP hY hir hz
                  go_wp2_with fail
                  go_roundw
                  case rel => exact ⟨i + 1, by go_num, by omega, ⟨r, rfl, HZ⟩, HY2, trivial⟩
                  case measure => simp [intOf]; omega
              · have hi1' : ¬ 0 < (i : Int) := by omega
                rw [if_neg (by omega)] at hP
                have HY2 := hidr (hY.out.trans hP)
                clear hP hY hir hz
                go_wp2_with fail
                go_roundw
                case rel => exact ⟨i + 1, by go_num, by omega, ⟨r, rfl, HZ⟩, HY2, trivial⟩
                case measure => simp [intOf]; omega
            · have hit' : ¬ (i : Int) < (pl.length : Int) := by omega
              have hp : poolE pl n = 0 := by
                rw [hY.out, show pl.length - i = 0 by omega]
                rfl
              have hS := HS.out
              rw [hp, if_neg (by decide)] at hS
              have HX2 := hidr hS
              clear hS hp hY HS hz HPC
              go_wp2_with fail
              go_roundw
              case rel => exact ⟨j + 1, by go_num, by omega, HX2, trivial⟩
              case measure => simp [intOf]; omega
        · have hlt' : ¬ (j : Int) < (roles.length : Int) := by omega
          have HX2 : Hid (wrongS ⟨l, b, a, roles⟩ n = 0) := by
            show _ = _
            rw [hX.out, List.drop_of_length_le (by omega)]
            rfl
          clear hX
          go_wp2_with fail
          go_ret
          exact ⟨by (rw [HX2.out]) <;> rfl, HB1.out⟩
end Go.Proofs.YtlhjgajhcabhoaaDoor

/- What slotref2.Has comes to. -/
namespace Go.Proofs.YtlhjgajhcabhoaaDoor
open Go.RowKit Msk

/-- Does a mask have a minute? -/
def hasB (f : Nat → Bool) (x : Int) : Bool := decide (0 ≤ x) && decide (x < 1440) && f x.toNat
theorem hasB_nat (f : Nat → Bool) (i : Nat) : hasB f (i : Int) = (decide (i < 1440) && f i) := by
  unfold hasB
  have e : ((i : Int) < 1440) = (i < 1440) := by apply propext; omega
  simp [e]
theorem wrap_pow (r : Nat) (hr : r < 64) : IntKind.u64.wrap ((2 : Int) ^ r) = ((2 ^ r : Nat) : Int) ∧ (2 : Nat) ^ r < 18446744073709551616 := by
  have h : (2 : Nat) ^ r < 2 ^ 64 := Nat.pow_lt_pow_right (by omega) hr
  have h' : (2 : Nat) ^ r < 18446744073709551616 := by simpa using h
  have e : ((2 : Int) ^ r) = ((2 ^ r : Nat) : Int) := by simp
  refine ⟨?_, h'⟩
  rw [IntKind.wrap_u64, e]
  generalize (2 : Nat) ^ r = y at h'
  omega
theorem and_one (x r : Nat) (hr : r < 64) (hx : x < 18446744073709551616) : (bits .and .u64 (x : Int) (IntKind.u64.wrap (2 ^ r)) != 0) = x.testBit r := by
  obtain ⟨e2, h⟩ := wrap_pow r hr
  rw [e2]
  have e3 := bits_and_u64_nat x (2 ^ r) hx h
  rw [e3]
  cases hb : x.testBit r with
  | false =>
    have : x &&& 2 ^ r = 0 := Nat.eq_of_testBit_eq fun j => by
      rw [Nat.testBit_and, Nat.testBit_two_pow]
      by_cases hj : r = j
      · subst hj; simp [hb]
      · simp [hj]
    simp [this]
  | true =>
    have : (x &&& 2 ^ r).testBit r = true := by
      rw [Nat.testBit_and, Nat.testBit_two_pow]; simp [hb]
    have h0 : x &&& 2 ^ r ≠ 0 := fun e => by rw [e] at this; simp at this
    simpa using h0

set_option maxRecDepth 10000 in
set_option maxHeartbeats 1000000 in
theorem has_ref (f : Nat → Bool) (x : Int) (w : World) :
    Calls Tryd.prog 17 #[.agg (mv f), .int .i64 x] w fun e w' => e = .returned (.bool (hasB f x)) ∧ Below w.heap.size w w' := by
  have h1 : (w.alloc (.cells (mv f) 41)).heap[w.heap.size]? = some (.cells (mv f) 41 (0, 0)) := by (repeat (first | refine blk_old _ _ _ (by simp only [size_alloc]; omega) ?_ | exact blk_new _ _ _ (by first | rfl | simp only [size_alloc])))
  have hb0 : Below w.heap.size w (w.alloc (.cells (mv f) 41)) := (Below.refl _ _).alloc (Nat.le_refl _) _
  by_cases hx : x < 0
  · have e : hasB f x = false := by unfold hasB; have : ¬ 0 ≤ x := by omega
                                    simp [this]
    rw [e]
    have d1 : decide (0 ≤ x) = false := by simp; omega
    clear e h1
    go_enter Tryd.func17, Tryd.ntmps17
    go_wp2
    go_quiet (fail)
    go_wp2
    go_ret
    exact ⟨rfl, below_drewN hb0 _⟩
  · by_cases hy : x < 1440
    · obtain ⟨i, rfl⟩ : ∃ i : Nat, x = i := ⟨x.toNat, by omega⟩
      obtain ⟨q, hq⟩ : ∃ q : Nat, q = i / 64 := ⟨_, rfl⟩
      obtain ⟨r, hr⟩ : ∃ r : Nat, r = i % 64 := ⟨_, rfl⟩
      have t1 : (i : Int) / 64 = (q : Int) := by omega
      have t2 : (i : Int) % 64 = (r : Int) := by omega
      have t3 : (i : Int).tdiv 64 = (q : Int) := by rw [Int.tdiv_eq_ediv_of_nonneg (by omega)]; exact t1
      have t4 : (i : Int).tmod 64 = (r : Int) := by rw [Int.tmod_eq_emod_of_nonneg (by omega)]; exact t2
      have t5 : IntKind.i64.wrap (q : Int) = (q : Int) := by rw [IntKind.wrap_i64]; omega
      have t6 : IntKind.i64.wrap (r : Int) = (r : Int) := by rw [IntKind.wrap_i64]; omega
      have hq23 : q < 23 := by omega
      have hi0 : (0 : Int) ≤ (q : Int) := by omega
      have hi1 : (q : Int) < 23 := by omega
      have hr0 : (0 : Int) ≤ (r : Int) := by omega
      have hr1 : (r : Int) < 64 := by omega
      have ca := cell_mv h1 q hq23
      have hbit : (bits .and .u64 (wd f q : Int) (IntKind.u64.wrap (2 ^ r)) != 0) = hasB f (i : Int) := by
        rw [and_one _ r (by omega) (wd_lt f q), wd_bit, hasB_nat]
        have e1 : 64 * q + r = i := by omega
        have e2 : i < 1440 := by omega
        have e3 : r < 64 := by omega
        simp [e1, e2, e3]
      have d1 : decide ((0 : Int) ≤ (i : Int)) = true := by simp
      have d2 : decide ((i : Int) < 1440) = true := by simpa using hy
      clear hx hy hq hr
      generalize hasB f (i : Int) = bb at *
      go_enter Tryd.func17, Tryd.ntmps17
      go_wp2
      go_quiet (fail)
      go_wp2
      go_ret
      exact ⟨by rw [← hbit]; rfl, below_drewN hb0 _⟩
    · have e : hasB f x = false := by unfold hasB; simp [hy]
      rw [e]
      have d1 : decide (0 ≤ x) = true := by simp; omega
      have d2 : decide (x < 1440) = false := by simpa using hy
      clear e h1
      go_enter Tryd.func17, Tryd.ntmps17
      go_wp2
      go_quiet (fail)
      go_wp2
      go_ret
      exact ⟨rfl, below_drewN hb0 _⟩
end Go.Proofs.YtlhjgajhcabhoaaDoor
