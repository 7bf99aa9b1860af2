/- What the small functions on numbers come to: ones, wordEnd, and the library's OnesCount64 and TrailingZeros64. -/
import Derived.Test.YtpmobjgnmidolaaDoorCu03
import Derived.Lib.TrailingZeros
namespace Go.Proofs.YtpmobjgnmidolaaDoor
open Go.RowKit Msk

theorem ret_val {v v' : Value} (h : v = v') : Ending.returned v = .returned v' := by rw [h]
theorem int_eq {k : IntKind} {a b : Int} (h : a = b) : Value.int k a = .int k b := by rw [h]

theorem ones_num (n : Nat) (hn : n ≤ 64) : IntKind.u64.wrap (IntKind.u64.wrap (2 ^ n) - 1) = ((2 ^ n - 1 : Nat) : Int) := by
  rw [IntKind.wrap_u64, IntKind.wrap_u64]
  have hp : (1 : Nat) ≤ 2 ^ n := Nat.two_pow_pos n
  have hc : ((2 : Int) ^ n) = ((2 ^ n : Nat) : Int) := by simp
  rw [hc]
  by_cases h : n = 64
  · subst h; decide
  · have hl : 2 ^ n ≤ 2 ^ 63 := Nat.pow_le_pow_right (by omega) (by omega)
    generalize 2 ^ n = p at *
    omega
theorem ones_any (n : Nat) (hn : n ≤ 64) (w : World) : Calls Tryd.prog 121 #[.int .i64 n] w fun e w' => e = .returned (.int .u64 ((2 ^ n - 1 : Nat) : Int)) ∧ w' = w := by
  go_enter Tryd.func121, Tryd.ntmps121
  go_wp2
  go_ret
  exact ⟨ret_val (int_eq (ones_num n hn)), rfl⟩
theorem ones_at (d : Int) (h0 : 0 ≤ d) (h1 : d ≤ 64) (w : World) : Calls Tryd.prog 121 #[.int .i64 d] w fun e w' => e = .returned (.int .u64 ((2 ^ d.toNat - 1 : Nat) : Int)) ∧ w' = w := by
  have := ones_any d.toNat (by omega) w
  rw [Int.toNat_of_nonneg h0] at this
  exact this
theorem wordEnd_any (n : Nat) (hn : n ≤ 1440) (w : World) : Calls Tryd.prog 115 #[.int .i64 n] w fun e w' => e = .returned (.int .i64 ((64 * (n / 64) + 64 : Nat) : Int)) ∧ w' = w := by
  go_enter Tryd.func115, Tryd.ntmps115
  go_wp2
  go_ret
  exact ⟨ret_val (int_eq (by omega)), rfl⟩

theorem bits_and_i64_nat (a b : Nat) (ha : a < 9223372036854775808) (hb : b < 9223372036854775808) :
    bits .and .i64 (a : Int) (b : Int) = ((a &&& b : Nat) : Int) := by
  have hx : a &&& b < 2 ^ 63 := Nat.and_lt_two_pow _ (by omega)
  have h1 : (BitVec.ofInt 64 (a : Int)).toNat = a := by
    rw [BitVec.ofInt_natCast, BitVec.toNat_ofNat]; exact Nat.mod_eq_of_lt (by omega)
  have h2 : (BitVec.ofInt 64 (b : Int)).toNat = b := by
    rw [BitVec.ofInt_natCast, BitVec.toNat_ofNat]; exact Nat.mod_eq_of_lt (by omega)
  show IntKind.i64.wrap ((BitVec.ofInt 64 (a : Int) &&& BitVec.ofInt 64 (b : Int)).toNat : Int) = _
  rw [BitVec.toNat_and, h1, h2, IntKind.wrap_i64]
  omega

/-- The library's rounds, one by one, as the walk writes them. -/
theorem pop_chain (x : Nat) (hx : x < 18446744073709551616) : ∃ y z d a b c : Nat, c < 9223372036854775808 ∧
    IntKind.u64.wrap (bits .and .u64 ((x : Int) / 2) 6148914691236517205 + bits .and .u64 (x : Int) 6148914691236517205) = (y : Int) ∧
    IntKind.u64.wrap (bits .and .u64 ((y : Int) / 4) 3689348814741910323 + bits .and .u64 (y : Int) 3689348814741910323) = (z : Int) ∧
    bits .and .u64 (IntKind.u64.wrap ((z : Int) / 16 + (z : Int))) 1085102592571150095 = (d : Int) ∧
    IntKind.u64.wrap ((d : Int) + (d : Int) / 256) = (a : Int) ∧ IntKind.u64.wrap ((a : Int) + (a : Int) / 65536) = (b : Int) ∧
    IntKind.u64.wrap ((b : Int) + (b : Int) / 4294967296) = (c : Int) ∧ bits .and .i64 (c : Int) 127 = ((cnt (fun j => x.testBit j) 64 : Nat) : Int) := by
  obtain ⟨e1, h1, t1, r1⟩ := pop_one x hx
  obtain ⟨e2, h2, t2, r2⟩ := pop_two e1 h1
  obtain ⟨e3, h3, t3, l3, r3⟩ := pop_three e2 h2
  obtain ⟨a, b, c, ha, la, hb, lb, hc, lc, hs⟩ := pop_last e3 h3
  have ly : dig e1 2 32 < 2 ^ (2 * 32) := dig_lt e1 2 32 fun i _ => by have := h1 i; omega
  simp only [Nat.reduceMul, Nat.reducePow] at ly
  rw [t3, t2, t1] at hs
  clear t1 t2 t3 h1 h2 h3
  generalize dig e1 2 32 = y at *
  generalize dig e2 4 16 = z at *
  generalize dig e3 8 8 = d at *
  have lz : z < 18446744073709551616 := by omega
  have q1 := bits_and_u64_nat (x / 2) 6148914691236517205 (by omega) (by omega)
  have q2 := bits_and_u64_nat x 6148914691236517205 hx (by omega)
  have q3 := bits_and_u64_nat (y / 4) 3689348814741910323 (by omega) (by omega)
  have q4 := bits_and_u64_nat y 3689348814741910323 ly (by omega)
  have q5 := bits_and_u64_nat (z / 16 + z) 1085102592571150095 l3 (by omega)
  have q6 := bits_and_i64_nat c 127 lc (by omega)
  have q7 : c &&& 127 = c % 128 := Nat.and_two_pow_sub_one_eq_mod c 7
  refine ⟨y, z, d, a, b, c, lc, ?_, ?_, ?_, ?_, ?_, ?_, ?_⟩
  · have e : ((x / 2 : Nat) : Int) = (x : Int) / 2 := by omega
    have e' : ((6148914691236517205 : Nat) : Int) = 6148914691236517205 := rfl
    rw [e, e'] at q1; rw [e'] at q2
    rw [q1, q2, IntKind.wrap_u64]
    omega
  · have e : ((y / 4 : Nat) : Int) = (y : Int) / 4 := by omega
    have e' : ((3689348814741910323 : Nat) : Int) = 3689348814741910323 := rfl
    rw [e, e'] at q3; rw [e'] at q4
    rw [q3, q4, IntKind.wrap_u64]
    omega
  · have e : IntKind.u64.wrap ((z : Int) / 16 + (z : Int)) = ((z / 16 + z : Nat) : Int) := by rw [IntKind.wrap_u64]; omega
    have e' : ((1085102592571150095 : Nat) : Int) = 1085102592571150095 := rfl
    rw [e'] at q5
    rw [e, q5, r3]
  · rw [IntKind.wrap_u64]; omega
  · rw [IntKind.wrap_u64]; omega
  · rw [IntKind.wrap_u64]; omega
  · have e' : ((127 : Nat) : Int) = 127 := rfl
    rw [e'] at q6
    rw [q6, q7, hs]

theorem pop_any (x : Nat) (hx : x < 18446744073709551616) (w : World) : Calls Tryd.prog 58 #[.int .u64 x] w fun e w' => e = .returned (.int .i64 ((cnt (fun j => x.testBit j) 64 : Nat) : Int)) ∧ w' = w := by
  obtain ⟨y, z, d, a, b, c, lc, s1, s2, s3, s4, s5, s6, s7⟩ := pop_chain x hx
  generalize cnt (fun j => x.testBit j) 64 = n at *
  go_enter Tryd.func58, Tryd.ntmps58
  go_wp2
  go_ret
  exact ⟨rfl, rfl⟩

/-- The library's table, as its text lays it. -/
def Tab (w : World) : Prop := ∀ j, j < 64 → w.cell? ⟨0, j, none⟩ = some (.int .u8 ((Lib.deBruijn64tab.getD j 0 : Nat) : Int))
theorem Tab.later {w w' : World} (h : Tab w) (hb : Below w.heap.size w w') : Tab w' := fun j hj => (hb.cell (block_lt_of_cell (h j hj))).trans (h j hj)

theorem tz_key (x a : Nat) (hx : x < 18446744073709551616) (hx0 : x ≠ 0) (hlow : x &&& (18446744073709551616 - x) = a) :
    IntKind.u64.wrap (bits BinOp.and IntKind.u64 (x : Int) (IntKind.u64.wrap (-(x : Int))) * 285870213051353865) / 288230376151711744 = ((a * 285870213051353865 % 18446744073709551616 / 288230376151711744 : Nat) : Int) := by
  have e1 : IntKind.u64.wrap (-(x : Int)) = ((18446744073709551616 - x : Nat) : Int) := by rw [IntKind.wrap_u64]; omega
  rw [e1, bits_and_u64_nat x _ hx (by omega), hlow, IntKind.wrap_u64]
  omega
set_option maxHeartbeats 400000 in
theorem tz_core (x k idx : Nat) (w : World) (hx0 : ((x : Int) == 0) = false)
    (key : IntKind.u64.wrap (bits BinOp.and IntKind.u64 (x : Int) (IntKind.u64.wrap (-(x : Int))) * 285870213051353865) / 288230376151711744 = (idx : Int))
    (hi : idx < 64) (hk : k < 64) (hcell : w.cell? ⟨0, idx, none⟩ = some (.int .u8 k)) :
    Calls Tryd.prog 116 #[.int .u64 x] w fun e w' => e = .returned (.int .i64 k) ∧ w' = w := by
  go_enter Tryd.func116, Tryd.ntmps116
  go_wp2_with (simp only [key])
  go_ret
  exact ⟨rfl, rfl⟩
/-- The first bit that is set. -/
theorem tz_any (x : Nat) (hx : x < 18446744073709551616) (hx0 : x ≠ 0) (w : World) (hT : Tab w) :
    ∃ k : Nat, k < 64 ∧ x.testBit k = true ∧ (∀ j, j < k → x.testBit j = false) ∧ Calls Tryd.prog 116 #[.int .u64 x] w fun e w' => e = .returned (.int .i64 k) ∧ w' = w := by
  obtain ⟨hlow, hk⟩ := Lib.lowest_bit 64 x hx0 hx
  obtain ⟨hi, htab⟩ := Lib.deBruijn64_at _ hk
  have hcell := hT _ hi
  rw [htab] at hcell
  have hb : ∀ j, j ≤ Lib.ctz 64 x → x.testBit j = decide (j = Lib.ctz 64 x) := by
    obtain ⟨m, hm, hlt⟩ := Lib.ctzFrom_spec 64 x (by omega) hx
    have e : Lib.ctz 64 x = Lib.ctzFrom 64 x := by simp [Lib.ctz, hx0]
    rw [e]
    clear hcell htab hi hlow hk e
    generalize Lib.ctzFrom 64 x = k at *
    intro j hj
    rw [hm, Nat.mul_comm, Nat.testBit_mul_two_pow]
    by_cases hjk : j = k
    · subst hjk; simp
    · have : ¬ k ≤ j := by omega
      simp [this, hjk]
  exact ⟨_, hk, by rw [hb _ (Nat.le_refl _)]; simp, fun j hj => by rw [hb _ (by omega)]; simp; omega, tz_core x _ _ w (by simp; omega) (tz_key x _ hx hx0 hlow) hi hk hcell⟩

end Go.Proofs.YtpmobjgnmidolaaDoor

/- What masks.later and earlier come to, and masks.Shift. -/
namespace Go.Proofs.YtpmobjgnmidolaaDoor
open Go.RowKit Msk

/-- A word of a mask that is moved upward, out of the two words that it comes from. -/
theorem up_one (f : Nat → Bool) (by' i q r : Nat) (hq : q = by' / 64) (hr : r = by' % 64) (hi : q ≤ i) :
    IntKind.u64.wrap ((wd f (i - q) : Int) * 2 ^ r) = ((wd (fun t => decide (by' ≤ t) && decide (64 * (i - q) ≤ t - by') && f (t - by')) i : Nat) : Int) := by
  have e1 : wd (fun t => decide (by' ≤ t) && decide (64 * (i - q) ≤ t - by') && f (t - by')) i = wd f (i - q) * 2 ^ r % 18446744073709551616 := by
    symm
    refine wd_eq _ _ _ (Nat.mod_lt _ (by omega)) fun j hj => ?_
    rw [shl_bit _ _ j hj, wd_bit]
    by_cases h : r ≤ j
    · have a1 : by' ≤ 64 * i + j := by omega
      have a2 : 64 * (i - q) ≤ 64 * i + j - by' := by omega
      have a3 : 64 * (i - q) + (j - r) = 64 * i + j - by' := by omega
      have a4 : j - r < 64 := by omega
      simp [h, a1, a2, a3, a4]
    · by_cases a1 : by' ≤ 64 * i + j
      · have a2 : ¬ 64 * (i - q) ≤ 64 * i + j - by' := by omega
        simp [h, a2]
      · simp [h, a1]
  rw [IntKind.wrap_u64, e1]
  have : ((2 : Int) ^ r) = ((2 ^ r : Nat) : Int) := by simp
  rw [this]
  omega
theorem up_two (f : Nat → Bool) (by' i q r : Nat) (hq : q = by' / 64) (hr : r = by' % 64) (hi : q < i) :
    ((wd (fun t => decide (by' ≤ t) && decide (64 * (i - q) ≤ t - by') && f (t - by')) i ||| wd f (i - q - 1) / 2 ^ (64 - r) : Nat)) = wd (fun t => decide (by' ≤ t) && f (t - by')) i := by
  have l1 := wd_lt f (i - q - 1)
  have l2 : wd f (i - q - 1) / 2 ^ (64 - r) ≤ wd f (i - q - 1) := Nat.div_le_self _ _
  refine wd_eq _ _ _ (show _ < 2 ^ 64 from Nat.or_lt_two_pow (wd_lt _ _) (by omega)) fun j hj => ?_
  rw [Nat.testBit_or, wd_bit, shr_bit, wd_bit]
  have a1 : by' ≤ 64 * i + j := by omega
  by_cases h : r ≤ j
  · have a2 : 64 * (i - q) ≤ 64 * i + j - by' := by omega
    have a4 : ¬ j + (64 - r) < 64 := by omega
    simp [hj, a1, a2, a4]
  · have a2 : ¬ 64 * (i - q) ≤ 64 * i + j - by' := by omega
    have a3 : 64 * (i - q - 1) + (j + (64 - r)) = 64 * i + j - by' := by omega
    have a4 : j + (64 - r) < 64 := by omega
    simp [hj, a1, a2, a3, a4]
/-- A word of a mask that is moved downward. -/
theorem down_one (f : Nat → Bool) (by' i q r : Nat) (hq : q = by' / 64) (hr : r = by' % 64) (hi : q ≤ i) :
    wd f i / 2 ^ r = wd (fun t => decide (t + by' < 64 * (i + 1)) && f (t + by')) (i - q) := by
  have l2 : wd f i / 2 ^ r ≤ wd f i := Nat.div_le_self _ _
  have l1 := wd_lt f i
  refine wd_eq _ _ _ (by omega) fun j hj => ?_
  rw [shr_bit, wd_bit]
  by_cases h : j + r < 64
  · have a1 : 64 * (i - q) + j + by' < 64 * (i + 1) := by omega
    have a2 : 64 * i + (j + r) = 64 * (i - q) + j + by' := by omega
    simp [h, a1, a2]
  · have a1 : ¬ 64 * (i - q) + j + by' < 64 * (i + 1) := by omega
    simp [h, a1]
theorem down_two (f : Nat → Bool) (by' i q r : Nat) (hq : q = by' / 64) (hr : r = by' % 64) (hi : q ≤ i) :
    bits .or .u64 (wd (fun t => decide (t + by' < 64 * (i + 1)) && f (t + by')) (i - q) : Int) (IntKind.u64.wrap ((wd f (i + 1) : Int) * 2 ^ (64 - r))) = ((wd (fun t => f (t + by')) (i - q) : Nat) : Int) := by
  have e1 : IntKind.u64.wrap ((wd f (i + 1) : Int) * 2 ^ (64 - r)) = ((wd (fun t => !decide (t + by' < 64 * (i + 1)) && f (t + by')) (i - q) : Nat) : Int) := by
    have e2 : wd (fun t => !decide (t + by' < 64 * (i + 1)) && f (t + by')) (i - q) = wd f (i + 1) * 2 ^ (64 - r) % 18446744073709551616 := by
      symm
      refine wd_eq _ _ _ (Nat.mod_lt _ (by omega)) fun j hj => ?_
      rw [shl_bit _ _ j hj, wd_bit]
      by_cases h : 64 - r ≤ j
      · have a1 : ¬ 64 * (i - q) + j + by' < 64 * (i + 1) := by omega
        have a2 : 64 * (i + 1) + (j - (64 - r)) = 64 * (i - q) + j + by' := by omega
        have a3 : j - (64 - r) < 64 := by omega
        simp [h, a1, a2, a3]
      · have a1 : 64 * (i - q) + j + by' < 64 * (i + 1) := by omega
        simp [h, a1]
    rw [IntKind.wrap_u64, e2]
    have : ((2 : Int) ^ (64 - r)) = ((2 ^ (64 - r) : Nat) : Int) := by simp
    rw [this]
    omega
  rw [e1, bits_or_u64_nat _ _ (wd_lt _ _) (wd_lt _ _), wd_or]
  have e3 : wd (fun t => (decide (t + by' < 64 * (i + 1)) && f (t + by')) || (!decide (t + by' < 64 * (i + 1)) && f (t + by'))) (i - q) = wd (fun t => f (t + by')) (i - q) := wd_ext fun j _ => by
    cases decide (64 * (i - q) + j + by' < 64 * (i + 1)) <;> simp
  rw [e3]

/-! As the walks ask them. -/
theorem up_put1 (f : Nat → Bool) (b i q r d : Nat) (hq : q = b / 64) (hr : r = b % 64) (hd : i = q + d) :
    IntKind.u64.wrap ((wd f d : Int) * 2 ^ r) = ((wd (fun t => decide (b ≤ t) && decide (64 * d ≤ t - b) && f (t - b)) i : Nat) : Int) := by
  have := up_one f b i q r hq hr (by omega)
  have e : i - q = d := by omega
  rw [e] at this
  exact this
theorem up_put0 (f : Nat → Bool) (b q r : Nat) (hq : q = b / 64) (hr : r = b % 64) :
    IntKind.u64.wrap ((wd f 0 : Int) * 2 ^ r) = ((wd (fun t => decide (b ≤ t) && f (t - b)) q : Nat) : Int) := by
  rw [up_put1 f b q q r 0 hq hr rfl]
  have e3 : wd (fun t => decide (b ≤ t) && decide (64 * 0 ≤ t - b) && f (t - b)) q = wd (fun t => decide (b ≤ t) && f (t - b)) q := wd_ext fun j _ => by simp
  rw [e3]
theorem up_put2 (f : Nat → Bool) (b i q r d : Nat) (hq : q = b / 64) (hr : r = b % 64) (hd : i = q + (d + 1)) :
    bits .or .u64 (wd (fun t => decide (b ≤ t) && decide (64 * (d + 1) ≤ t - b) && f (t - b)) i : Int) ((wd f d : Int) / 2 ^ (64 - r)) = ((wd (fun t => decide (b ≤ t) && f (t - b)) i : Nat) : Int) := by
  have := up_two f b i q r hq hr (by omega)
  have e : i - q = d + 1 := by omega
  rw [e] at this
  have e2 : ((wd f d : Int) / 2 ^ (64 - r)) = ((wd f d / 2 ^ (64 - r) : Nat) : Int) := by simp
  have l2 : wd f d / 2 ^ (64 - r) ≤ wd f d := Nat.div_le_self _ _
  have l1 := wd_lt f d
  rw [e2, bits_or_u64_nat _ _ (wd_lt _ _) (by omega)]
  exact congrArg _ this
theorem down_put1 (f : Nat → Bool) (b i q r d : Nat) (hq : q = b / 64) (hr : r = b % 64) (hd : i = q + d) :
    (wd f i : Int) / 2 ^ r = ((wd (fun t => decide (t + b < 64 * (i + 1)) && f (t + b)) d : Nat) : Int) := by
  have := down_one f b i q r hq hr (by omega)
  have e : i - q = d := by omega
  rw [e] at this
  rw [← this]; simp
theorem down_put2 (f : Nat → Bool) (b i q r d : Nat) (hq : q = b / 64) (hr : r = b % 64) (hd : i = q + d) (hi : i < 22) :
    bits .or .u64 (wd (fun t => decide (t + b < 64 * (i + 1)) && f (t + b)) d : Int) (IntKind.u64.wrap ((wd f (i + 1) : Int) * 2 ^ (64 - r))) = ((wd (fun t => decide (t + b < 1472) && f (t + b)) d : Nat) : Int) := by
  have := down_two f b i q r hq hr (by omega)
  have e : i - q = d := by omega
  rw [e] at this
  rw [this]
  have e3 : wd (fun t => f (t + b)) d = wd (fun t => decide (t + b < 1472) && f (t + b)) d := wd_ext fun j _ => by
    have : 64 * d + j + b < 1472 := by omega
    simp [this]
  rw [e3]
/-- A word that is written twice. -/
theorem mv_step2 (k : Nat) (hk : k < 23) (h : Nat → Bool) (v : Value) : ((mv fun i => decide (i < 64 * k) && h i).setIfInBounds k v).setIfInBounds k (.int .u64 (wd h k : Int)) = mv fun i => decide (i < 64 * (k + 1)) && h i := by
  rw [Array.setIfInBounds_setIfInBounds]
  exact mv_step k hk h
theorem up_start (f : Nat → Bool) (b q : Nat) (hq : q = b / 64) : mv (fun _ => false) = mv (fun t => decide (t < 64 * q) && (decide (b ≤ t) && f (t - b))) := mv_ext fun t _ => by
  by_cases h : t < 64 * q
  · have : ¬ b ≤ t := by omega
    simp [this]
  · simp [h]

set_option maxRecDepth 10000 in
set_option maxHeartbeats 2000000 in
theorem later_any (f : Nat → Bool) (b : Nat) (hb : b < 1440) (w : World) :
    Calls Tryd.prog 111 #[.agg (mv f), .int .i64 b] w fun e w' => e = .returned (.agg (mv fun t => decide (b ≤ t) && f (t - b))) ∧ Below w.heap.size w w' := by
  have hz := mv_lit
  obtain ⟨q, hq⟩ : ∃ q : Nat, q = b / 64 := ⟨_, rfl⟩
  obtain ⟨r, hr⟩ : ∃ r : Nat, r = b % 64 := ⟨_, rfl⟩
  have HQ : Hid (q = b / 64) := hq
  have HR : Hid (r = b % 64) := hr
  have t1 : (b : Int) / 64 = (q : Int) := by omega
  have t2 : (b : Int) % 64 = (r : Int) := by omega
  have hq23 : q < 23 := by omega
  have hr64 : r < 64 := by omega
  clear hq hr
  go_enter Tryd.func111, Tryd.ntmps111
  go_wp2
  go_loopw [8] (fun i wr => ∃ k d : Nat, k ≤ 23 ∧ k = q + d ∧ i = .int .i64 k ∧ wr.heap[w.heap.size]? = some (.cells (mv f) 37 (0, 0)) ∧ wr.heap[w.heap.size + 1]? = some (.cells (mv fun _ => false) 37 (0, 0)) ∧
      wr.heap[w.heap.size + 1 + 1]? = some (.cells (mv fun t => decide (t < 64 * k) && (decide (b ≤ t) && f (t - b))) 37 (0, 0)) ∧ Below w.heap.size w wr) (fun i _ => 23 - (intOf i).toNat)
  case atStart =>
    refine ⟨q, 0, by omega, rfl, rfl, ?_, ?_, ?_, ?_⟩
    · (repeat (first | refine blk_old _ _ _ (by simp only [size_alloc]; omega) ?_ | exact blk_new _ _ _ (by first | rfl | simp only [size_alloc])))
    · (repeat (first | refine blk_old _ _ _ (by simp only [size_alloc]; omega) ?_ | exact blk_new _ _ _ (by first | rfl | simp only [size_alloc])))
    · refine blk_eq ?_ (up_start f b q HQ.out)
      (repeat (first | refine blk_old _ _ _ (by simp only [size_alloc]; omega) ?_ | exact blk_new _ _ _ (by first | rfl | simp only [size_alloc])))
    · exact (((Below.refl _ _).alloc (Nat.le_refl _) _).alloc (by simp) _).alloc (by simp only [size_alloc]; omega) _
  case round =>
    obtain ⟨k, d, hk, hkd, rfl, ha, ho, hm, hbel⟩ := hrel
    have HD : Hid (k = q + d) := hkd
    by_cases hlt : k < 23
    · have ca := cell_mv ha d (by omega)
      have cm := cell_mv hm k hlt
      have fm := frozen_of_row _ _ k _ _ hm
      have e1 : (k : Int) - (q : Int) = (d : Int) := by omega
      have hi0 : (0 : Int) ≤ (d : Int) := by omega
      have hi1 : (d : Int) < 23 := by omega
      by_cases hd0 : d = 0
      · subst hd0
        have p1 := up_put0 f b q r HQ.out HR.out
        have hkq : k = q := hkd
        subst hkq
        clear hkd
        go_wp2
        go_roundw
        case rel =>
          refine ⟨k + 1, 1, by omega, rfl, by go_num, ?_, ?_, ?_, hbel.setCell (by dsimp only; omega) _⟩
          · exact (heap_setCell_other _ _ _ _ (by dsimp only; omega)).trans ha
          · exact (heap_setCell_other _ _ _ _ (by dsimp only; omega)).trans ho
          · exact blk_eq (heap_setCell_same _ _ _ _ _ _ hm) (mv_step k hlt fun t => decide (b ≤ t) && f (t - b))
        case measure => simp [intOf]; omega
      · obtain ⟨c, hc⟩ : ∃ c, d = c + 1 := ⟨d - 1, by omega⟩
        have p1 := up_put1 f b k q r d HQ.out HR.out hkd
        have p2 := up_put2 f b k q r c HQ.out HR.out (by omega)
        rw [← hc] at p2
        have e2 : (d : Int) - 1 = (c : Int) := by omega
        have e3 : IntKind.i64.wrap ((k : Int) - (q : Int)) = (d : Int) := by rw [IntKind.wrap_i64]; omega
        have e4 : IntKind.i64.wrap ((d : Int) - 1) = (c : Int) := by rw [IntKind.wrap_i64]; omega
        have e5 : IntKind.i64.wrap (64 - (r : Int)) = 64 - (r : Int) := by rw [IntKind.wrap_i64]; omega
        have e6 : (64 - (r : Int)).toNat = 64 - r := by omega
        have e7 : (0 : Int) ≤ 64 - (r : Int) := by omega
        have j0 : (0 : Int) ≤ (c : Int) := by omega
        have j1 : (c : Int) < 23 := by omega
        have cc := cell_mv ha c (by omega)
        have hgt : (q : Int) < (k : Int) := by omega
        generalize (fun t => decide (b ≤ t) && decide (64 * d ≤ t - b) && f (t - b)) = G1 at p1 p2
        have c1 : (wr.setCell ⟨w.heap.size + 1 + 1, k, none⟩ (.int .u64 (wd G1 k : Int))).cell? ⟨w.heap.size, c, none⟩ = some (.int .u64 (wd f c : Int)) := (cell_set_far _ _ _ _ (by dsimp only; omega)).trans cc
        have hm2 := heap_setCell_same _ _ k _ _ (.int .u64 (wd G1 k : Int)) hm
        have c2 : (wr.setCell ⟨w.heap.size + 1 + 1, k, none⟩ (.int .u64 (wd G1 k : Int))).cell? ⟨w.heap.size + 1 + 1, k, none⟩ = some (.int .u64 (wd G1 k : Int)) := by
          rw [cell_of_row _ _ k _ _ _ hm2]
          simp [mv_size, hlt]
        have f2 := frozen_of_row _ _ k _ _ hm2
        have HM2 : Hid ((wr.setCell ⟨w.heap.size + 1 + 1, k, none⟩ (.int .u64 (wd G1 k : Int))).heap[w.heap.size + 1 + 1]? = some (.cells ((mv fun t => decide (t < 64 * k) && (decide (b ≤ t) && f (t - b))).setIfInBounds k (.int .u64 (wd G1 k : Int))) 37 (0, 0))) := hm2
        clear hm2 hkd hc
        go_wp2
        go_region
        go_wp2
        go_roundw
        case rel =>
          have hD := HD.out
          refine ⟨k + 1, d + 1, by omega, by omega, by go_num, ?_, ?_, ?_, ((hbel.setCell (by dsimp only; omega) _).setCell (by dsimp only; omega) _).drew⟩
          · exact ((heap_setCell_other _ _ _ _ (by dsimp only; omega)).trans (heap_setCell_other _ _ _ _ (by dsimp only; omega))).trans ha
          · exact ((heap_setCell_other _ _ _ _ (by dsimp only; omega)).trans (heap_setCell_other _ _ _ _ (by dsimp only; omega))).trans ho
          · exact blk_eq (heap_setCell_same _ _ _ _ _ _ HM2.out) (mv_step2 k hlt (fun t => decide (b ≤ t) && f (t - b)) _)
        case measure => simp [intOf]; omega
    · have hk23 : k = 23 := by omega
      subst hk23
      have hm' := blk_eq hm (mv_full _)
      clear hm HD hkd
      go_wp2_with (first
        | (refine wpList_load_row rfl 37 _ rfl _ rfl _ _ _ _ hm' maskType rfl (maskSize _) ?_)
        | (refine wpList_store_row rfl 37 _ _ rfl _ _ rfl rfl _ _ ho (maskSize _) (by simp [mv_size]) (mv_all _) ?_))
      refine bodyPost_ret (v := .agg (mv fun t => decide (b ≤ t) && f (t - b))) ?_ rfl ⟨rfl, ?_⟩
      · exact results_cell_row rfl _ _ (w.heap.size + 1) _ _ _ _ rfl (setRow_heap _ _ _ _ _ _ ho) maskType rfl (maskSize _)
      · exact below_setRow hbel (by omega) _
end Go.Proofs.YtpmobjgnmidolaaDoor

/- What masks.earlier comes to, and masks.Shift. -/
namespace Go.Proofs.YtpmobjgnmidolaaDoor
open Go.RowKit Msk

theorem down_full (f : Nat → Bool) (b q d : Nat) (hq : q = b / 64) (hd : 23 = q + d) : (mv fun t => decide (t < 64 * d) && (decide (t + b < 1472) && f (t + b))) = mv fun t => decide (t + b < 1472) && f (t + b) := mv_ext fun t ht => by
  by_cases h : t < 64 * d
  · simp [h]
  · have : ¬ t + b < 1472 := by omega
    simp [this]

theorem down_put22 (f : Nat → Bool) (b i q r d : Nat) (hq : q = b / 64) (hr : r = b % 64) (hd : i = q + d) (h22 : i = 22) :
    (wd f i : Int) / 2 ^ r = ((wd (fun t => decide (t + b < 1472) && f (t + b)) d : Nat) : Int) := by
  rw [down_put1 f b i q r d hq hr hd]
  rw [wd_ext (f := fun t => decide (t + b < 64 * (i + 1)) && f (t + b)) (g := fun t => decide (t + b < 1472) && f (t + b)) fun j _ => by
    have : (64 * d + j + b < 64 * (i + 1)) = (64 * d + j + b < 1472) := by apply propext; omega
    simp only [this]]

set_option maxRecDepth 10000 in
set_option maxHeartbeats 2000000 in
theorem earlier_any (f : Nat → Bool) (b : Nat) (hb : b < 1440) (w : World) :
    Calls Tryd.prog 110 #[.agg (mv f), .int .i64 b] w fun e w' => e = .returned (.agg (mv fun t => decide (t + b < 1472) && f (t + b))) ∧ Below w.heap.size w w' := by
  have hz := mv_lit
  obtain ⟨q, hq⟩ : ∃ q : Nat, q = b / 64 := ⟨_, rfl⟩
  obtain ⟨r, hr⟩ : ∃ r : Nat, r = b % 64 := ⟨_, rfl⟩
  have HQ : Hid (q = b / 64) := hq
  have HR : Hid (r = b % 64) := hr
  have t1 : (b : Int) / 64 = (q : Int) := by omega
  have t2 : (b : Int) % 64 = (r : Int) := by omega
  have hq23 : q < 23 := by omega
  have hr64 : r < 64 := by omega
  clear hq hr
  go_enter Tryd.func110, Tryd.ntmps110
  go_wp2
  go_loopw [8] (fun i wr => ∃ k d : Nat, k ≤ 23 ∧ k = q + d ∧ i = .int .i64 k ∧ wr.heap[w.heap.size]? = some (.cells (mv f) 37 (0, 0)) ∧ wr.heap[w.heap.size + 1]? = some (.cells (mv fun _ => false) 37 (0, 0)) ∧
      wr.heap[w.heap.size + 1 + 1]? = some (.cells (mv fun t => decide (t < 64 * d) && (decide (t + b < 1472) && f (t + b))) 37 (0, 0)) ∧ Below w.heap.size w wr) (fun i _ => 23 - (intOf i).toNat)
  case atStart =>
    refine ⟨q, 0, by omega, rfl, rfl, ?_, ?_, ?_, ?_⟩
    · (repeat (first | refine blk_old _ _ _ (by simp only [size_alloc]; omega) ?_ | exact blk_new _ _ _ (by first | rfl | simp only [size_alloc])))
    · (repeat (first | refine blk_old _ _ _ (by simp only [size_alloc]; omega) ?_ | exact blk_new _ _ _ (by first | rfl | simp only [size_alloc])))
    · refine blk_eq ?_ (mv_start _)
      (repeat (first | refine blk_old _ _ _ (by simp only [size_alloc]; omega) ?_ | exact blk_new _ _ _ (by first | rfl | simp only [size_alloc])))
    · exact (((Below.refl _ _).alloc (Nat.le_refl _) _).alloc (by simp) _).alloc (by simp only [size_alloc]; omega) _
  case round =>
    obtain ⟨k, d, hk, hkd, rfl, ha, ho, hm, hbel⟩ := hrel
    have HD : Hid (k = q + d) := hkd
    by_cases hlt : k < 23
    · have ca := cell_mv ha k (by omega)
      have hd23 : d < 23 := by omega
      have cm := cell_mv hm d hd23
      have fm := frozen_of_row _ _ d _ _ hm
      have e1 : (k : Int) - (q : Int) = (d : Int) := by omega
      have hi0 : (0 : Int) ≤ (d : Int) := by omega
      have hi1 : (d : Int) < 23 := by omega
      have p1 := down_put1 f b k q r d HQ.out HR.out hkd
      by_cases hd0 : k = 22
      · have hlast : (22 : Int) ≤ (k : Int) := by omega
        have p3 := down_put22 f b k q r d HQ.out HR.out hkd hd0
        have HK : Hid (k = 22) := hd0
        clear p1 hkd hd0
        go_wp2
        go_roundw
        case rel =>
          have hD := HD.out
          have hK := HK.out
          refine ⟨k + 1, d + 1, by omega, by omega, by go_num, ?_, ?_, ?_, hbel.setCell (by dsimp only; omega) _⟩
          · exact (heap_setCell_other _ _ _ _ (by dsimp only; omega)).trans ha
          · exact (heap_setCell_other _ _ _ _ (by dsimp only; omega)).trans ho
          · exact blk_eq (heap_setCell_same _ _ _ _ _ _ hm) (mv_step d hd23 fun t => decide (t + b < 1472) && f (t + b))
        case measure =>
          have hK := HK.out
          simp [intOf]; omega
      · have p2 := down_put2 f b k q r d HQ.out HR.out hkd (by omega)
        generalize (fun t => decide (t + b < 64 * (k + 1)) && f (t + b)) = G1 at p1 p2
        obtain ⟨c, hc⟩ : ∃ c, c = k + 1 := ⟨_, rfl⟩
        rw [← hc] at p2
        have e2 : (k : Int) + 1 = (c : Int) := by omega
        have e3 : IntKind.i64.wrap ((k : Int) - (q : Int)) = (d : Int) := by rw [IntKind.wrap_i64]; omega
        have e4 : IntKind.i64.wrap ((k : Int) + 1) = (c : Int) := by rw [IntKind.wrap_i64]; omega
        have e5 : IntKind.i64.wrap (64 - (r : Int)) = 64 - (r : Int) := by rw [IntKind.wrap_i64]; omega
        have e6 : (64 - (r : Int)).toNat = 64 - r := by omega
        have e7 : (0 : Int) ≤ 64 - (r : Int) := by omega
        have j0 : (0 : Int) ≤ (c : Int) := by omega
        have j1 : (c : Int) < 23 := by omega
        have cc := cell_mv ha c (by omega)
        have c1 : (wr.setCell ⟨w.heap.size + 1 + 1, d, none⟩ (.int .u64 (wd G1 d : Int))).cell? ⟨w.heap.size, c, none⟩ = some (.int .u64 (wd f c : Int)) := (cell_set_far _ _ _ _ (by dsimp only; omega)).trans cc
        have hm2 := heap_setCell_same _ _ d _ _ (.int .u64 (wd G1 d : Int)) hm
        have c2 : (wr.setCell ⟨w.heap.size + 1 + 1, d, none⟩ (.int .u64 (wd G1 d : Int))).cell? ⟨w.heap.size + 1 + 1, d, none⟩ = some (.int .u64 (wd G1 d : Int)) := by
          rw [cell_of_row _ _ d _ _ _ hm2]
          simp [mv_size, hd23]
        have f2 := frozen_of_row _ _ d _ _ hm2
        have HM2 : Hid ((wr.setCell ⟨w.heap.size + 1 + 1, d, none⟩ (.int .u64 (wd G1 d : Int))).heap[w.heap.size + 1 + 1]? = some (.cells ((mv fun t => decide (t < 64 * d) && (decide (t + b < 1472) && f (t + b))).setIfInBounds d (.int .u64 (wd G1 d : Int))) 37 (0, 0))) := hm2
        have HC : Hid (c = k + 1) := hc
        clear hm2 hkd hc
        go_wp2
        go_region
        go_wp2
        go_roundw
        case rel =>
          have hD := HD.out
          have hC := HC.out
          refine ⟨c, d + 1, by omega, by omega, by go_num, ?_, ?_, ?_, ((hbel.setCell (by dsimp only; omega) _).setCell (by dsimp only; omega) _).drew⟩
          · exact ((heap_setCell_other _ _ _ _ (by dsimp only; omega)).trans (heap_setCell_other _ _ _ _ (by dsimp only; omega))).trans ha
          · exact ((heap_setCell_other _ _ _ _ (by dsimp only; omega)).trans (heap_setCell_other _ _ _ _ (by dsimp only; omega))).trans ho
          · refine blk_eq (heap_setCell_same _ _ _ _ _ _ HM2.out) ?_
            exact mv_step2 d hd23 (fun t => decide (t + b < 1472) && f (t + b)) _
        case measure =>
          have hC := HC.out
          simp [intOf]; omega
    · have hk23 : k = 23 := by omega
      subst hk23
      have hm' := blk_eq hm (down_full f b q d HQ.out HD.out)
      clear hm HD hkd
      go_wp2_with (first
        | (refine wpList_load_row rfl 37 _ rfl _ rfl _ _ _ _ hm' maskType rfl (maskSize _) ?_)
        | (refine wpList_store_row rfl 37 _ _ rfl _ _ rfl rfl _ _ ho (maskSize _) (by simp [mv_size]) (mv_all _) ?_))
      refine bodyPost_ret (v := .agg (mv fun t => decide (t + b < 1472) && f (t + b))) ?_ rfl ⟨rfl, ?_⟩
      · exact results_cell_row rfl _ _ (w.heap.size + 1) _ _ _ _ rfl (setRow_heap _ _ _ _ _ _ ho) maskType rfl (maskSize _)
      · exact below_setRow hbel (by omega) _

end Go.Proofs.YtpmobjgnmidolaaDoor

/- What masks.Shift comes to. -/
namespace Go.Proofs.YtpmobjgnmidolaaDoor
open Go.RowKit Msk

/-- What is left of a mask that is moved: by minutes later, or earlier. -/
def shf (f : Nat → Bool) (x : Int) (t : Nat) : Bool := decide (t < 1440) && (decide (x ≤ (t : Int)) && (decide ((t : Int) - x < 1440) && f ((t : Int) - x).toNat))

theorem shf_none (f : Nat → Bool) (x : Int) (h : x ≤ -1440 ∨ 1440 ≤ x) : (mv fun _ => false) = mv (shf f x) := mv_ext fun t _ => by
  unfold shf
  by_cases h1 : t < 1440
  · by_cases h2 : x ≤ (t : Int)
    · have : ¬ (t : Int) - x < 1440 := by omega
      simp [this]
    · simp [h2]
  · simp [h1]
theorem shf_up (f : Nat → Bool) (b : Nat) : (mv fun t => (decide (b ≤ t) && f (t - b)) && decide (t < 1440)) = mv (shf f (b : Int)) := mv_ext fun t _ => by
  unfold shf
  by_cases h1 : t < 1440
  · by_cases h2 : b ≤ t
    · have e1 : ((t : Int) - (b : Int)).toNat = t - b := by omega
      have e2 : (b : Int) ≤ (t : Int) := by omega
      have e3 : (t : Int) - (b : Int) < 1440 := by omega
      simp [h1, h2, e1, e3]
    · have e2 : ¬ (b : Int) ≤ (t : Int) := by omega
      simp [h2]
  · simp [h1]
theorem shf_down (f : Nat → Bool) (b : Nat) : (mv fun t => decide (t + b < 1472) && (f (t + b) && decide (t + b < 1440))) = mv (shf f (-(b : Int))) := mv_ext fun t _ => by
  unfold shf
  by_cases h1 : t + b < 1440
  · have e1 : ((t : Int) - -(b : Int)).toNat = t + b := by omega
    have e2 : -(b : Int) ≤ (t : Int) := by omega
    have e3 : (t : Int) - -(b : Int) < 1440 := by omega
    have e4 : t + b < 1472 := by omega
    have e5 : t < 1440 := by omega
    rw [e1]
    simp only [h1, e2, e3, e4, e5, decide_true, Bool.true_and, Bool.and_true]
  · have e3 : ¬ (t : Int) - -(b : Int) < 1440 := by omega
    simp only [h1, e3, decide_false, Bool.and_false, Bool.false_and]

set_option maxRecDepth 10000 in
set_option maxHeartbeats 2000000 in
theorem mshift_any (f : Nat → Bool) (x : Int) (w : World) (hx0 : -9223372036854775808 ≤ x) (hx1 : x ≤ 9223372036854775807) :
    Calls Tryd.prog 81 #[.agg (mv f), .int .i64 x] w fun e w' => e = .returned (.agg (mv (shf f x))) ∧ Below w.heap.size w w' := by
  have hz := mv_lit
  have h1 : ((w.alloc (.cells (mv f) 37)).alloc (.cells (mv fun _ => false) 37)).heap[w.heap.size]? = some (.cells (mv f) 37 (0, 0)) := by (repeat (first | refine blk_old _ _ _ (by simp only [size_alloc]; omega) ?_ | exact blk_new _ _ _ (by first | rfl | simp only [size_alloc])))
  have h3 : ((w.alloc (.cells (mv f) 37)).alloc (.cells (mv fun _ => false) 37)).heap[w.heap.size + 1]? = some (.cells (mv fun _ => false) 37 (0, 0)) := by (repeat (first | refine blk_old _ _ _ (by simp only [size_alloc]; omega) ?_ | exact blk_new _ _ _ (by first | rfl | simp only [size_alloc])))
  have hb0 : Below w.heap.size w ((w.alloc (.cells (mv f) 37)).alloc (.cells (mv fun _ => false) 37)) := ((Below.refl _ _).alloc (Nat.le_refl _) _).alloc (by simp) _
  rcases (show (x ≤ -1440) ∨ (1440 ≤ x) ∨ (-1440 < x ∧ x < 0) ∨ (0 ≤ x ∧ x < 1440) from by omega) with h | h | ⟨h, h'⟩ | ⟨h, h'⟩
  · rw [← shf_none f x (.inl h)]
    go_enter Tryd.func81, Tryd.ntmps81
    go_wp2_with (refine wpList_store_row rfl 37 _ _ rfl _ _ rfl rfl _ _ h3 (maskSize _) (by simp [mv_size]) (mv_all _) ?_)
    refine bodyPost_ret (v := .agg (mv fun _ => false)) ?_ rfl ⟨rfl, below_setRow hb0 (by omega) _⟩
    exact results_cell_row rfl _ _ (w.heap.size + 1) _ _ _ _ rfl (setRow_heap _ _ _ _ _ _ h3) maskType rfl (maskSize _)
  · rw [← shf_none f x (.inr h)]
    have hno : ¬ x ≤ -1440 := by omega
    go_enter Tryd.func81, Tryd.ntmps81
    go_wp2_with (refine wpList_store_row rfl 37 _ _ rfl _ _ rfl rfl _ _ h3 (maskSize _) (by simp [mv_size]) (mv_all _) ?_)
    refine bodyPost_ret (v := .agg (mv fun _ => false)) ?_ rfl ⟨rfl, below_setRow hb0 (by omega) _⟩
    exact results_cell_row rfl _ _ (w.heap.size + 1) _ _ _ _ rfl (setRow_heap _ _ _ _ _ _ h3) maskType rfl (maskSize _)
  · obtain ⟨b, hb⟩ : ∃ b : Nat, -x = b := ⟨(-x).toNat, by omega⟩
    have hb2 : b < 1440 := by omega
    have hx : x = -(b : Int) := by omega
    have hshf := shf_down f b
    rw [← hx] at hshf
    rw [← hshf]
    clear hshf hx
    go_enter Tryd.func81, Tryd.ntmps81
    go_wp2_with (first
      | (refine wpList_load_row rfl 37 _ rfl _ rfl _ _ _ _ h1 maskType rfl (maskSize _) ?_)
      | (go_at_call 57; refine (trim_any _ _).mono ?_; rintro e w' ⟨rfl, hb'⟩; have ho' := (hb'.block _ (lt_of_block h3)).trans h3)
      | (go_at_call 110; refine (earlier_any _ _ hb2 _).mono ?_; rintro e w'' ⟨rfl, hb''⟩; have ho'' := (hb''.block _ (lt_of_block ho')).trans ho')
      | (refine wpList_store_row rfl 37 _ _ rfl _ _ rfl rfl _ _ ho'' (maskSize _) (by simp [mv_size]) (mv_all _) ?_))
    refine bodyPost_ret (v := .agg (mv fun t => decide (t + b < 1472) && (f (t + b) && decide (t + b < 1440)))) ?_ rfl ⟨rfl, ?_⟩
    · exact results_cell_row rfl _ _ (w.heap.size + 1) _ _ _ _ rfl (setRow_heap _ _ _ _ _ _ ho'') maskType rfl (maskSize _)
    · have hb1 := hb0.trans (hb'.mono hb0.size)
      exact below_setRow (hb1.trans (hb''.mono hb1.size)) (by omega) _
  · obtain ⟨b, rfl⟩ : ∃ b : Nat, x = b := ⟨x.toNat, by omega⟩
    rw [← shf_up f b]
    have hb2 : b < 1440 := by omega
    go_enter Tryd.func81, Tryd.ntmps81
    go_wp2_with (first
      | (refine wpList_load_row rfl 37 _ rfl _ rfl _ _ _ _ h1 maskType rfl (maskSize _) ?_)
      | (go_at_call 111; refine (later_any _ _ hb2 _).mono ?_; rintro e w' ⟨rfl, hb'⟩; have ho' := (hb'.block _ (lt_of_block h3)).trans h3)
      | (go_at_call 57; refine (trim_any _ _).mono ?_; rintro e w'' ⟨rfl, hb''⟩; have ho'' := (hb''.block _ (lt_of_block ho')).trans ho')
      | (refine wpList_store_row rfl 37 _ _ rfl _ _ rfl rfl _ _ ho'' (maskSize _) (by simp [mv_size]) (mv_all _) ?_))
    refine bodyPost_ret (v := .agg (mv fun t => (decide (b ≤ t) && f (t - b)) && decide (t < 1440))) ?_ rfl ⟨rfl, ?_⟩
    · exact results_cell_row rfl _ _ (w.heap.size + 1) _ _ _ _ rfl (setRow_heap _ _ _ _ _ _ ho'') maskType rfl (maskSize _)
    · have hb1 := hb0.trans (hb'.mono hb0.size)
      exact below_setRow (hb1.trans (hb''.mono hb1.size)) (by omega) _

end Go.Proofs.YtpmobjgnmidolaaDoor

/- Code, plainly: who calls whom; what is wrong with an instruction, with a rule's code, with all. -/
namespace Vx

/-- One way after the other, at least one. -/
abbrev Way (E : Nat → Nat → Bool) (i k : Nat) : Prop := Relation.TransGen (fun a b => E a b = true) i k
/-- All ways at once, through the first so many. -/
def wars (E : Nat → Nat → Bool) : Nat → Nat → Nat → Bool
  | 0, i, k => E i k
  | m + 1, i, k => wars E m i k || (wars E m i m && wars E m m k)
theorem wars_mono {E : Nat → Nat → Bool} {m i k : Nat} (h : wars E m i k = true) : ∀ d, wars E (m + d) i k = true
  | 0 => h
  | d + 1 => by
    show wars E ((m + d) + 1) i k = true
    simp only [wars, wars_mono h d, Bool.true_or]
theorem wars_cat {E : Nat → Nat → Bool} {m i j k : Nat} (hj : j < m) (h1 : wars E m i j = true) (h2 : wars E m j k = true) : wars E m i k = true := by
  induction m generalizing i j k with
  | zero => omega
  | succ m ih =>
    by_cases hjm : j = m
    · subst hjm
      simp only [wars, Bool.or_eq_true, Bool.and_eq_true] at h1 h2 ⊢
      have a : wars E j i j = true := by
        rcases h1 with h | ⟨h, _⟩ <;> exact h
      have b : wars E j j k = true := by
        rcases h2 with h | ⟨_, h⟩ <;> exact h
      exact .inr ⟨a, b⟩
    · have hj' : j < m := by omega
      simp only [wars, Bool.or_eq_true, Bool.and_eq_true] at h1 h2 ⊢
      rcases h1 with h1 | ⟨h1, h1'⟩
      · rcases h2 with h2 | ⟨h2, h2'⟩
        · exact .inl (ih hj' h1 h2)
        · exact .inr ⟨ih hj' h1 h2, h2'⟩
      · rcases h2 with h2 | ⟨h2, h2'⟩
        · exact .inr ⟨h1, ih hj' h1' h2⟩
        · exact .inr ⟨h1, h2'⟩
/-- From one to the next one fewer are reached. -/
def rk (E : Nat → Nat → Bool) (n i : Nat) : Nat := Msk.cnt (fun k => wars E n i k) n
theorem cnt_mono {f g : Nat → Bool} : ∀ {n : Nat}, (∀ k, k < n → f k = true → g k = true) → Msk.cnt f n ≤ Msk.cnt g n
  | 0, _ => Nat.le_refl _
  | n + 1, h => by
    have ih := cnt_mono (f := f) (g := g) (n := n) (fun k hk => h k (by omega))
    simp only [Msk.cnt]
    have := h n (by omega)
    cases hf : f n with
    | false => cases g n <;> simp <;> omega
    | true => rw [this hf]; simp; omega
theorem cnt_less {f g : Nat → Bool} : ∀ {n s : Nat}, s < n → (∀ k, k < n → f k = true → g k = true) → f s = false → g s = true → Msk.cnt f n < Msk.cnt g n
  | 0, _, hs, _, _, _ => by omega
  | n + 1, s, hs, h, h1, h2 => by
    simp only [Msk.cnt]
    by_cases e : s = n
    · subst e
      have := cnt_mono (f := f) (g := g) (n := s) (fun k hk => h k (by omega))
      rw [h1, h2]; simp; omega
    · have ih := cnt_less (f := f) (g := g) (n := n) (s := s) (by omega) (fun k hk => h k (by omega)) h1 h2
      have := h n (by omega)
      cases hf : f n with
      | false => cases g n <;> simp <;> omega
      | true => rw [this hf]; simp; omega
theorem rk_less {E : Nat → Nat → Bool} {n i s : Nat} (hs : s < n) (hE : E i s = true) (hc : wars E n s s = false) : rk E n s < rk E n i := by
  have h0 : wars E n i s = true := by have := wars_mono (E := E) (m := 0) hE n; simpa using this
  exact cnt_less hs (fun k _ hk => wars_cat hs h0 hk) hc h0
theorem rk_le (E : Nat → Nat → Bool) (n i : Nat) : rk E n i ≤ n := Msk.cnt_le _ _

/-- An instruction, and the code of a rule. -/
structure In where
  op : Int
  a : Int
  b : Int
  to : Int
  sp : List (Int × Int)
structure Cd where
  ins : List In
  high : Int
  steps : Int
def in0 : In := ⟨0, 0, 0, 0, []⟩
def cd0 : Cd := ⟨[], 0, 0⟩
/-- Spans one behind the other, with a minute between, in the day. -/
def risL : List (Int × Int) → Int → Bool
  | [], _ => true
  | s :: l, e => if s.1 ≤ e ∨ s.2 ≤ s.1 ∨ 1440 < s.2 then false else risL l s.2
theorem risL_step {l : List (Int × Int)} {j : Nat} {s : Int × Int} {e : Int} (h : l[j]? = some s) : risL (l.drop j) e = if s.1 ≤ e ∨ s.2 ≤ s.1 ∨ 1440 < s.2 then false else risL (l.drop (j + 1)) s.2 := by
  obtain ⟨h1, h2⟩ := List.getElem?_eq_some_iff.1 h
  rw [List.drop_eq_getElem_cons h1, h2]; rfl
/-- What is wrong with an instruction, at its place, of so many, and so many rules. -/
def insE (x : In) (k n rules : Nat) : Int :=
  if x.op = 2 ∨ x.op = 3 ∨ x.op = 4 then 0
  else if x.op = 1 then (if risL x.sp (-1) = true then 0 else 2)
  else if x.op = 5 then (if x.a ≠ 0 ∧ -1439 ≤ x.a ∧ x.a ≤ 1439 then 0 else 3)
  else if x.op = 6 then (if (k : Int) + 2 ≤ x.to ∧ x.to ≤ n then (if 1 ≤ x.a ∧ x.a ≤ 127 then 0 else 3) else 8)
  else if x.op = 7 then (if (k : Int) + 2 ≤ x.to ∧ x.to ≤ n then (if 0 ≤ x.a ∧ x.a ≤ x.b ∧ x.b < 146097 then 0 else 3) else 8)
  else if x.op = 8 then (if 0 ≤ x.a ∧ x.a < rules then 0 else 6)
  else 1
def insL : List In → Nat → Nat → Nat → Int
  | [], _, _, _ => 0
  | x :: l, k, n, r => if insE x k n r ≠ 0 then insE x k n r else insL l (k + 1) n r
theorem insL_step {l : List In} {j n r : Nat} {x : In} (h : l[j]? = some x) : insL (l.drop j) j n r = if insE x j n r ≠ 0 then insE x j n r else insL (l.drop (j + 1)) (j + 1) n r := by
  obtain ⟨h1, h2⟩ := List.getElem?_eq_some_iff.1 h
  rw [List.drop_eq_getElem_cons h1, h2]; rfl
theorem insL_ok {n r : Nat} : ∀ {l : List In} {k : Nat}, insL l k n r = 0 → ∀ j x, l[j]? = some x → insE x (k + j) n r = 0
  | [], _, _, j, x, hj => by simp at hj
  | y :: l, k, h, j, x, hj => by
    by_cases hy : insE y k n r = 0
    · have h' : insL l (k + 1) n r = 0 := by simpa [insL, hy] using h
      cases j with
      | zero => simp at hj; subst hj; simpa using hy
      | succ j =>
        have := insL_ok h' j x (by simpa using hj)
        rw [show k + (j + 1) = k + 1 + j by omega]; exact this
    · exfalso
      simp [insL, hy] at h
/-- What is wrong with a rule's code by itself. -/
def aloneE (c : Cd) (rules : Nat) : Int :=
  if ¬ (1 ≤ c.ins.length ∧ c.ins.length ≤ 2000) then 5
  else if ¬ ((1 ≤ c.high ∧ c.high ≤ 100) ∧ (1 ≤ c.steps ∧ c.steps ≤ 20000)) then 4
  else insL c.ins 0 c.ins.length rules
/-- The first one of which something is wrong. -/
def firstF (E : Nat → Int) : Nat → Nat → Int × Nat
  | 0, _ => (0, 0)
  | m + 1, i => if E i ≠ 0 then (E i, i) else firstF E m (i + 1)
theorem firstF_ext {E F : Nat → Int} : ∀ (m i : Nat), (∀ j, i ≤ j → j < i + m → E j = F j) → firstF E m i = firstF F m i
  | 0, _, _ => rfl
  | m + 1, i, h => by
    simp only [firstF]
    rw [h i (by omega) (by omega), firstF_ext m (i + 1) (fun j h1 h2 => h j (by omega) (by omega))]
theorem firstF_ok {E : Nat → Int} : ∀ (m i : Nat), (firstF E m i).1 = 0 → firstF E m i = (0, 0) ∧ ∀ j, i ≤ j → j < i + m → E j = 0
  | 0, _, _ => ⟨rfl, fun j h1 h2 => by omega⟩
  | m + 1, i, h => by
    by_cases he : E i = 0
    · have e1 : firstF E (m + 1) i = firstF E m (i + 1) := by simp [firstF, he]
      rw [e1] at h ⊢
      obtain ⟨h1, h2⟩ := firstF_ok m (i + 1) h
      refine ⟨h1, fun j hj hl => ?_⟩
      by_cases e : j = i
      · rw [e]; exact he
      · exact h2 j (by omega) (by omega)
    · exfalso
      simp [firstF, he] at h
/-- What an instruction does to the height; how much it takes; is it a guard? -/
def eff (x : In) : Int := if x.op = 1 ∨ x.op = 8 then 1 else if x.op = 2 ∨ x.op = 3 ∨ x.op = 4 then -1 else 0
def tk (x : In) : Int := if x.op = 5 then 1 else if x.op = 2 ∨ x.op = 3 ∨ x.op = 4 then 2 else 0
def isG (x : In) : Prop := x.op = 6 ∨ x.op = 7
/-- How high the stack is at a place. -/
def hAt (l : List In) : Nat → Int
  | 0 => 0
  | j + 1 => hAt l j + eff (l.getD j in0)
def mxH (cs : List Cd) (l : List In) : Nat → Int
  | 0 => 0
  | j + 1 => max (if (l.getD j in0).op = 8 then max (mxH cs l j) (hAt l j + (cs.getD (l.getD j in0).a.toNat cd0).high) else mxH cs l j) (hAt l (j + 1))
def stS (cs : List Cd) (l : List In) : Nat → Int
  | 0 => 0
  | j + 1 => stS cs l j + 1 + (if (l.getD j in0).op = 8 then (cs.getD (l.getD j in0).a.toNat cd0).steps else 0)
theorem getD_of {l : List In} {j : Nat} {x : In} (h : l[j]? = some x) : l.getD j in0 = x := by simp [List.getD, h]
theorem hAt_step {l : List In} {j : Nat} {x : In} (h : l[j]? = some x) : hAt l (j + 1) = hAt l j + eff x := by rw [hAt, getD_of h]
theorem mxH_step {cs : List Cd} {l : List In} {j : Nat} {x : In} (h : l[j]? = some x) : mxH cs l (j + 1) = max (if x.op = 8 then max (mxH cs l j) (hAt l j + (cs.getD x.a.toNat cd0).high) else mxH cs l j) (hAt l (j + 1)) := by rw [mxH, getD_of h]
theorem stS_step {cs : List Cd} {l : List In} {j : Nat} {x : In} (h : l[j]? = some x) : stS cs l (j + 1) = stS cs l j + 1 + (if x.op = 8 then (cs.getD x.a.toNat cd0).steps else 0) := by rw [stS, getD_of h]
theorem mxH_le (cs : List Cd) (l : List In) (j : Nat) : mxH cs l j ≤ mxH cs l (j + 1) := by
  simp only [mxH]
  split <;> omega
theorem mxH_mono (cs : List Cd) (l : List In) {j k : Nat} (h : j ≤ k) : mxH cs l j ≤ mxH cs l k := by
  obtain ⟨d, rfl⟩ := Nat.exists_eq_add_of_le h
  clear h
  induction d with
  | zero => exact Int.le_refl _
  | succ d ih => exact Int.le_trans ih (mxH_le cs l (j + d))
theorem hAt_mx (cs : List Cd) (l : List In) : ∀ j, hAt l j ≤ mxH cs l j
  | 0 => Int.le_refl _
  | j + 1 => by
    simp only [mxH]
    omega
theorem hAt_top {cs : List Cd} {l : List In} {j n : Nat} (h : j ≤ n) : hAt l j ≤ mxH cs l n := Int.le_trans (hAt_mx cs l j) (mxH_mono cs l h)
theorem call_top {cs : List Cd} {l : List In} {j n : Nat} {x : In} (hj : l[j]? = some x) (h : j < n) (ho : x.op = 8) : hAt l j + (cs.getD x.a.toNat cd0).high ≤ mxH cs l n := by
  refine Int.le_trans ?_ (mxH_mono cs l (show j + 1 ≤ n by omega))
  rw [mxH_step hj, if_pos ho]
  omega
/-- The stack is used well. -/
structure WellV (l : List In) : Prop where
  tk : ∀ j x, l[j]? = some x → tk x ≤ hAt l j
  to : ∀ j x, l[j]? = some x → isG x → hAt l x.to.toNat = hAt l j + 1
  fin : hAt l l.length = 1
/-- It is as high, and takes as many steps, as it says. -/
structure FitV (cs : List Cd) (c : Cd) : Prop where
  well : WellV c.ins
  high : mxH cs c.ins c.ins.length = c.high
  steps : stS cs c.ins c.ins.length = c.steps
def wellB (l : List In) : Bool := ((List.range l.length).all fun j => decide (tk (l.getD j in0) ≤ hAt l j) && (!(decide ((l.getD j in0).op = 6) || decide ((l.getD j in0).op = 7)) || decide (hAt l (l.getD j in0).to.toNat = hAt l j + 1))) && decide (hAt l l.length = 1)
theorem wellB_iff {l : List In} : wellB l = true ↔ WellV l := by
  unfold wellB
  rw [Bool.and_eq_true, List.all_eq_true, decide_eq_true_eq]
  constructor
  · rintro ⟨h1, h2⟩
    refine ⟨fun j x hx => ?_, fun j x hx hg => ?_, h2⟩
    · have h3 := h1 j (List.mem_range.2 (List.getElem?_eq_some_iff.1 hx).1)
      rw [getD_of hx, Bool.and_eq_true, decide_eq_true_eq] at h3
      exact h3.1
    · have h3 := h1 j (List.mem_range.2 (List.getElem?_eq_some_iff.1 hx).1)
      rw [getD_of hx, Bool.and_eq_true, Bool.or_eq_true] at h3
      rcases h3.2 with h4 | h4
      · unfold isG at hg
        rcases hg with e | e <;> simp [e] at h4
      · exact of_decide_eq_true h4
  · intro h
    refine ⟨fun j hj => ?_, h.fin⟩
    have hj' := List.mem_range.1 hj
    have hx : l[j]? = some l[j] := List.getElem?_eq_getElem hj'
    rw [getD_of hx, Bool.and_eq_true, Bool.or_eq_true]
    refine ⟨decide_eq_true (h.tk j _ hx), ?_⟩
    by_cases hg : isG l[j]
    · exact .inr (decide_eq_true (h.to j _ hx hg))
    · left
      unfold isG at hg
      have h6 : ¬ (l[j]).op = 6 := fun e => hg (.inl e)
      have h7 : ¬ (l[j]).op = 7 := fun e => hg (.inr e)
      simp [h6, h7]
def fitB (cs : List Cd) (c : Cd) : Bool := wellB c.ins && (decide (mxH cs c.ins c.ins.length = c.high) && decide (stS cs c.ins c.ins.length = c.steps))
theorem fitB_iff {cs : List Cd} {c : Cd} : fitB cs c = true ↔ FitV cs c := by
  unfold fitB
  rw [Bool.and_eq_true, Bool.and_eq_true, decide_eq_true_eq, decide_eq_true_eq, wellB_iff]
  exact ⟨fun h => ⟨h.1, h.2.1, h.2.2⟩, fun h => ⟨h.well, h.high, h.steps⟩⟩
/-- Who calls whom. -/
def callE (cs : List Cd) (i k : Nat) : Bool := (cs.getD i cd0).ins.any fun x => decide (x.op = 8) && decide (x.a = (k : Int))
def lateE (cs : List Cd) (i : Nat) : Int := if wars (callE cs) cs.length i i = true then 9 else if fitB cs (cs.getD i cd0) = true then 0 else 8
def wrongV (cs : List Cd) : Int × Nat :=
  if 40 < cs.length then (5, 0)
  else if (firstF (fun i => aloneE (cs.getD i cd0) cs.length) cs.length 0).1 ≠ 0 then firstF (fun i => aloneE (cs.getD i cd0) cs.length) cs.length 0
  else firstF (lateE cs) cs.length 0
/-- Right code. -/
structure Right (cs : List Cd) : Prop where
  len : cs.length ≤ 40
  alone : ∀ (i : Nat) (c : Cd), cs[i]? = some c → aloneE c cs.length = 0
  cyc : ∀ i, i < cs.length → wars (callE cs) cs.length i i = false
  fit : ∀ (i : Nat) (c : Cd), cs[i]? = some c → FitV cs c
theorem cd_at {cs : List Cd} {i : Nat} {c : Cd} (h : cs[i]? = some c) : cs.getD i cd0 = c := by simp [List.getD, h]
theorem wrong_right {cs : List Cd} (h : (wrongV cs).1 = 0) : Right cs := by
  unfold wrongV at h
  by_cases h1 : 40 < cs.length
  · rw [if_pos h1] at h; simp at h
  · rw [if_neg h1] at h
    by_cases h2 : (firstF (fun i => aloneE (cs.getD i cd0) cs.length) cs.length 0).1 ≠ 0
    · rw [if_pos h2] at h; exact absurd h h2
    · rw [if_neg h2] at h
      have a := (firstF_ok _ _ (Decidable.not_not.1 h2)).2
      have b := (firstF_ok _ _ h).2
      refine ⟨by omega, fun i c hi => ?_, fun i hi => ?_, fun i c hi => ?_⟩
      · have := a i (by omega) (by have := (List.getElem?_eq_some_iff.1 hi).1; omega)
        rw [cd_at hi] at this; exact this
      · have := b i (by omega) (by omega)
        unfold lateE at this
        cases hw : wars (callE cs) cs.length i i with
        | false => rfl
        | true => rw [if_pos hw] at this; simp at this
      · have := b i (by omega) (by have := (List.getElem?_eq_some_iff.1 hi).1; omega)
        unfold lateE at this
        rw [cd_at hi] at this
        by_cases hw : wars (callE cs) cs.length i i = true
        · rw [if_pos hw] at this; simp at this
        · rw [if_neg hw] at this
          by_cases hf : fitB cs c = true
          · exact fitB_iff.1 hf
          · rw [if_neg hf] at this; simp at this
theorem alone_ins {c : Cd} {r : Nat} (h : aloneE c r = 0) : (1 ≤ c.ins.length ∧ c.ins.length ≤ 2000) ∧ ((1 ≤ c.high ∧ c.high ≤ 100) ∧ (1 ≤ c.steps ∧ c.steps ≤ 20000)) ∧ ∀ j x, c.ins[j]? = some x → insE x j c.ins.length r = 0 := by
  unfold aloneE at h
  by_cases h1 : 1 ≤ c.ins.length ∧ c.ins.length ≤ 2000
  · rw [if_neg (fun e => e h1)] at h
    by_cases h2 : (1 ≤ c.high ∧ c.high ≤ 100) ∧ (1 ≤ c.steps ∧ c.steps ≤ 20000)
    · rw [if_neg (fun e => e h2)] at h
      refine ⟨h1, h2, fun j x hj => ?_⟩
      have := insL_ok h j x hj
      simpa using this
    · rw [if_pos h2] at h; simp at h
  · rw [if_pos h1] at h; simp at h
/-- What is right of an instruction with which nothing is wrong. -/
theorem ins_call {x : In} {k n r : Nat} (h : insE x k n r = 0) (ho : x.op = 8) : 0 ≤ x.a ∧ x.a < r := by
  simp only [insE, ho] at h
  simp only [show ¬ ((8 : Int) = 2 ∨ (8 : Int) = 3 ∨ (8 : Int) = 4) by omega, show ¬ (8 : Int) = 1 by omega, show ¬ (8 : Int) = 5 by omega, show ¬ (8 : Int) = 6 by omega, show ¬ (8 : Int) = 7 by omega, if_false, if_true] at h
  by_cases hh : 0 ≤ x.a ∧ x.a < r
  · exact hh
  · rw [if_neg hh] at h; simp at h
theorem ins_to {x : In} {k n r : Nat} (h : insE x k n r = 0) (ho : isG x) : (k : Int) + 2 ≤ x.to ∧ x.to ≤ n := by
  rcases ho with ho | ho
  · simp only [insE, ho] at h
    simp only [show ¬ ((6 : Int) = 2 ∨ (6 : Int) = 3 ∨ (6 : Int) = 4) by omega, show ¬ (6 : Int) = 1 by omega, show ¬ (6 : Int) = 5 by omega, if_false, if_true] at h
    by_cases hh : (k : Int) + 2 ≤ x.to ∧ x.to ≤ n
    · exact hh
    · rw [if_neg hh] at h; simp at h
  · simp only [insE, ho] at h
    simp only [show ¬ ((7 : Int) = 2 ∨ (7 : Int) = 3 ∨ (7 : Int) = 4) by omega, show ¬ (7 : Int) = 1 by omega, show ¬ (7 : Int) = 5 by omega, show ¬ (7 : Int) = 6 by omega, if_false, if_true] at h
    by_cases hh : (k : Int) + 2 ≤ x.to ∧ x.to ≤ n
    · exact hh
    · rw [if_neg hh] at h; simp at h
end Vx
