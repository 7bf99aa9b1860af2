/- What the small functions on numbers come to: ones, wordEnd, and the library's OnesCount64 and TrailingZeros64. -/
import Derived.Test.YtemdkpjdbciemaaDoorMv
import Derived.Lib.TrailingZeros
namespace Go.Proofs.YtemdkpjdbciemaaDoor
open Go.RowKit Msk

theorem ret_val {v v' : Value} (h : v = v') : Ending.returned v = .returned v' := by rw [h]
theorem int_eq {k : IntKind} {a b : Int} (h : a = b) : Value.int k a = .int k b := by rw [h]

theorem ones_num (n : Nat) (hn : n ≤ 64) : IntKind.u64.wrap (IntKind.u64.wrap (2 ^ n) - 1) = ((2 ^ n - 1 : Nat) : Int) := by
  rw [IntKind.wrap_u64, IntKind.wrap_u64]
  have hp : (1 : Nat) ≤ 2 ^ n := Nat.two_pow_pos n
  have hc : ((2 : Int) ^ n) = ((2 ^ n : Nat) : Int) := by simp
  rw [hc]
  by_cases h : n = 64
  · subst h; decide
  · have hl : 2 ^ n ≤ 2 ^ 63 := Nat.pow_le_pow_right (by omega) (by omega)
    generalize 2 ^ n = p at *
    omega
theorem ones_any (n : Nat) (hn : n ≤ 64) (w : World) : Calls Tryd.prog 68 #[.int .i64 n] w fun e w' => e = .returned (.int .u64 ((2 ^ n - 1 : Nat) : Int)) ∧ w' = w := by
  go_enter Tryd.func68, Tryd.ntmps68
  go_wp2
  go_ret
  exact ⟨ret_val (int_eq (ones_num n hn)), rfl⟩
theorem ones_at (d : Int) (h0 : 0 ≤ d) (h1 : d ≤ 64) (w : World) : Calls Tryd.prog 68 #[.int .i64 d] w fun e w' => e = .returned (.int .u64 ((2 ^ d.toNat - 1 : Nat) : Int)) ∧ w' = w := by
  have := ones_any d.toNat (by omega) w
  rw [Int.toNat_of_nonneg h0] at this
  exact this
theorem wordEnd_any (n : Nat) (hn : n ≤ 1440) (w : World) : Calls Tryd.prog 67 #[.int .i64 n] w fun e w' => e = .returned (.int .i64 ((64 * (n / 64) + 64 : Nat) : Int)) ∧ w' = w := by
  go_enter Tryd.func67, Tryd.ntmps67
  go_wp2
  go_ret
  exact ⟨ret_val (int_eq (by omega)), rfl⟩

theorem bits_and_i64_nat (a b : Nat) (ha : a < 9223372036854775808) (hb : b < 9223372036854775808) :
    bits .and .i64 (a : Int) (b : Int) = ((a &&& b : Nat) : Int) := by
  have hx : a &&& b < 2 ^ 63 := Nat.and_lt_two_pow _ (by omega)
  have h1 : (BitVec.ofInt 64 (a : Int)).toNat = a := by
    rw [BitVec.ofInt_natCast, BitVec.toNat_ofNat]; exact Nat.mod_eq_of_lt (by omega)
  have h2 : (BitVec.ofInt 64 (b : Int)).toNat = b := by
    rw [BitVec.ofInt_natCast, BitVec.toNat_ofNat]; exact Nat.mod_eq_of_lt (by omega)
  show IntKind.i64.wrap ((BitVec.ofInt 64 (a : Int) &&& BitVec.ofInt 64 (b : Int)).toNat : Int) = _
  rw [BitVec.toNat_and, h1, h2, IntKind.wrap_i64]
  omega

/-- The library's rounds, one by one, as the walk writes them. -/
theorem pop_chain (x : Nat) (hx : x < 18446744073709551616) : ∃ y z d a b c : Nat, c < 9223372036854775808 ∧
    IntKind.u64.wrap (bits .and .u64 ((x : Int) / 2) 6148914691236517205 + bits .and .u64 (x : Int) 6148914691236517205) = (y : Int) ∧
    IntKind.u64.wrap (bits .and .u64 ((y : Int) / 4) 3689348814741910323 + bits .and .u64 (y : Int) 3689348814741910323) = (z : Int) ∧
    bits .and .u64 (IntKind.u64.wrap ((z : Int) / 16 + (z : Int))) 1085102592571150095 = (d : Int) ∧
    IntKind.u64.wrap ((d : Int) + (d : Int) / 256) = (a : Int) ∧ IntKind.u64.wrap ((a : Int) + (a : Int) / 65536) = (b : Int) ∧
    IntKind.u64.wrap ((b : Int) + (b : Int) / 4294967296) = (c : Int) ∧ bits .and .i64 (c : Int) 127 = ((cnt (fun j => x.testBit j) 64 : Nat) : Int) := by
  obtain ⟨e1, h1, t1, r1⟩ := pop_one x hx
  obtain ⟨e2, h2, t2, r2⟩ := pop_two e1 h1
  obtain ⟨e3, h3, t3, l3, r3⟩ := pop_three e2 h2
  obtain ⟨a, b, c, ha, la, hb, lb, hc, lc, hs⟩ := pop_last e3 h3
  have ly : dig e1 2 32 < 2 ^ (2 * 32) := dig_lt e1 2 32 fun i _ => by have := h1 i; omega
  simp only [Nat.reduceMul, Nat.reducePow] at ly
  rw [t3, t2, t1] at hs
  clear t1 t2 t3 h1 h2 h3
  generalize dig e1 2 32 = y at *
  generalize dig e2 4 16 = z at *
  generalize dig e3 8 8 = d at *
  have lz : z < 18446744073709551616 := by omega
  have q1 := bits_and_u64_nat (x / 2) 6148914691236517205 (by omega) (by omega)
  have q2 := bits_and_u64_nat x 6148914691236517205 hx (by omega)
  have q3 := bits_and_u64_nat (y / 4) 3689348814741910323 (by omega) (by omega)
  have q4 := bits_and_u64_nat y 3689348814741910323 ly (by omega)
  have q5 := bits_and_u64_nat (z / 16 + z) 1085102592571150095 l3 (by omega)
  have q6 := bits_and_i64_nat c 127 lc (by omega)
  have q7 : c &&& 127 = c % 128 := Nat.and_two_pow_sub_one_eq_mod c 7
  refine ⟨y, z, d, a, b, c, lc, ?_, ?_, ?_, ?_, ?_, ?_, ?_⟩
  · have e : ((x / 2 : Nat) : Int) = (x : Int) / 2 := by omega
    have e' : ((6148914691236517205 : Nat) : Int) = 6148914691236517205 := rfl
    rw [e, e'] at q1; rw [e'] at q2
    rw [q1, q2, IntKind.wrap_u64]
    omega
  · have e : ((y / 4 : Nat) : Int) = (y : Int) / 4 := by omega
    have e' : ((3689348814741910323 : Nat) : Int) = 3689348814741910323 := rfl
    rw [e, e'] at q3; rw [e'] at q4
    rw [q3, q4, IntKind.wrap_u64]
    omega
  · have e : IntKind.u64.wrap ((z : Int) / 16 + (z : Int)) = ((z / 16 + z : Nat) : Int) := by rw [IntKind.wrap_u64]; omega
    have e' : ((1085102592571150095 : Nat) : Int) = 1085102592571150095 := rfl
    rw [e'] at q5
    rw [e, q5, r3]
  · rw [IntKind.wrap_u64]; omega
  · rw [IntKind.wrap_u64]; omega
  · rw [IntKind.wrap_u64]; omega
  · have e' : ((127 : Nat) : Int) = 127 := rfl
    rw [e'] at q6
    rw [q6, q7, hs]

theorem pop_any (x : Nat) (hx : x < 18446744073709551616) (w : World) : Calls Tryd.prog 65 #[.int .u64 x] w fun e w' => e = .returned (.int .i64 ((cnt (fun j => x.testBit j) 64 : Nat) : Int)) ∧ w' = w := by
  obtain ⟨y, z, d, a, b, c, lc, s1, s2, s3, s4, s5, s6, s7⟩ := pop_chain x hx
  generalize cnt (fun j => x.testBit j) 64 = n at *
  go_enter Tryd.func65, Tryd.ntmps65
  go_wp2
  go_ret
  exact ⟨rfl, rfl⟩

/-- The library's table, as its text lays it. -/
def Tab (w : World) : Prop := ∀ j, j < 64 → w.cell? ⟨1, j, none⟩ = some (.int .u8 ((Lib.deBruijn64tab.getD j 0 : Nat) : Int))
theorem Tab.later {w w' : World} (h : Tab w) (hb : Below w.heap.size w w') : Tab w' := fun j hj => (hb.cell (block_lt_of_cell (h j hj))).trans (h j hj)

theorem tz_key (x a : Nat) (hx : x < 18446744073709551616) (hx0 : x ≠ 0) (hlow : x &&& (18446744073709551616 - x) = a) :
    IntKind.u64.wrap (bits BinOp.and IntKind.u64 (x : Int) (IntKind.u64.wrap (-(x : Int))) * 285870213051353865) / 288230376151711744 = ((a * 285870213051353865 % 18446744073709551616 / 288230376151711744 : Nat) : Int) := by
  have e1 : IntKind.u64.wrap (-(x : Int)) = ((18446744073709551616 - x : Nat) : Int) := by rw [IntKind.wrap_u64]; omega
  rw [e1, bits_and_u64_nat x _ hx (by omega), hlow, IntKind.wrap_u64]
  omega
set_option maxHeartbeats 400000 in
theorem tz_core (x k idx : Nat) (w : World) (hx0 : ((x : Int) == 0) = false)
    (key : IntKind.u64.wrap (bits BinOp.and IntKind.u64 (x : Int) (IntKind.u64.wrap (-(x : Int))) * 285870213051353865) / 288230376151711744 = (idx : Int))
    (hi : idx < 64) (hk : k < 64) (hcell : w.cell? ⟨1, idx, none⟩ = some (.int .u8 k)) :
    Calls Tryd.prog 69 #[.int .u64 x] w fun e w' => e = .returned (.int .i64 k) ∧ w' = w := by
  go_enter Tryd.func69, Tryd.ntmps69
  go_wp2_with (simp only [key])
  go_ret
  exact ⟨rfl, rfl⟩
/-- The first bit that is set. -/
theorem tz_any (x : Nat) (hx : x < 18446744073709551616) (hx0 : x ≠ 0) (w : World) (hT : Tab w) :
    ∃ k : Nat, k < 64 ∧ x.testBit k = true ∧ (∀ j, j < k → x.testBit j = false) ∧ Calls Tryd.prog 69 #[.int .u64 x] w fun e w' => e = .returned (.int .i64 k) ∧ w' = w := by
  obtain ⟨hlow, hk⟩ := Lib.lowest_bit 64 x hx0 hx
  obtain ⟨hi, htab⟩ := Lib.deBruijn64_at _ hk
  have hcell := hT _ hi
  rw [htab] at hcell
  have hb : ∀ j, j ≤ Lib.ctz 64 x → x.testBit j = decide (j = Lib.ctz 64 x) := by
    obtain ⟨m, hm, hlt⟩ := Lib.ctzFrom_spec 64 x (by omega) hx
    have e : Lib.ctz 64 x = Lib.ctzFrom 64 x := by simp [Lib.ctz, hx0]
    rw [e]
    clear hcell htab hi hlow hk e
    generalize Lib.ctzFrom 64 x = k at *
    intro j hj
    rw [hm, Nat.mul_comm, Nat.testBit_mul_two_pow]
    by_cases hjk : j = k
    · subst hjk; simp
    · have : ¬ k ≤ j := by omega
      simp [this, hjk]
  exact ⟨_, hk, by rw [hb _ (Nat.le_refl _)]; simp, fun j hj => by rw [hb _ (by omega)]; simp; omega, tz_core x _ _ w (by simp; omega) (tz_key x _ hx hx0 hlow) hi hk hcell⟩

end Go.Proofs.YtemdkpjdbciemaaDoor
