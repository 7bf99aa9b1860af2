/-
  Plain facts about bits, words and masks, that speak of no program: a mask of minutes is a function from places to bits.
-/
import Derived.Test.YtgfjbcdjpkcbkaaGreatDoorDu02
import Derived.Test.YtgfjbcdjpkcbkaaGreatDoorRows
import Derived.WalkKit
import Derived.WalkSpells
import Derived.WalkLawsBesides
import Derived.Deep.QuietTactic
import Derived.BigQuiet
import Derived.Laws.Bits64b
import Derived.Laws.Rows
import Derived.Laws.Tables
import Derived.Deep.WholeRow
import Derived.Deep.RegionHeld3
import Derived.Deep.DrawnRows
import Derived.Laws.CopyOwn
import Derived.Lib.TrailingZeros
namespace Msk
def num (p : Nat → Bool) : Nat → Nat
  | 0 => 0
  | n + 1 => num p n + if p n then 2 ^ n else 0
theorem num_lt (p : Nat → Bool) : ∀ n, num p n < 2 ^ n
  | 0 => by simp [num]
  | n + 1 => by
    have := num_lt p n
    simp only [num, Nat.pow_succ]
    split <;> omega
theorem num_bit (p : Nat → Bool) (j : Nat) : ∀ n, (num p n).testBit j = (decide (j < n) && p j)
  | 0 => by simp [num]
  | n + 1 => by
    have hl := num_lt p n
    have ih := num_bit p j n
    simp only [num]
    by_cases hp : p n = true
    · rw [if_pos hp, Nat.add_comm]
      by_cases h1 : j < n
      · rw [Nat.testBit_two_pow_add_gt h1, ih]
        have : j < n + 1 := by omega
        simp [h1, this]
      · by_cases h2 : j = n
        · subst h2
          rw [Nat.testBit_two_pow_add_eq, ih]
          simp [hp]
        · have h3 : ¬ j < n + 1 := by omega
          have h4 : 2 ^ (n + 1) ≤ 2 ^ j := Nat.pow_le_pow_right (by omega) (by omega)
          rw [Nat.testBit_lt_two_pow (by rw [Nat.pow_succ] at h4; omega)]
          simp [h3]
    · rw [if_neg hp, Nat.add_zero, ih]
      by_cases h2 : j = n
      · subst h2; simp at hp; simp [hp]
      · by_cases h1 : j < n
        · have : j < n + 1 := by omega
          simp [h1, this]
        · have : ¬ j < n + 1 := by omega
          simp [h1, this]
theorem num_eq (p : Nat → Bool) (n x : Nat) (hx : x < 2 ^ n) (h : ∀ j, j < n → x.testBit j = p j) : x = num p n := by
  apply Nat.eq_of_testBit_eq
  intro j
  rw [num_bit]
  by_cases hj : j < n
  · simp [hj, h j hj]
  · have : 2 ^ n ≤ 2 ^ j := Nat.pow_le_pow_right (by omega) (by omega)
    rw [Nat.testBit_lt_two_pow (by omega)]
    simp [hj]
theorem num_ext {p q : Nat → Bool} {n : Nat} (h : ∀ j, j < n → p j = q j) : num p n = num q n :=
  num_eq q n _ (num_lt p n) fun j hj => by rw [num_bit]; simp [hj, h j hj]
def wd (f : Nat → Bool) (k : Nat) : Nat := num (fun j => f (64 * k + j)) 64
theorem wd_lt (f : Nat → Bool) (k : Nat) : wd f k < 18446744073709551616 := num_lt _ 64
theorem wd_bit (f : Nat → Bool) (k j : Nat) : (wd f k).testBit j = (decide (j < 64) && f (64 * k + j)) := num_bit _ j 64
theorem wd_eq (f : Nat → Bool) (k x : Nat) (hx : x < 18446744073709551616) (h : ∀ j, j < 64 → x.testBit j = f (64 * k + j)) : x = wd f k :=
  num_eq _ 64 x hx h
theorem wd_ext {f g : Nat → Bool} {k : Nat} (h : ∀ j, j < 64 → f (64 * k + j) = g (64 * k + j)) : wd f k = wd g k := num_ext h
theorem wd_and (f g : Nat → Bool) (k : Nat) : wd f k &&& wd g k = wd (fun i => f i && g i) k := by
  refine wd_eq _ k _ (show wd f k &&& wd g k < 2 ^ 64 from Nat.and_lt_two_pow _ (wd_lt g k)) fun j hj => ?_
  rw [Nat.testBit_and, wd_bit, wd_bit]; simp [hj]
theorem wd_or (f g : Nat → Bool) (k : Nat) : wd f k ||| wd g k = wd (fun i => f i || g i) k := by
  refine wd_eq _ k _ (show wd f k ||| wd g k < 2 ^ 64 from Nat.or_lt_two_pow (wd_lt f k) (wd_lt g k)) fun j hj => ?_
  rw [Nat.testBit_or, wd_bit, wd_bit]; simp [hj]
theorem wd_andNot (f g : Nat → Bool) (k : Nat) : wd f k &&& (18446744073709551616 - (wd g k + 1)) = wd (fun i => f i && !g i) k := by
  refine wd_eq _ k _ (Nat.lt_of_le_of_lt Nat.and_le_left (wd_lt f k)) fun j hj => ?_
  have e : (18446744073709551616 : Nat) = 2 ^ 64 := by decide
  rw [Nat.testBit_and, e, Nat.testBit_two_pow_sub_succ (wd_lt g k), wd_bit, wd_bit]; simp [hj]
theorem wd_zero (k : Nat) : wd (fun _ => false) k = 0 := by
  have : (0 : Nat) = wd (fun _ => false) k := wd_eq _ k 0 (by omega) (by simp)
  exact this.symm
theorem shl_bit (x r j : Nat) (hj : j < 64) : (x * 2 ^ r % 18446744073709551616).testBit j = (decide (r ≤ j) && x.testBit (j - r)) := by
  have e : (18446744073709551616 : Nat) = 2 ^ 64 := by decide
  rw [e, Nat.testBit_mod_two_pow, Nat.testBit_mul_two_pow]
  simp [hj]
theorem shr_bit (x r j : Nat) : (x / 2 ^ r).testBit j = x.testBit (j + r) := by
  rw [Nat.testBit_div_two_pow]
theorem ones_bit (n j : Nat) : (2 ^ n - 1).testBit j = decide (j < n) := by
  rw [Nat.testBit_two_pow_sub_one]
def cnt (f : Nat → Bool) : Nat → Nat
  | 0 => 0
  | n + 1 => cnt f n + if f n then 1 else 0
theorem cnt_le (f : Nat → Bool) : ∀ n, cnt f n ≤ n
  | 0 => by simp [cnt]
  | n + 1 => by have := cnt_le f n; simp only [cnt]; split <;> omega
theorem cnt_ext {f g : Nat → Bool} : ∀ {n : Nat}, (∀ j, j < n → f j = g j) → cnt f n = cnt g n
  | 0, _ => rfl
  | n + 1, h => by
    have := cnt_ext (n := n) fun j hj => h j (by omega)
    simp only [cnt, this, h n (by omega)]
theorem cnt_add (f : Nat → Bool) (a : Nat) : ∀ n, cnt f (a + n) = cnt f a + cnt (fun j => f (a + j)) n
  | 0 => by simp [cnt]
  | n + 1 => by
    have := cnt_add f a n
    rw [← Nat.add_assoc]; simp only [cnt, this]; omega
theorem cnt_false {f : Nat → Bool} {n : Nat} (h : ∀ j, j < n → f j = false) : cnt f n = 0 := by
  have e : cnt f n = cnt (fun _ => false) n := cnt_ext h
  have z : ∀ n, cnt (fun _ => false) n = 0 := by
    intro n
    induction n with
    | zero => rfl
    | succ n ih => simp [cnt, ih]
  rw [e, z]
theorem cnt_true {f : Nat → Bool} {n : Nat} (h : ∀ j, j < n → f j = true) : cnt f n = n := by
  have e : cnt f n = cnt (fun _ => true) n := cnt_ext h
  have z : ∀ n, cnt (fun _ => true) n = n := by
    intro n
    induction n with
    | zero => rfl
    | succ n ih => simp [cnt, ih]
  rw [e, z]
theorem cnt_span (a b n : Nat) (h1 : a ≤ b) (h2 : b ≤ n) : cnt (fun i => decide (a ≤ i) && decide (i < b)) n = b - a := by
  have e1 : n = a + ((b - a) + (n - b)) := by omega
  rw [e1, cnt_add, cnt_add, cnt_false, cnt_true, cnt_false]
  · omega
  · intro j hj; simp; omega
  · intro j hj; simp; omega
  · intro j hj; simp; omega
theorem cnt_word (f : Nat → Bool) (k : Nat) : cnt (fun j => (wd f k).testBit j) 64 = cnt (fun j => f (64 * k + j)) 64 :=
  cnt_ext fun j hj => by rw [wd_bit]; simp [hj]
def dig (c : Nat → Nat) (s : Nat) : Nat → Nat
  | 0 => 0
  | n + 1 => dig c s n + c n * 2 ^ (s * n)
def tot (c : Nat → Nat) : Nat → Nat
  | 0 => 0
  | n + 1 => tot c n + c n
theorem dig_lt (c : Nat → Nat) (s : Nat) : ∀ n, (∀ i, i < n → c i < 2 ^ s) → dig c s n < 2 ^ (s * n)
  | 0, _ => by simp [dig]
  | n + 1, h => by
    have h1 := dig_lt c s n fun i hi => h i (by omega)
    have h2 := h n (by omega)
    have h3 : (c n + 1) * 2 ^ (s * n) ≤ 2 ^ s * 2 ^ (s * n) := Nat.mul_le_mul_right _ h2
    rw [Nat.add_mul] at h3
    simp only [dig]
    rw [Nat.mul_add, Nat.mul_one, Nat.pow_add, Nat.mul_comm (2 ^ (s * n)) (2 ^ s)]
    omega
theorem dig_add (c d : Nat → Nat) (s : Nat) : ∀ n, dig c s n + dig d s n = dig (fun i => c i + d i) s n
  | 0 => by simp [dig]
  | n + 1 => by
    have := dig_add c d s n
    simp only [dig, Nat.add_mul]
    omega
theorem dig_ext {c d : Nat → Nat} {s : Nat} : ∀ {n : Nat}, (∀ i, i < n → c i = d i) → dig c s n = dig d s n
  | 0, _ => rfl
  | n + 1, h => by
    have := dig_ext (s := s) (n := n) fun i hi => h i (by omega)
    simp only [dig, this, h n (by omega)]
theorem dig_succ (c : Nat → Nat) (s : Nat) : ∀ n, dig c s (n + 1) = c 0 + 2 ^ s * dig (fun i => c (i + 1)) s n
  | 0 => by simp [dig]
  | n + 1 => by
    have := dig_succ c s n
    rw [dig, this]
    simp only [dig]
    have e : c (n + 1) * (2 ^ (s * n) * 2 ^ s) = 2 ^ s * (c (n + 1) * 2 ^ (s * n)) := by rw [← Nat.mul_assoc, Nat.mul_comm]
    rw [Nat.mul_add s n 1, Nat.mul_one, Nat.pow_add, e, Nat.mul_add]
    omega
theorem dig_shift (c : Nat → Nat) (s n : Nat) (h : c 0 < 2 ^ s) : dig c s (n + 1) / 2 ^ s = dig (fun i => c (i + 1)) s n := by
  rw [dig_succ, Nat.add_mul_div_left _ _ (Nat.two_pow_pos s), Nat.div_eq_of_lt h, Nat.zero_add]
theorem dig_bit (s : Nat) (hs : 0 < s) : ∀ (n : Nat) (c : Nat → Nat), (∀ i, i < n → c i < 2 ^ s) → ∀ j, (dig c s n).testBit j = (decide (j < s * n) && (c (j / s)).testBit (j % s))
  | 0, c, _, j => by simp [dig]
  | n + 1, c, h, j => by
    rw [dig_succ]
    have h0 := h 0 (by omega)
    have ih := dig_bit s hs n (fun i => c (i + 1)) (fun i hi => h (i + 1) (by omega))
    by_cases hj : j < s
    · rw [Nat.add_comm, Nat.testBit_two_pow_mul_add _ h0]
      have hlt : j < s * (n + 1) := by rw [Nat.mul_add]; omega
      simp [hj, Nat.div_eq_of_lt hj, Nat.mod_eq_of_lt hj, hlt]
    · rw [Nat.add_comm, Nat.testBit_two_pow_mul_add _ h0]
      obtain ⟨t, rfl⟩ : ∃ t, j = t + s := ⟨j - s, by omega⟩
      rw [if_neg hj, ih, Nat.add_div_right _ hs, Nat.add_mod_right]
      have e : (t + s < s * (n + 1)) = (t < s * n) := by rw [Nat.mul_add]; simp
      simp [e]
theorem dig_even (c : Nat → Nat) (s n mask : Nat) (hs : 0 < s) (h : ∀ i, i < 2 * n → c i < 2 ^ s)
    (hm : ∀ j, j < s * (2 * n) → mask.testBit j = decide (j / s % 2 = 0)) : dig c s (2 * n) &&& mask = dig (fun i => c (2 * i)) (2 * s) n := by
  apply Nat.eq_of_testBit_eq
  intro j
  have hp : 2 ^ s ≤ 2 ^ (2 * s) := Nat.pow_le_pow_right (by omega) (by omega)
  rw [Nat.testBit_and, dig_bit s hs _ _ h, dig_bit (2 * s) (by omega) n _ (fun i hi => Nat.lt_of_lt_of_le (h (2 * i) (by omega)) hp)]
  have e : s * (2 * n) = 2 * s * n := by rw [← Nat.mul_assoc, Nat.mul_comm s 2]
  by_cases hj : j < s * (2 * n)
  · rw [hm j hj]
    have hj' : j < 2 * s * n := by omega
    simp only [hj, hj', decide_true, Bool.true_and]
    have d : j / (2 * s) = j / s / 2 := by rw [Nat.mul_comm, Nat.div_div_eq_div_mul]
    rw [d]
    by_cases hp2 : j / s % 2 = 0
    · have e2 : 2 * (j / s / 2) = j / s := by omega
      have e3 : j % (2 * s) = j % s := by
        have h1 := Nat.div_add_mod j s
        have h3 : j / s = 2 * (j / (2 * s)) := by rw [d]; omega
        have h4 := Nat.div_add_mod j (2 * s)
        have h5 : s * (j / s) = 2 * s * (j / (2 * s)) := by
          rw [h3, ← Nat.mul_assoc, Nat.mul_comm s 2]
        omega
      rw [e2, e3]; simp [hp2]
    · have hc : c (2 * (j / s / 2)) < 2 ^ s := by
        apply h
        have : j / s < 2 * n := Nat.div_lt_of_lt_mul hj
        omega
      have hge : s ≤ j % (2 * s) := by
        have h1 := Nat.div_add_mod j s
        have h3 : j / s = 2 * (j / (2 * s)) + 1 := by rw [d]; omega
        have h4 := Nat.div_add_mod j (2 * s)
        have h5 : s * (j / s) = 2 * s * (j / (2 * s)) + s := by
          rw [h3, Nat.mul_add, ← Nat.mul_assoc, Nat.mul_comm s 2, Nat.mul_one]
        omega
      have : 2 ^ s ≤ 2 ^ (j % (2 * s)) := Nat.pow_le_pow_right (by omega) hge
      rw [Nat.testBit_lt_two_pow (Nat.lt_of_lt_of_le hc this)]
      simp [hp2]
  · have hj' : ¬ j < 2 * s * n := by omega
    simp [hj, hj']
theorem tot_pair (c : Nat → Nat) : ∀ n, tot (fun i => c (2 * i) + c (2 * i + 1)) n = tot c (2 * n)
  | 0 => by simp [tot]
  | n + 1 => by
    have := tot_pair c n
    have e : 2 * (n + 1) = 2 * n + 1 + 1 := by omega
    rw [e]; simp only [tot, this]; omega
theorem dig_round (c : Nat → Nat) (s n mask : Nat) (hs : 0 < s) (h : ∀ i, i < 2 * n → c i < 2 ^ s) (hn : 0 < n)
    (hm : ∀ j, j < s * (2 * n) → mask.testBit j = decide (j / s % 2 = 0)) :
    (dig c s (2 * n) / 2 ^ s &&& mask) + (dig c s (2 * n) &&& mask) = dig (fun i => c (2 * i) + c (2 * i + 1)) (2 * s) n := by
  have e1 : dig c s (2 * n) / 2 ^ s = dig (fun i => if i + 1 < 2 * n then c (i + 1) else 0) s (2 * n) := by
    obtain ⟨m, hm⟩ : ∃ m, 2 * n = m + 1 := ⟨2 * n - 1, by omega⟩
    rw [hm, dig_shift c s m (h 0 (by omega))]
    simp only [dig]
    rw [if_neg (by omega), Nat.zero_mul, Nat.add_zero]
    exact dig_ext fun i hi => by rw [if_pos (by omega)]
  rw [e1, dig_even c s n mask hs h hm, dig_even _ s n mask hs (fun i hi => by split; exact h _ (by omega); exact Nat.two_pow_pos s) hm, dig_add]
  refine dig_ext fun i hi => ?_
  rw [if_pos (by omega)]; omega
theorem dig_bits (x : Nat) : ∀ n, x < 2 ^ n → x = dig (fun i => if x.testBit i then 1 else 0) 1 n := by
  intro n hx
  have e : ∀ m, dig (fun i => if x.testBit i then 1 else 0) 1 m = num (fun i => x.testBit i) m := by
    intro m
    induction m with
    | zero => rfl
    | succ m ih => simp only [dig, num, ih, Nat.one_mul]; split <;> simp
  rw [e]
  exact num_eq _ n x hx fun _ _ => rfl
theorem tot_bits (f : Nat → Bool) : ∀ n, tot (fun i => if f i then 1 else 0) n = cnt f n
  | 0 => rfl
  | n + 1 => by simp only [tot, cnt, tot_bits f n]
theorem pop_one (x : Nat) (hx : x < 2 ^ 64) : ∃ d : Nat → Nat, (∀ i, d i ≤ 2) ∧ tot d 32 = cnt (fun j => x.testBit j) 64 ∧ (x / 2 &&& 6148914691236517205) + (x &&& 6148914691236517205) = dig d 2 32 := by
  have hb := dig_bits x 64 hx
  have m0 : ∀ j, j < 1 * (2 * 32) → (6148914691236517205 : Nat).testBit j = decide (j / 1 % 2 = 0) := by decide +kernel
  generalize hc : (fun i => if x.testBit i then 1 else 0) = c at hb
  have c1 : ∀ i, c i ≤ 1 := by intro i; rw [← hc]; simp only; split <;> omega
  have r0 := dig_round c 1 32 _ (by omega) (fun i _ => by have := c1 i; omega) (by omega) m0
  refine ⟨fun i => c (2 * i) + c (2 * i + 1), fun i => by have := c1 (2 * i); have := c1 (2 * i + 1); simp only; omega, ?_, ?_⟩
  · rw [tot_pair c 32, ← hc, tot_bits]
  · simp only [Nat.reduceMul, Nat.pow_one] at r0
    rw [← hb] at r0; exact r0
theorem pop_two (d : Nat → Nat) (h : ∀ i, d i ≤ 2) : ∃ g : Nat → Nat, (∀ i, g i ≤ 4) ∧ tot g 16 = tot d 32 ∧ (dig d 2 32 / 4 &&& 3689348814741910323) + (dig d 2 32 &&& 3689348814741910323) = dig g 4 16 := by
  have m1 : ∀ j, j < 2 * (2 * 16) → (3689348814741910323 : Nat).testBit j = decide (j / 2 % 2 = 0) := by decide +kernel
  have r1 := dig_round d 2 16 _ (by omega) (fun i _ => by have := h i; omega) (by omega) m1
  refine ⟨fun i => d (2 * i) + d (2 * i + 1), fun i => by have := h (2 * i); have := h (2 * i + 1); simp only; omega, tot_pair d 16, ?_⟩
  simp only [Nat.reduceMul, Nat.reducePow] at r1
  exact r1
theorem pop_a1 (g : Nat → Nat) (h : ∀ i, g i ≤ 4) : dig g 4 16 / 16 = dig (fun i => if i < 15 then g (i + 1) else 0) 4 16 := by
  have s1 := dig_shift g 4 15 (by have := h 0; omega)
  have s3 : dig (fun i => if i < 15 then g (i + 1) else 0) 4 (15 + 1) = dig (fun i => g (i + 1)) 4 15 := by
    have : dig (fun i => if i < 15 then g (i + 1) else 0) 4 15 = dig (fun i => g (i + 1)) 4 15 := dig_ext fun i hi => by rw [if_pos hi]
    rw [dig, this, if_neg (by omega), Nat.zero_mul, Nat.add_zero]
  rw [← s3] at s1
  exact s1
theorem pop_a2 (q : Nat → Nat) (q8 : ∀ i, q i ≤ 8) : dig q 4 16 < 18446744073709551616 := by
  have l3 := dig_lt q 4 16 fun i _ => by have := q8 i; omega
  simp only [Nat.reduceMul, Nat.reducePow] at l3
  exact l3
theorem pop_a3 (q : Nat → Nat) (q8 : ∀ i, q i ≤ 8) : dig q 4 16 &&& 1085102592571150095 = dig (fun i => q (2 * i)) 8 8 := by
  have m2 : ∀ j, j < 4 * (2 * 8) → (1085102592571150095 : Nat).testBit j = decide (j / 4 % 2 = 0) := by decide +kernel
  have e3 := dig_even q 4 8 _ (by omega) (fun i _ => by have := q8 i; omega) m2
  simp only [Nat.reduceMul] at e3
  exact e3
theorem pop_a4 (g : Nat → Nat) : tot (fun i => (if 2 * i < 15 then g (2 * i + 1) else 0) + g (2 * i)) 8 = tot g 16 := by
  have := tot_pair g 8
  simp only [Nat.reduceMul] at this
  rw [← this]
  simp only [tot, Nat.reduceLT, Nat.reduceAdd, Nat.reduceMul, if_true]; omega
theorem pop_three (g : Nat → Nat) (h : ∀ i, g i ≤ 4) : ∃ e : Nat → Nat, (∀ i, e i ≤ 8) ∧ tot e 8 = tot g 16 ∧ dig g 4 16 / 16 + dig g 4 16 < 18446744073709551616 ∧ (dig g 4 16 / 16 + dig g 4 16) &&& 1085102592571150095 = dig e 8 8 := by
  have q8 : ∀ i, (if i < 15 then g (i + 1) else 0) + g i ≤ 8 := by intro i; have := h (i + 1); have := h i; split <;> omega
  rw [pop_a1 g h, dig_add]
  exact ⟨_, fun i => q8 (2 * i), pop_a4 g, pop_a2 _ q8, pop_a3 _ q8⟩
theorem pop_last (e : Nat → Nat) (h : ∀ i, e i ≤ 8) : ∃ a b c : Nat, a = dig e 8 8 + dig e 8 8 / 256 ∧ a < 18446744073709551616 ∧ b = a + a / 65536 ∧ b < 18446744073709551616 ∧
    c = b + b / 4294967296 ∧ c < 9223372036854775808 ∧ c % 128 = tot e 8 := by
  have h0 := h 0; have h1 := h 1; have h2 := h 2; have h3 := h 3; have h4 := h 4; have h5 := h 5; have h6 := h 6; have h7 := h 7
  have e1 : dig e 8 8 = e 0 + 256 * e 1 + 65536 * e 2 + 16777216 * e 3 + 4294967296 * e 4 + 1099511627776 * e 5 + 281474976710656 * e 6 + 72057594037927936 * e 7 := by
    simp only [dig]; omega
  have e2 : tot e 8 = e 0 + e 1 + e 2 + e 3 + e 4 + e 5 + e 6 + e 7 := by simp only [tot]; omega
  rw [e1, e2]
  clear e1 e2
  generalize e 0 = x0 at *; generalize e 1 = x1 at *; generalize e 2 = x2 at *; generalize e 3 = x3 at *
  generalize e 4 = x4 at *; generalize e 5 = x5 at *; generalize e 6 = x6 at *; generalize e 7 = x7 at *
  clear h e
  have d1 : (x0 + 256 * x1 + 65536 * x2 + 16777216 * x3 + 4294967296 * x4 + 1099511627776 * x5 + 281474976710656 * x6 + 72057594037927936 * x7) / 256 = x1 + 256 * x2 + 65536 * x3 + 16777216 * x4 + 4294967296 * x5 + 1099511627776 * x6 + 281474976710656 * x7 := by omega
  rw [d1]; clear d1
  refine ⟨_, _, _, rfl, by omega, rfl, ?_, rfl, ?_, ?_⟩
  all_goals
    have d2 : (x0 + 256 * x1 + 65536 * x2 + 16777216 * x3 + 4294967296 * x4 + 1099511627776 * x5 + 281474976710656 * x6 + 72057594037927936 * x7 + (x1 + 256 * x2 + 65536 * x3 + 16777216 * x4 + 4294967296 * x5 + 1099511627776 * x6 + 281474976710656 * x7)) / 65536
        = (x2 + x3) + 256 * (x3 + x4) + 65536 * (x4 + x5) + 16777216 * (x5 + x6) + 4294967296 * (x6 + x7) + 1099511627776 * x7 := by omega
    rw [d2]
    clear d2
    first
    | omega
    | (have d3 : (x0 + 256 * x1 + 65536 * x2 + 16777216 * x3 + 4294967296 * x4 + 1099511627776 * x5 + 281474976710656 * x6 + 72057594037927936 * x7 + (x1 + 256 * x2 + 65536 * x3 + 16777216 * x4 + 4294967296 * x5 + 1099511627776 * x6 + 281474976710656 * x7)
        + ((x2 + x3) + 256 * (x3 + x4) + 65536 * (x4 + x5) + 16777216 * (x5 + x6) + 4294967296 * (x6 + x7) + 1099511627776 * x7)) / 4294967296 = (x4 + x5 + x6 + x7) + 256 * (x5 + x6 + x7) + 65536 * (x6 + x7) + 16777216 * x7 := by omega
       rw [d3]; clear d3; omega)
end Msk

/- Numbers, each once. -/
namespace Lx
def addN (acc : List Int) (n : Int) : List Int := if n ∈ acc then acc else acc ++ [n]
theorem addN_mem (acc : List Int) (n m : Int) : m ∈ addN acc n ↔ m ∈ acc ∨ m = n := by
  unfold addN
  split
  · rename_i h
    constructor
    · exact .inl
    · rintro (h1 | rfl)
      · exact h1
      · exact h
  · simp
end Lx

/- Of whom rules speak: plain. -/
namespace Lx
def atF : List Ru → Nat → List UInt8 → Int
  | [], _, _ => -1
  | u :: l, i, x => if u.1 = x then (i : Int) else atF l (i + 1) x
theorem atF_bd : ∀ (l : List Ru) (i : Nat) (x : List UInt8), -1 ≤ atF l i x ∧ atF l i x < i + l.length ∧ (0 ≤ atF l i x → (i : Int) ≤ atF l i x)
  | [], i, x => by simp [atF]; omega
  | u :: l, i, x => by
    have := atF_bd l (i + 1) x
    simp only [atF, List.length_cons]
    split
    · omega
    · omega
def atP5 (l : List Ru) (x : List UInt8) : Int := atF l 0 x
theorem atP5_bd (l : List Ru) (x : List UInt8) : -1 ≤ atP5 l x ∧ atP5 l x < l.length := by
  have := atF_bd l 0 x
  unfold atP5
  omega
def nms (e : Ex) : List (List UInt8) := (if e.kind = 10 then [e.name] else []) ++ (e.kids.attach.map fun k => nms k.1).flatten
  termination_by sizeOf e
  decreasing_by exact kid_lt k.2
def nmsL (ks : List Ex) : List (List UInt8) := (ks.map nms).flatten
theorem nms_eq (e : Ex) : nms e = (if e.kind = 10 then [e.name] else []) ++ nmsL e.kids := by
  rw [nms]
  congr 2
  show List.map (nms ∘ Subtype.val) e.kids.attach = _
  rw [← List.map_map, List.attach_map_subtype_val]
def spoken (l : List Ru) (acc : List Int) (xs : List (List UInt8)) : List Int := xs.foldl (fun acc x => addN acc (atP5 l x)) acc
theorem spoken_mem {l : List Ru} {m : Int} : ∀ (xs : List (List UInt8)) (acc : List Int), m ∈ spoken l acc xs ↔ m ∈ acc ∨ ∃ x ∈ xs, atP5 l x = m
  | [], acc => by simp [spoken]
  | y :: xs, acc => by
    have := spoken_mem (l := l) (m := m) xs (addN acc (atP5 l y))
    show m ∈ spoken l (addN acc (atP5 l y)) xs ↔ _
    rw [this, addN_mem]
    constructor
    · rintro ((h | h) | ⟨x, h1, h2⟩)
      · exact .inl h
      · exact .inr ⟨y, List.mem_cons_self, h.symm⟩
      · exact .inr ⟨x, List.mem_cons_of_mem _ h1, h2⟩
    · rintro (h | ⟨x, h1, h2⟩)
      · exact .inl (.inl h)
      · rcases List.mem_cons.1 h1 with rfl | h1
        · exact .inl (.inr h2.symm)
        · exact .inr ⟨x, h1, h2⟩
def spkR (l : List Ru) (u : Ru) : List Int := spoken l [] (nms u.2)
theorem spoken_len {l : List Ru} : ∀ (xs : List (List UInt8)) (acc : List Int), acc.Nodup → (∀ m ∈ acc, -1 ≤ m ∧ m < l.length) → (spoken l acc xs).Nodup ∧ ∀ m ∈ spoken l acc xs, -1 ≤ m ∧ m < l.length
  | [], acc, h1, h2 => ⟨h1, h2⟩
  | y :: xs, acc, h1, h2 => by
    refine spoken_len xs (addN acc (atP5 l y)) ?_ ?_
    · unfold addN
      split
      · exact h1
      · rename_i h
        rw [List.nodup_append]
        refine ⟨h1, by simp, fun a ha b hb => ?_⟩
        simp at hb
        subst hb
        exact fun e => h (e ▸ ha)
    · intro m hm
      rcases (addN_mem _ _ _).1 hm with hm | rfl
      · exact h2 m hm
      · exact atP5_bd l y
end Lx

/- A mask as the program holds it: an array of words; what its cells are, and what the bits' operations make of words. -/
namespace Go.Proofs.YtgfjbcdjpkcbkaaGreatDoor
open Go.RowKit Msk
def mv (f : Nat → Bool) : Array Value := Array.ofFn (n := 23) fun k => Value.int .u64 (wd f k.val : Int)
theorem mv_size (f : Nat → Bool) : (mv f).size = 23 := by simp [mv]
theorem mv_get (f : Nat → Bool) (k : Nat) (hk : k < 23) : (mv f)[k]? = some (.int .u64 (wd f k : Int)) := by
  simp [mv, hk]
theorem mv_all (f : Nat → Bool) : (mv f).all (·.oneCell') = true := by
  rw [Array.all_eq_true]
  intro i hi
  simp [mv, Value.oneCell']
theorem mv_ext {f g : Nat → Bool} (h : ∀ i, i < 1472 → f i = g i) : mv f = mv g := by
  unfold mv
  congr 1
  funext k
  have hk := k.isLt
  rw [wd_ext (f := f) (g := g) fun j hj => h _ (by omega)]
theorem mv_set (f g : Nat → Bool) (k : Nat) (hk : k < 23) : (mv f).setIfInBounds k (.int .u64 (wd g k : Int)) = mv (fun i => if i / 64 = k then g i else f i) := by
  apply Array.ext_getElem?
  intro i
  rw [Array.getElem?_setIfInBounds]
  by_cases hi : k = i
  · subst hi
    rw [if_pos rfl, if_pos (by rw [mv_size]; exact hk), mv_get _ k hk]
    rw [wd_ext (f := g) (g := fun i => if i / 64 = k then g i else f i) fun j hj => by rw [if_pos (by omega)]]
  · rw [if_neg hi]
    by_cases hlt : i < 23
    · rw [mv_get _ i hlt, mv_get _ i hlt]
      rw [wd_ext (f := f) (g := fun i => if i / 64 = k then g i else f i) fun j hj => by rw [if_neg (by omega)]]
    · rw [Array.getElem?_eq_none (by rw [mv_size]; omega), Array.getElem?_eq_none (by rw [mv_size]; omega)]
theorem mv_zero : mv (fun _ => false) = Array.replicate 23 (.int .u64 0) := by
  apply Array.ext_getElem?
  intro i
  by_cases hlt : i < 23
  · rw [mv_get _ i hlt, wd_zero]; simp [hlt]
  · rw [Array.getElem?_eq_none (by rw [mv_size]; omega)]; simp [hlt]
theorem mv_lit : (#[.int .u64 0, .int .u64 0, .int .u64 0, .int .u64 0, .int .u64 0, .int .u64 0, .int .u64 0, .int .u64 0, .int .u64 0, .int .u64 0, .int .u64 0, .int .u64 0, .int .u64 0, .int .u64 0, .int .u64 0, .int .u64 0, .int .u64 0, .int .u64 0, .int .u64 0, .int .u64 0, .int .u64 0, .int .u64 0, .int .u64 0] : Array Value) = mv (fun _ => false) := by rw [mv_zero]; rfl
theorem andNot_nat (a b : Nat) (ha : a < 18446744073709551616) (hb : b < 18446744073709551616) :
    bits .andNot .u64 (a : Int) (b : Int) = ((a &&& (18446744073709551616 - (b + 1)) : Nat) : Int) := by
  have h1 : (BitVec.ofInt 64 (a : Int)).toNat = a := by
    rw [BitVec.ofInt_natCast, BitVec.toNat_ofNat]; exact Nat.mod_eq_of_lt (by omega)
  have h2 : (BitVec.ofInt 64 (b : Int)).toNat = b := by
    rw [BitVec.ofInt_natCast, BitVec.toNat_ofNat]; exact Nat.mod_eq_of_lt (by omega)
  have hx : a &&& (18446744073709551616 - (b + 1)) ≤ a := Nat.and_le_left
  show IntKind.u64.wrap ((BitVec.ofInt 64 (a : Int) &&& ~~~ BitVec.ofInt 64 (b : Int)).toNat : Int) = _
  have e : (2 : Nat) ^ 64 - 1 - b = 18446744073709551616 - (b + 1) := by omega
  rw [BitVec.toNat_and, BitVec.toNat_not, h1, h2, IntKind.wrap_u64, e]
  omega
theorem last_word : (4294967295 : Nat) = wd (fun i => decide (i < 1440)) 22 := by
  refine wd_eq _ 22 _ (by omega) fun j hj => ?_
  have e : (4294967295 : Nat) = 2 ^ 32 - 1 := by decide
  rw [e, ones_bit]
  have : (j < 32) = (64 * 22 + j < 1440) := by apply propext; omega
  simp only [this]
theorem mv_trim (f : Nat → Bool) : (mv f).setIfInBounds 22 (.int .u64 (bits .and .u64 (wd f 22 : Int) 4294967295)) = mv fun i => f i && decide (i < 1440) := by
  have e : bits .and .u64 (wd f 22 : Int) 4294967295 = ((wd (fun i => f i && decide (i < 1440)) 22 : Nat) : Int) := by
    have := bits_and_u64_nat (wd f 22) 4294967295 (wd_lt f 22) (by omega)
    rw [← wd_and f (fun i => decide (i < 1440)) 22, ← last_word]
    exact this
  rw [e, mv_set _ _ 22 (by omega)]
  refine mv_ext fun i hi => ?_
  by_cases h : i / 64 = 22
  · rw [if_pos h]
  · rw [if_neg h]
    have : i < 1440 := by omega
    simp [this]
theorem cell_mv {w : World} {g : Nat} {f : Nat → Bool} {t : TypeId} (hg : w.heap[g]? = some (.cells (mv f) t (0, 0))) (k : Nat) (hk : k < 23) : w.cell? ⟨g, k, none⟩ = some (.int .u64 (wd f k : Int)) := by
  rw [cell_of_row w g k _ t (0, 0) hg, mv_get f k hk]
theorem cell_set_far (w : World) (a : Addr) (v : Value) (p : Addr) (h : p.block ≠ a.block) : (w.setCell a v).drew.cell? p = w.cell? p :=
  World.cell?_of_block (w := w) (Below.heap_setCell w a v p.block h)
theorem mv_start (h : Nat → Bool) : mv (fun _ => false) = mv (fun i => decide (i < 64 * 0) && h i) := mv_ext fun i _ => by simp
theorem mv_step (k : Nat) (hk : k < 23) (h : Nat → Bool) : (mv fun i => decide (i < 64 * k) && h i).setIfInBounds k (.int .u64 (wd h k : Int)) = mv fun i => decide (i < 64 * (k + 1)) && h i := by
  rw [mv_set _ _ k hk]
  refine mv_ext fun i hi => ?_
  by_cases h : i / 64 = k
  · have : i < 64 * (k + 1) := by omega
    simp [h, this]
  · have : (i < 64 * k) = (i < 64 * (k + 1)) := by apply propext; omega
    simp only [h, if_false, this]
theorem mv_full (h : Nat → Bool) : (mv fun i => decide (i < 64 * 23) && h i) = mv h := mv_ext fun i hi => by
  have : i < 64 * 23 := by omega
  simp [this]
theorem blk_eq {w : World} {g : Nat} {c c' : Array Value} {t : TypeId} (hg : w.heap[g]? = some (.cells c t (0, 0))) (e : c = c') : w.heap[g]? = some (.cells c' t (0, 0)) := by rw [hg, e]
theorem size_alloc (w : World) (o : Obj) : (w.alloc o).heap.size = w.heap.size + 1 := by show (w.heap.push o).size = _; simp
theorem blk_new (w : World) (o : Obj) (k : Nat) (h : k = w.heap.size) : (w.alloc o).heap[k]? = some o := by subst h; exact heap_alloc_new w o
theorem blk_old (w : World) (o : Obj) (k : Nat) (h : k < w.heap.size) {x : Obj} (hx : w.heap[k]? = some x) : (w.alloc o).heap[k]? = some x := (Below.heap_alloc w o k h).trans hx
theorem maskSize (f : Nat → Bool) : (Tryz.prog.info? 43).map (·.size) = some (mv f).size := by rw [mv_size]; kernel_rfl
theorem maskType : Tryz.prog.underlying 43 = some (.array 23 41) := by kernel_rfl
end Go.Proofs.YtgfjbcdjpkcbkaaGreatDoor

/- An object is put into the heap. -/
namespace Go.Proofs.YtgfjbcdjpkcbkaaGreatDoor
open Go.RowKit
def putB5 (w : World) (b : Nat) (o : Obj) : World := { w with heap := w.heap.setIfInBounds b o }
theorem putB5_below {r n : Nat} {w0 w : World} (h : Below n w0 w) (hr : n ≤ r) (o : Obj) : Below n w0 (putB5 w r o) :=
  ⟨h.os, h.tape, h.output, by simpa [putB5] using h.size, fun k hk => by
    rw [← h.block k hk]
    show (w.heap.setIfInBounds r o)[k]? = _
    rw [Array.getElem?_setIfInBounds_ne (by omega)]⟩
end Go.Proofs.YtgfjbcdjpkcbkaaGreatDoor

/- Rows of numbers; what slices.Index and slices.Contains of numbers come to. -/
namespace Go.Proofs.YtgfjbcdjpkcbkaaGreatDoor
open Go.RowKit
theorem hidr {p : Prop} (h : p) : Hid p := h
def RowI (w : World) (v : Value) (ns : List Int) : Prop := ∃ p c, v = .slice p ns.length c ∧ ns.length < 9223372036854775808 ∧ ∀ (j : Nat) (n : Int), ns[j]? = some n → ∃ g o : Nat, p = some ⟨g, o, none⟩ ∧ w.cell? ⟨g, o + j, none⟩ = some (.int .i64 n)
theorem RowI.below {w w' : World} {v : Value} {ns : List Int} (h : RowI w v ns) (hb : Below w.heap.size w w') : RowI w' v ns := by
  obtain ⟨p, c, h1, h2, h3⟩ := h
  refine ⟨p, c, h1, h2, fun j n hj => ?_⟩
  obtain ⟨g, o, e, hc⟩ := h3 j n hj
  exact ⟨g, o, e, (hb.cell (block_lt_of_cell hc)).trans hc⟩
def idxF : List Int → Nat → Int → Int
  | [], _, _ => -1
  | m :: l, i, n => if m = n then (i : Int) else idxF l (i + 1) n
theorem idxF_step {l : List Int} {j : Nat} {m n : Int} (h : l[j]? = some m) : idxF (l.drop j) j n = if m = n then (j : Int) else idxF (l.drop (j + 1)) (j + 1) n := by
  obtain ⟨h1, h2⟩ := List.getElem?_eq_some_iff.1 h
  rw [List.drop_eq_getElem_cons h1, h2]; rfl
theorem idxF_mem : ∀ (l : List Int) (i : Nat) (n : Int), (0 ≤ idxF l i n) ↔ n ∈ l
  | [], i, n => by simp [idxF]
  | m :: l, i, n => by
    have := idxF_mem l (i + 1) n
    simp only [idxF, List.mem_cons]
    by_cases h : m = n
    · rw [if_pos h]
      constructor
      · intro _; exact .inl h.symm
      · intro _; omega
    · rw [if_neg h, this]
      constructor
      · exact .inr
      · rintro (e | e)
        · exact absurd e.symm h
        · exact e
set_option maxRecDepth 100000 in
set_option maxHeartbeats 1000000 in
theorem index5_any (ns : List Int) (v : Value) (n : Int) (w : World) (h : RowI w v ns) : Calls Tryz.prog 33 #[v, .int .i64 n] w fun r w' => r = .returned (.int .i64 (idxF ns 0 n)) ∧ Below w.heap.size w w' := by
  obtain ⟨p, c, rfl, hlen, hc⟩ := h
  have HC := hidr hc
  clear hc
  go_enter Tryz.func33, Tryz.ntmps33
  go_wp2_with fail
  go_loopw [5, 8] (fun _ t wr => ∃ j : Nat, t = .int .i64 (j : Int) ∧ j ≤ ns.length ∧ idxF ns 0 n = idxF (ns.drop j) j n ∧ wr = w) (fun _ t _ => ns.length - (intOf t).toNat)
  case atStart => exact ⟨0, rfl, by omega, rfl, rfl⟩
  case round =>
    obtain ⟨j, rfl, hj, hX, rfl⟩ := hrel
    have hj0 : (0 : Int) ≤ (j : Int) := by omega
    by_cases hlt : j < ns.length
    · have hlt' : (j : Int) < (ns.length : Int) := by omega
      obtain ⟨m, hjk⟩ : ∃ p, ns[j]? = some p := ⟨ns[j], List.getElem?_eq_getElem hlt⟩
      rw [idxF_step hjk] at hX
      obtain ⟨g, o, hpe, c0⟩ := HC.out j _ hjk
      subst hpe
      by_cases hmn : m = n
      · rw [if_pos hmn] at hX
        have hb : (n == m) = true := by rw [hmn]; simp
        have HX := hidr hX
        clear hX hjk HC hmn
        go_wp2_with fail
        go_ret
        exact ⟨by (rw [HX.out]) <;> rfl, Below.refl _ _⟩
      · rw [if_neg hmn] at hX
        have hb : (n == m) = false := beq_eq_false_iff_ne.2 (fun e => hmn e.symm)
        have HX := hidr hX
        clear hX hjk hmn
        go_wp2_with fail
        go_roundw
        case rel => exact ⟨j + 1, by go_num, by omega, HX.out, trivial⟩
        case measure => simp [intOf]; omega
    · have hlt' : ¬ (j : Int) < (ns.length : Int) := by omega
      have HX : Hid (idxF ns 0 n = -1) := by
        show _ = _
        rw [hX, List.drop_of_length_le (by omega)]
        rfl
      clear hX HC
      go_wp2_with fail
      go_ret
      exact ⟨by (rw [HX.out]) <;> rfl, Below.refl _ _⟩
set_option maxRecDepth 100000 in
theorem contains5_any (ns : List Int) (v : Value) (n : Int) (w : World) (h : RowI w v ns) : Calls Tryz.prog 21 #[v, .int .i64 n] w fun r w' => r = .returned (.bool (decide (n ∈ ns))) ∧ Below w.heap.size w w' := by
  have c1 := index5_any ns v n w h
  obtain ⟨p, c, rfl, _, _⟩ := h
  have HD : Hid (decide (n ∈ ns) = decide (0 ≤ idxF ns 0 n)) := by
    show _ = _
    have hm := idxF_mem ns 0 n
    by_cases hn : n ∈ ns
    · rw [decide_eq_true hn, decide_eq_true (hm.2 hn)]
    · rw [decide_eq_false hn, decide_eq_false (fun e => hn (hm.1 e))]
  go_enter Tryz.func21, Tryz.ntmps21
  go_wp2_with fail
  refine c1.mono ?_
  rintro r w1 ⟨rfl, hb⟩
  clear c1
  generalize idxF ns 0 n = q at *
  go_wp2_with fail
  go_ret
  exact ⟨by (rw [HD.out]) <;> rfl, hb⟩
end Go.Proofs.YtgfjbcdjpkcbkaaGreatDoor

/- What masks.trim, combine, Union, Diff and Both come to. -/
namespace Go.Proofs.YtgfjbcdjpkcbkaaGreatDoor
open Go.RowKit Msk
set_option maxHeartbeats 400000 in
theorem trim_any (f : Nat → Bool) (w : World) :
    Calls Tryz.prog 26 #[.agg (mv f)] w fun e w' => e = .returned (.agg (mv fun i => f i && decide (i < 1440))) ∧ Below w.heap.size w w' := by
  have g22 := mv_get f 22 (by omega)
  have e22 := mv_trim f
  have hz := mv_lit
  go_enter Tryz.func26, Tryz.ntmps26
  go_wp2_with (first
    | (refine wpList_load_row rfl 43 _ rfl _ rfl _ _ _ _ (heap_alloc2_old _ _ _) maskType rfl (maskSize _) ?_)
    | (refine wpList_store_row rfl 43 _ _ rfl _ _ rfl rfl _ _ (heap_alloc2_new _ _ _) (maskSize _) (by simp [mv_size]) (mv_all _) ?_))
  refine bodyPost_ret (v := .agg (mv fun i => f i && decide (i < 1440))) ?_ rfl ⟨rfl, ?_⟩
  · exact results_cell_row rfl _ _ (w.heap.size + 1) _ _ _ _ rfl (setRow_heap _ _ _ _ _ _ (heap_alloc2_new _ _ _)) maskType rfl (maskSize _)
  · exact below_setRow (((Below.refl _ _).alloc (Nat.le_refl _) _).alloc (by simp) _) (by omega) _
attribute [local go_sem ↓] Go.wp_at_zero Go.wp_at_succ
set_option maxRecDepth 100000 in
set_option maxHeartbeats 1000000 in
theorem combine_any (K : Nat) (o : Bool → Bool → Bool) (hK : ∀ (f g : Nat → Bool) (k : Nat) (w : World), Calls Tryz.prog K #[.int .u64 (wd f k : Int), .int .u64 (wd g k : Int)] w fun e w' => e = .returned (.int .u64 (wd (fun i => o (f i) (g i)) k : Int)) ∧ w' = w)
    (eK : ∀ args w, (callFunc K args).run Tryz.prog w = .ok (.enter K args) w) (a b : Nat → Bool) (w : World) :
    Calls Tryz.prog 39 #[.agg (mv a), .agg (mv b), .func (.func K) #[] #[]] w fun e w' => e = .returned (.agg (mv fun i => o (a i) (b i) && decide (i < 1440))) ∧ Below w.heap.size w w' := by
  have hz := mv_lit
  go_enter Tryz.func39, Tryz.ntmps39
  go_wp2
  go_loopw [9] (fun i wr => ∃ k : Nat, k ≤ 23 ∧ i = .int .i64 k ∧ wr.heap[w.heap.size]? = some (.cells (mv a) 43 (0, 0)) ∧ wr.heap[w.heap.size + 1]? = some (.cells (mv b) 43 (0, 0)) ∧ wr.heap[w.heap.size + 1 + 1]? = some (.cells (mv fun _ => false) 43 (0, 0)) ∧
      wr.heap[w.heap.size + 1 + 1 + 1]? = some (.cells (mv fun i => decide (i < 64 * k) && o (a i) (b i)) 43 (0, 0)) ∧ Below w.heap.size w wr) (fun i _ => 23 - (intOf i).toNat)
  case atStart =>
    refine ⟨0, by omega, rfl, ?_, ?_, ?_, ?_, ?_⟩
    · (repeat (first | refine blk_old _ _ _ (by simp only [size_alloc]; omega) ?_ | exact blk_new _ _ _ (by first | rfl | simp only [size_alloc])))
    · (repeat (first | refine blk_old _ _ _ (by simp only [size_alloc]; omega) ?_ | exact blk_new _ _ _ (by first | rfl | simp only [size_alloc])))
    · (repeat (first | refine blk_old _ _ _ (by simp only [size_alloc]; omega) ?_ | exact blk_new _ _ _ (by first | rfl | simp only [size_alloc])))
    · refine blk_eq ?_ (mv_start _)
      (repeat (first | refine blk_old _ _ _ (by simp only [size_alloc]; omega) ?_ | exact blk_new _ _ _ (by first | rfl | simp only [size_alloc])))
    · exact ((((Below.refl _ _).alloc (Nat.le_refl _) _).alloc (by simp) _).alloc (by simp; omega) _).alloc (by simp; omega) _
  case round =>
    obtain ⟨k, hk, rfl, ha, hb, ho, hm, hbel⟩ := hrel
    by_cases hlt : k < 23
    · have ca := cell_mv ha k hlt
      have cb := cell_mv hb k hlt
      have cm := cell_mv hm k hlt
      have fm := frozen_of_row _ _ k _ _ hm
      have hi0 : (0 : Int) ≤ (k : Int) := by omega
      have hi1 : (k : Int) < 23 := by omega
      have n1 : w.heap.size + 1 + 1 + 1 ≠ w.heap.size := by omega
      have n2 : w.heap.size + 1 + 1 ≠ w.heap.size := by omega
      go_wp2
      go_region_held3 (fun w' => w'.cell? ⟨w.heap.size, k, none⟩ = some (.int .u64 (wd a k : Int)) ∧ w'.cell? ⟨w.heap.size + 1, k, none⟩ = some (.int .u64 (wd b k : Int)))
        (go_keep)
        ((refine (hK a b k _).mono ?_; rintro e w' ⟨rfl, rfl⟩))
      go_wp2
      go_roundw
      case rel =>
        refine ⟨k + 1, by omega, by go_num, ?_, ?_, ?_, ?_, ?_⟩
        · exact (heap_setCell_other _ _ _ _ (by dsimp only; omega)).trans ha
        · exact (heap_setCell_other _ _ _ _ (by dsimp only; omega)).trans hb
        · exact (heap_setCell_other _ _ _ _ (by dsimp only; omega)).trans ho
        · exact blk_eq (heap_setCell_same _ _ _ _ _ _ hm) (mv_step k hlt fun i => o (a i) (b i))
        · exact (hbel.setCell (by dsimp only; omega) _).drew
      case measure => simp [intOf]; omega
    · have hk23 : k = 23 := by omega
      subst hk23
      have hm' := blk_eq hm (mv_full fun i => o (a i) (b i))
      clear hm
      go_wp2_with (first
        | (refine wpList_load_row rfl 43 _ rfl _ rfl _ _ _ _ hm' maskType rfl (maskSize _) ?_)
        | (go_at_call 26; refine (trim_any _ _).mono ?_; rintro e w' ⟨rfl, hb'⟩; have ho' := (hb'.block (w.heap.size + 1 + 1) (lt_of_block ho)).trans ho)
        | (refine wpList_store_row rfl 43 _ _ rfl _ _ rfl rfl _ _ (by assumption) (maskSize _) (by simp [mv_size]) (mv_all _) ?_))
      refine bodyPost_ret (v := .agg (mv fun i => o (a i) (b i) && decide (i < 1440))) ?_ rfl ⟨rfl, ?_⟩
      · exact results_cell_row rfl _ _ (w.heap.size + 1 + 1) _ _ _ _ rfl (setRow_heap _ _ _ _ _ _ ho') maskType rfl (maskSize _)
      · exact below_setRow (hbel.trans (hb'.mono hbel.size)) (by omega) _
theorem or_any (f g : Nat → Bool) (k : Nat) (w : World) : Calls Tryz.prog 60 #[.int .u64 (wd f k : Int), .int .u64 (wd g k : Int)] w fun e w' => e = .returned (.int .u64 (wd (fun i => f i || g i) k : Int)) ∧ w' = w := by
  have e1 := bits_or_u64_nat _ _ (wd_lt f k) (wd_lt g k)
  rw [wd_or] at e1
  go_enter Tryz.func60, Tryz.ntmps60
  go_wp2
  go_ret
  exact ⟨rfl, rfl⟩
theorem and_any (f g : Nat → Bool) (k : Nat) (w : World) : Calls Tryz.prog 61 #[.int .u64 (wd f k : Int), .int .u64 (wd g k : Int)] w fun e w' => e = .returned (.int .u64 (wd (fun i => f i && g i) k : Int)) ∧ w' = w := by
  have e1 := bits_and_u64_nat _ _ (wd_lt f k) (wd_lt g k)
  rw [wd_and] at e1
  go_enter Tryz.func61, Tryz.ntmps61
  go_wp2
  go_ret
  exact ⟨rfl, rfl⟩
theorem not_any (f g : Nat → Bool) (k : Nat) (w : World) : Calls Tryz.prog 40 #[.int .u64 (wd f k : Int), .int .u64 (wd g k : Int)] w fun e w' => e = .returned (.int .u64 (wd (fun i => f i && !g i) k : Int)) ∧ w' = w := by
  have e1 := andNot_nat _ _ (wd_lt f k) (wd_lt g k)
  rw [wd_andNot] at e1
  go_enter Tryz.func40, Tryz.ntmps40
  go_wp2
  go_ret
  exact ⟨rfl, rfl⟩
set_option maxHeartbeats 400000 in
theorem union_any (a b : Nat → Bool) (w : World) :
    Calls Tryz.prog 46 #[.agg (mv a), .agg (mv b)] w fun e w' => e = .returned (.agg (mv fun i => (a i || b i) && decide (i < 1440))) ∧ Below w.heap.size w w' := by
  have hz := mv_lit
  have h1 : (((w.alloc (.cells (mv a) 43)).alloc (.cells (mv b) 43)).alloc (.cells (mv fun _ => false) 43)).heap[w.heap.size]? = some (.cells (mv a) 43 (0, 0)) := by (repeat (first | refine blk_old _ _ _ (by simp only [size_alloc]; omega) ?_ | exact blk_new _ _ _ (by first | rfl | simp only [size_alloc])))
  have h2 : (((w.alloc (.cells (mv a) 43)).alloc (.cells (mv b) 43)).alloc (.cells (mv fun _ => false) 43)).heap[w.heap.size + 1]? = some (.cells (mv b) 43 (0, 0)) := by (repeat (first | refine blk_old _ _ _ (by simp only [size_alloc]; omega) ?_ | exact blk_new _ _ _ (by first | rfl | simp only [size_alloc])))
  have h3 : (((w.alloc (.cells (mv a) 43)).alloc (.cells (mv b) 43)).alloc (.cells (mv fun _ => false) 43)).heap[w.heap.size + 1 + 1]? = some (.cells (mv fun _ => false) 43 (0, 0)) := by (repeat (first | refine blk_old _ _ _ (by simp only [size_alloc]; omega) ?_ | exact blk_new _ _ _ (by first | rfl | simp only [size_alloc])))
  have hb0 : Below w.heap.size w (((w.alloc (.cells (mv a) 43)).alloc (.cells (mv b) 43)).alloc (.cells (mv fun _ => false) 43)) := (((Below.refl _ _).alloc (Nat.le_refl _) _).alloc (by simp) _).alloc (by simp only [size_alloc]; omega) _
  go_enter Tryz.func46, Tryz.ntmps46
  go_wp2_with (first
    | (refine wpList_load_row rfl 43 _ rfl _ rfl _ _ _ _ h1 maskType rfl (maskSize _) ?_)
    | (refine wpList_load_row rfl 43 _ rfl _ rfl _ _ _ _ h2 maskType rfl (maskSize _) ?_)
    | (go_at_call 39; refine (combine_any 60 (fun x y => x || y) or_any (fun _ _ => by simp [go_sem]) a b _).mono ?_; rintro e w' ⟨rfl, hb'⟩; have ho' := (hb'.block _ (lt_of_block h3)).trans h3)
    | (refine wpList_store_row rfl 43 _ _ rfl _ _ rfl rfl _ _ (by assumption) (maskSize _) (by simp [mv_size]) (mv_all _) ?_))
  refine bodyPost_ret (v := .agg (mv fun i => (a i || b i) && decide (i < 1440))) ?_ rfl ⟨rfl, ?_⟩
  · exact results_cell_row rfl _ _ (w.heap.size + 1 + 1) _ _ _ _ rfl (setRow_heap _ _ _ _ _ _ ho') maskType rfl (maskSize _)
  · exact below_setRow (hb0.trans (hb'.mono hb0.size)) (by omega) _
set_option maxHeartbeats 400000 in
theorem diff_any (a b : Nat → Bool) (w : World) :
    Calls Tryz.prog 28 #[.agg (mv a), .agg (mv b)] w fun e w' => e = .returned (.agg (mv fun i => (a i && !b i) && decide (i < 1440))) ∧ Below w.heap.size w w' := by
  have hz := mv_lit
  have h1 : (((w.alloc (.cells (mv a) 43)).alloc (.cells (mv b) 43)).alloc (.cells (mv fun _ => false) 43)).heap[w.heap.size]? = some (.cells (mv a) 43 (0, 0)) := by (repeat (first | refine blk_old _ _ _ (by simp only [size_alloc]; omega) ?_ | exact blk_new _ _ _ (by first | rfl | simp only [size_alloc])))
  have h2 : (((w.alloc (.cells (mv a) 43)).alloc (.cells (mv b) 43)).alloc (.cells (mv fun _ => false) 43)).heap[w.heap.size + 1]? = some (.cells (mv b) 43 (0, 0)) := by (repeat (first | refine blk_old _ _ _ (by simp only [size_alloc]; omega) ?_ | exact blk_new _ _ _ (by first | rfl | simp only [size_alloc])))
  have h3 : (((w.alloc (.cells (mv a) 43)).alloc (.cells (mv b) 43)).alloc (.cells (mv fun _ => false) 43)).heap[w.heap.size + 1 + 1]? = some (.cells (mv fun _ => false) 43 (0, 0)) := by (repeat (first | refine blk_old _ _ _ (by simp only [size_alloc]; omega) ?_ | exact blk_new _ _ _ (by first | rfl | simp only [size_alloc])))
  have hb0 : Below w.heap.size w (((w.alloc (.cells (mv a) 43)).alloc (.cells (mv b) 43)).alloc (.cells (mv fun _ => false) 43)) := (((Below.refl _ _).alloc (Nat.le_refl _) _).alloc (by simp) _).alloc (by simp only [size_alloc]; omega) _
  go_enter Tryz.func28, Tryz.ntmps28
  go_wp2_with (first
    | (refine wpList_load_row rfl 43 _ rfl _ rfl _ _ _ _ h1 maskType rfl (maskSize _) ?_)
    | (refine wpList_load_row rfl 43 _ rfl _ rfl _ _ _ _ h2 maskType rfl (maskSize _) ?_)
    | (go_at_call 39; refine (combine_any 40 (fun x y => x && !y) not_any (fun _ _ => by simp [go_sem]) a b _).mono ?_; rintro e w' ⟨rfl, hb'⟩; have ho' := (hb'.block _ (lt_of_block h3)).trans h3)
    | (refine wpList_store_row rfl 43 _ _ rfl _ _ rfl rfl _ _ (by assumption) (maskSize _) (by simp [mv_size]) (mv_all _) ?_))
  refine bodyPost_ret (v := .agg (mv fun i => (a i && !b i) && decide (i < 1440))) ?_ rfl ⟨rfl, ?_⟩
  · exact results_cell_row rfl _ _ (w.heap.size + 1 + 1) _ _ _ _ rfl (setRow_heap _ _ _ _ _ _ ho') maskType rfl (maskSize _)
  · exact below_setRow (hb0.trans (hb'.mono hb0.size)) (by omega) _
set_option maxHeartbeats 400000 in
theorem both_any (a b : Nat → Bool) (w : World) :
    Calls Tryz.prog 47 #[.agg (mv a), .agg (mv b)] w fun e w' => e = .returned (.agg (mv fun i => (a i && b i) && decide (i < 1440))) ∧ Below w.heap.size w w' := by
  have hz := mv_lit
  have h1 : (((w.alloc (.cells (mv a) 43)).alloc (.cells (mv b) 43)).alloc (.cells (mv fun _ => false) 43)).heap[w.heap.size]? = some (.cells (mv a) 43 (0, 0)) := by (repeat (first | refine blk_old _ _ _ (by simp only [size_alloc]; omega) ?_ | exact blk_new _ _ _ (by first | rfl | simp only [size_alloc])))
  have h2 : (((w.alloc (.cells (mv a) 43)).alloc (.cells (mv b) 43)).alloc (.cells (mv fun _ => false) 43)).heap[w.heap.size + 1]? = some (.cells (mv b) 43 (0, 0)) := by (repeat (first | refine blk_old _ _ _ (by simp only [size_alloc]; omega) ?_ | exact blk_new _ _ _ (by first | rfl | simp only [size_alloc])))
  have h3 : (((w.alloc (.cells (mv a) 43)).alloc (.cells (mv b) 43)).alloc (.cells (mv fun _ => false) 43)).heap[w.heap.size + 1 + 1]? = some (.cells (mv fun _ => false) 43 (0, 0)) := by (repeat (first | refine blk_old _ _ _ (by simp only [size_alloc]; omega) ?_ | exact blk_new _ _ _ (by first | rfl | simp only [size_alloc])))
  have hb0 : Below w.heap.size w (((w.alloc (.cells (mv a) 43)).alloc (.cells (mv b) 43)).alloc (.cells (mv fun _ => false) 43)) := (((Below.refl _ _).alloc (Nat.le_refl _) _).alloc (by simp) _).alloc (by simp only [size_alloc]; omega) _
  go_enter Tryz.func47, Tryz.ntmps47
  go_wp2_with (first
    | (refine wpList_load_row rfl 43 _ rfl _ rfl _ _ _ _ h1 maskType rfl (maskSize _) ?_)
    | (refine wpList_load_row rfl 43 _ rfl _ rfl _ _ _ _ h2 maskType rfl (maskSize _) ?_)
    | (go_at_call 39; refine (combine_any 61 (fun x y => x && y) and_any (fun _ _ => by simp [go_sem]) a b _).mono ?_; rintro e w' ⟨rfl, hb'⟩; have ho' := (hb'.block _ (lt_of_block h3)).trans h3)
    | (refine wpList_store_row rfl 43 _ _ rfl _ _ rfl rfl _ _ (by assumption) (maskSize _) (by simp [mv_size]) (mv_all _) ?_))
  refine bodyPost_ret (v := .agg (mv fun i => (a i && b i) && decide (i < 1440))) ?_ rfl ⟨rfl, ?_⟩
  · exact results_cell_row rfl _ _ (w.heap.size + 1 + 1) _ _ _ _ rfl (setRow_heap _ _ _ _ _ _ ho') maskType rfl (maskSize _)
  · exact below_setRow (hb0.trans (hb'.mono hb0.size)) (by omega) _
end Go.Proofs.YtgfjbcdjpkcbkaaGreatDoor

/- What the small functions on numbers come to: ones, wordEnd, and the library's OnesCount64 and TrailingZeros64. -/
namespace Go.Proofs.YtgfjbcdjpkcbkaaGreatDoor
open Go.RowKit Msk
theorem ret_val {v v' : Value} (h : v = v') : Ending.returned v = .returned v' := by rw [h]
theorem int_eq {k : IntKind} {a b : Int} (h : a = b) : Value.int k a = .int k b := by rw [h]
theorem ones_num (n : Nat) (hn : n ≤ 64) : IntKind.u64.wrap (IntKind.u64.wrap (2 ^ n) - 1) = ((2 ^ n - 1 : Nat) : Int) := by
  rw [IntKind.wrap_u64, IntKind.wrap_u64]
  have hp : (1 : Nat) ≤ 2 ^ n := Nat.two_pow_pos n
  have hc : ((2 : Int) ^ n) = ((2 ^ n : Nat) : Int) := by simp
  rw [hc]
  by_cases h : n = 64
  · subst h; decide
  · have hl : 2 ^ n ≤ 2 ^ 63 := Nat.pow_le_pow_right (by omega) (by omega)
    generalize 2 ^ n = p at *
    omega
theorem ones_any (n : Nat) (hn : n ≤ 64) (w : World) : Calls Tryz.prog 55 #[.int .i64 n] w fun e w' => e = .returned (.int .u64 ((2 ^ n - 1 : Nat) : Int)) ∧ w' = w := by
  go_enter Tryz.func55, Tryz.ntmps55
  go_wp2
  go_ret
  exact ⟨ret_val (int_eq (ones_num n hn)), rfl⟩
theorem ones_at (d : Int) (h0 : 0 ≤ d) (h1 : d ≤ 64) (w : World) : Calls Tryz.prog 55 #[.int .i64 d] w fun e w' => e = .returned (.int .u64 ((2 ^ d.toNat - 1 : Nat) : Int)) ∧ w' = w := by
  have := ones_any d.toNat (by omega) w
  rw [Int.toNat_of_nonneg h0] at this
  exact this
theorem wordEnd_any (n : Nat) (hn : n ≤ 1440) (w : World) : Calls Tryz.prog 54 #[.int .i64 n] w fun e w' => e = .returned (.int .i64 ((64 * (n / 64) + 64 : Nat) : Int)) ∧ w' = w := by
  go_enter Tryz.func54, Tryz.ntmps54
  go_wp2
  go_ret
  exact ⟨ret_val (int_eq (by omega)), rfl⟩
theorem bits_and_i64_nat (a b : Nat) (ha : a < 9223372036854775808) (hb : b < 9223372036854775808) :
    bits .and .i64 (a : Int) (b : Int) = ((a &&& b : Nat) : Int) := by
  have hx : a &&& b < 2 ^ 63 := Nat.and_lt_two_pow _ (by omega)
  have h1 : (BitVec.ofInt 64 (a : Int)).toNat = a := by
    rw [BitVec.ofInt_natCast, BitVec.toNat_ofNat]; exact Nat.mod_eq_of_lt (by omega)
  have h2 : (BitVec.ofInt 64 (b : Int)).toNat = b := by
    rw [BitVec.ofInt_natCast, BitVec.toNat_ofNat]; exact Nat.mod_eq_of_lt (by omega)
  show IntKind.i64.wrap ((BitVec.ofInt 64 (a : Int) &&& BitVec.ofInt 64 (b : Int)).toNat : Int) = _
  rw [BitVec.toNat_and, h1, h2, IntKind.wrap_i64]
  omega
theorem pop_chain (x : Nat) (hx : x < 18446744073709551616) : ∃ y z d a b c : Nat, c < 9223372036854775808 ∧
    IntKind.u64.wrap (bits .and .u64 ((x : Int) / 2) 6148914691236517205 + bits .and .u64 (x : Int) 6148914691236517205) = (y : Int) ∧
    IntKind.u64.wrap (bits .and .u64 ((y : Int) / 4) 3689348814741910323 + bits .and .u64 (y : Int) 3689348814741910323) = (z : Int) ∧
    bits .and .u64 (IntKind.u64.wrap ((z : Int) / 16 + (z : Int))) 1085102592571150095 = (d : Int) ∧
    IntKind.u64.wrap ((d : Int) + (d : Int) / 256) = (a : Int) ∧ IntKind.u64.wrap ((a : Int) + (a : Int) / 65536) = (b : Int) ∧
    IntKind.u64.wrap ((b : Int) + (b : Int) / 4294967296) = (c : Int) ∧ bits .and .i64 (c : Int) 127 = ((cnt (fun j => x.testBit j) 64 : Nat) : Int) := by
  obtain ⟨e1, h1, t1, r1⟩ := pop_one x hx
  obtain ⟨e2, h2, t2, r2⟩ := pop_two e1 h1
  obtain ⟨e3, h3, t3, l3, r3⟩ := pop_three e2 h2
  obtain ⟨a, b, c, ha, la, hb, lb, hc, lc, hs⟩ := pop_last e3 h3
  have ly : dig e1 2 32 < 2 ^ (2 * 32) := dig_lt e1 2 32 fun i _ => by have := h1 i; omega
  simp only [Nat.reduceMul, Nat.reducePow] at ly
  rw [t3, t2, t1] at hs
  clear t1 t2 t3 h1 h2 h3
  generalize dig e1 2 32 = y at *
  generalize dig e2 4 16 = z at *
  generalize dig e3 8 8 = d at *
  have lz : z < 18446744073709551616 := by omega
  have q1 := bits_and_u64_nat (x / 2) 6148914691236517205 (by omega) (by omega)
  have q2 := bits_and_u64_nat x 6148914691236517205 hx (by omega)
  have q3 := bits_and_u64_nat (y / 4) 3689348814741910323 (by omega) (by omega)
  have q4 := bits_and_u64_nat y 3689348814741910323 ly (by omega)
  have q5 := bits_and_u64_nat (z / 16 + z) 1085102592571150095 l3 (by omega)
  have q6 := bits_and_i64_nat c 127 lc (by omega)
  have q7 : c &&& 127 = c % 128 := Nat.and_two_pow_sub_one_eq_mod c 7
  refine ⟨y, z, d, a, b, c, lc, ?_, ?_, ?_, ?_, ?_, ?_, ?_⟩
  · have e : ((x / 2 : Nat) : Int) = (x : Int) / 2 := by omega
    have e' : ((6148914691236517205 : Nat) : Int) = 6148914691236517205 := rfl
    rw [e, e'] at q1; rw [e'] at q2
    rw [q1, q2, IntKind.wrap_u64]
    omega
  · have e : ((y / 4 : Nat) : Int) = (y : Int) / 4 := by omega
    have e' : ((3689348814741910323 : Nat) : Int) = 3689348814741910323 := rfl
    rw [e, e'] at q3; rw [e'] at q4
    rw [q3, q4, IntKind.wrap_u64]
    omega
  · have e : IntKind.u64.wrap ((z : Int) / 16 + (z : Int)) = ((z / 16 + z : Nat) : Int) := by rw [IntKind.wrap_u64]; omega
    have e' : ((1085102592571150095 : Nat) : Int) = 1085102592571150095 := rfl
    rw [e'] at q5
    rw [e, q5, r3]
  · rw [IntKind.wrap_u64]; omega
  · rw [IntKind.wrap_u64]; omega
  · rw [IntKind.wrap_u64]; omega
  · have e' : ((127 : Nat) : Int) = 127 := rfl
    rw [e'] at q6
    rw [q6, q7, hs]
theorem pop_any (x : Nat) (hx : x < 18446744073709551616) (w : World) : Calls Tryz.prog 27 #[.int .u64 x] w fun e w' => e = .returned (.int .i64 ((cnt (fun j => x.testBit j) 64 : Nat) : Int)) ∧ w' = w := by
  obtain ⟨y, z, d, a, b, c, lc, s1, s2, s3, s4, s5, s6, s7⟩ := pop_chain x hx
  generalize cnt (fun j => x.testBit j) 64 = n at *
  go_enter Tryz.func27, Tryz.ntmps27
  go_wp2
  go_ret
  exact ⟨rfl, rfl⟩
end Go.Proofs.YtgfjbcdjpkcbkaaGreatDoor
