/-
  Plain facts about bits, words and masks, that speak of no program: a mask of minutes is a function from places to bits.
-/
import Derived.Lib.SlicesCompact
import Derived.Test.YtlhjgajhcabhoaaDoorRows
import Derived.WalkKit
import Derived.WalkSpells
import Derived.WalkLawsBesides
import Derived.Deep.QuietTactic
import Derived.BigQuiet
import Derived.Laws.Bits64b
import Derived.Laws.Rows
import Derived.Laws.Tables
import Derived.Deep.WholeRow
namespace Msk

/-- The number whose lowest n bits are p 0, p 1 and so on. -/
def num (p : Nat → Bool) : Nat → Nat
  | 0 => 0
  | n + 1 => num p n + if p n then 2 ^ n else 0

theorem num_lt (p : Nat → Bool) : ∀ n, num p n < 2 ^ n
  | 0 => by simp [num]
  | n + 1 => by
    have := num_lt p n
    simp only [num, Nat.pow_succ]
    split <;> omega

theorem num_bit (p : Nat → Bool) (j : Nat) : ∀ n, (num p n).testBit j = (decide (j < n) && p j)
  | 0 => by simp [num]
  | n + 1 => by
    have hl := num_lt p n
    have ih := num_bit p j n
    simp only [num]
    by_cases hp : p n = true
    · rw [if_pos hp, Nat.add_comm]
      by_cases h1 : j < n
      · rw [Nat.testBit_two_pow_add_gt h1, ih]
        have : j < n + 1 := by omega
        simp [h1, this]
      · by_cases h2 : j = n
        · subst h2
          rw [Nat.testBit_two_pow_add_eq, ih]
          simp [hp]
        · have h3 : ¬ j < n + 1 := by omega
          have h4 : 2 ^ (n + 1) ≤ 2 ^ j := Nat.pow_le_pow_right (by omega) (by omega)
          rw [Nat.testBit_lt_two_pow (by rw [Nat.pow_succ] at h4; omega)]
          simp [h3]
    · rw [if_neg hp, Nat.add_zero, ih]
      by_cases h2 : j = n
      · subst h2; simp at hp; simp [hp]
      · by_cases h1 : j < n
        · have : j < n + 1 := by omega
          simp [h1, this]
        · have : ¬ j < n + 1 := by omega
          simp [h1, this]

theorem num_eq (p : Nat → Bool) (n x : Nat) (hx : x < 2 ^ n) (h : ∀ j, j < n → x.testBit j = p j) : x = num p n := by
  apply Nat.eq_of_testBit_eq
  intro j
  rw [num_bit]
  by_cases hj : j < n
  · simp [hj, h j hj]
  · have : 2 ^ n ≤ 2 ^ j := Nat.pow_le_pow_right (by omega) (by omega)
    rw [Nat.testBit_lt_two_pow (by omega)]
    simp [hj]

theorem num_ext {p q : Nat → Bool} {n : Nat} (h : ∀ j, j < n → p j = q j) : num p n = num q n :=
  num_eq q n _ (num_lt p n) fun j hj => by rw [num_bit]; simp [hj, h j hj]

/-- Word k of a mask. -/
def wd (f : Nat → Bool) (k : Nat) : Nat := num (fun j => f (64 * k + j)) 64

theorem wd_lt (f : Nat → Bool) (k : Nat) : wd f k < 18446744073709551616 := num_lt _ 64
theorem wd_bit (f : Nat → Bool) (k j : Nat) : (wd f k).testBit j = (decide (j < 64) && f (64 * k + j)) := num_bit _ j 64
theorem wd_eq (f : Nat → Bool) (k x : Nat) (hx : x < 18446744073709551616) (h : ∀ j, j < 64 → x.testBit j = f (64 * k + j)) : x = wd f k :=
  num_eq _ 64 x hx h
theorem wd_ext {f g : Nat → Bool} {k : Nat} (h : ∀ j, j < 64 → f (64 * k + j) = g (64 * k + j)) : wd f k = wd g k := num_ext h
theorem wd_inj {f g : Nat → Bool} {k : Nat} (h : wd f k = wd g k) (j : Nat) (hj : j < 64) : f (64 * k + j) = g (64 * k + j) := by
  have h1 := wd_bit f k j
  rw [h, wd_bit] at h1
  simpa [hj] using h1.symm

theorem wd_and (f g : Nat → Bool) (k : Nat) : wd f k &&& wd g k = wd (fun i => f i && g i) k := by
  refine wd_eq _ k _ (show wd f k &&& wd g k < 2 ^ 64 from Nat.and_lt_two_pow _ (wd_lt g k)) fun j hj => ?_
  rw [Nat.testBit_and, wd_bit, wd_bit]; simp [hj]
theorem wd_or (f g : Nat → Bool) (k : Nat) : wd f k ||| wd g k = wd (fun i => f i || g i) k := by
  refine wd_eq _ k _ (show wd f k ||| wd g k < 2 ^ 64 from Nat.or_lt_two_pow (wd_lt f k) (wd_lt g k)) fun j hj => ?_
  rw [Nat.testBit_or, wd_bit, wd_bit]; simp [hj]
/-- What has the bits of one, without those of the other. -/
theorem wd_andNot (f g : Nat → Bool) (k : Nat) : wd f k &&& (18446744073709551616 - (wd g k + 1)) = wd (fun i => f i && !g i) k := by
  refine wd_eq _ k _ (Nat.lt_of_le_of_lt Nat.and_le_left (wd_lt f k)) fun j hj => ?_
  have e : (18446744073709551616 : Nat) = 2 ^ 64 := by decide
  rw [Nat.testBit_and, e, Nat.testBit_two_pow_sub_succ (wd_lt g k), wd_bit, wd_bit]; simp [hj]

theorem wd_zero (k : Nat) : wd (fun _ => false) k = 0 := by
  have : (0 : Nat) = wd (fun _ => false) k := wd_eq _ k 0 (by omega) (by simp)
  exact this.symm

theorem wd_ne_zero {f : Nat → Bool} {k : Nat} (h : wd f k ≠ 0) : ∃ j, j < 64 ∧ f (64 * k + j) = true := by
  by_cases hx : ∃ j, j < 64 ∧ f (64 * k + j) = true
  · exact hx
  · exfalso; apply h
    rw [← wd_zero k]
    refine wd_ext fun j hj => ?_
    cases hb : f (64 * k + j)
    · rfl
    · exact absurd ⟨j, hj, hb⟩ hx

/-- A shift upward, within a word. -/
theorem shl_bit (x r j : Nat) (hj : j < 64) : (x * 2 ^ r % 18446744073709551616).testBit j = (decide (r ≤ j) && x.testBit (j - r)) := by
  have e : (18446744073709551616 : Nat) = 2 ^ 64 := by decide
  rw [e, Nat.testBit_mod_two_pow, Nat.testBit_mul_two_pow]
  simp [hj]
theorem shr_bit (x r j : Nat) : (x / 2 ^ r).testBit j = x.testBit (j + r) := by
  rw [Nat.testBit_div_two_pow]

theorem ones_bit (n j : Nat) : (2 ^ n - 1).testBit j = decide (j < n) := by
  rw [Nat.testBit_two_pow_sub_one]

/-- The words' own bits make each word. -/
theorem wd_of (m : Nat → Nat) (h : ∀ k, k < 23 → m k < 18446744073709551616) (k : Nat) (hk : k < 23) : m k = wd (fun i => (m (i / 64)).testBit (i % 64)) k := by
  refine wd_eq _ k _ (h k hk) fun j hj => ?_
  have h1 : (64 * k + j) / 64 = k := by omega
  have h2 : (64 * k + j) % 64 = j := by omega
  simp [h1, h2]

/-! Counting. -/
def cnt (f : Nat → Bool) : Nat → Nat
  | 0 => 0
  | n + 1 => cnt f n + if f n then 1 else 0

theorem cnt_le (f : Nat → Bool) : ∀ n, cnt f n ≤ n
  | 0 => by simp [cnt]
  | n + 1 => by have := cnt_le f n; simp only [cnt]; split <;> omega
theorem cnt_ext {f g : Nat → Bool} : ∀ {n : Nat}, (∀ j, j < n → f j = g j) → cnt f n = cnt g n
  | 0, _ => rfl
  | n + 1, h => by
    have := cnt_ext (n := n) fun j hj => h j (by omega)
    simp only [cnt, this, h n (by omega)]
theorem cnt_add (f : Nat → Bool) (a : Nat) : ∀ n, cnt f (a + n) = cnt f a + cnt (fun j => f (a + j)) n
  | 0 => by simp [cnt]
  | n + 1 => by
    have := cnt_add f a n
    rw [← Nat.add_assoc]; simp only [cnt, this]; omega
theorem cnt_false {f : Nat → Bool} {n : Nat} (h : ∀ j, j < n → f j = false) : cnt f n = 0 := by
  have e : cnt f n = cnt (fun _ => false) n := cnt_ext h
  have z : ∀ n, cnt (fun _ => false) n = 0 := by
    intro n
    induction n with
    | zero => rfl
    | succ n ih => simp [cnt, ih]
  rw [e, z]
theorem cnt_true {f : Nat → Bool} {n : Nat} (h : ∀ j, j < n → f j = true) : cnt f n = n := by
  have e : cnt f n = cnt (fun _ => true) n := cnt_ext h
  have z : ∀ n, cnt (fun _ => true) n = n := by
    intro n
    induction n with
    | zero => rfl
    | succ n ih => simp [cnt, ih]
  rw [e, z]
/-- Two sets: what is in one and what is in both are as many as one's and the other's. -/
theorem cnt_sets (f g : Nat → Bool) : ∀ n, cnt (fun i => f i || g i) n + cnt (fun i => f i && g i) n = cnt f n + cnt g n
  | 0 => by simp [cnt]
  | n + 1 => by
    have := cnt_sets f g n
    have e : ∀ x y : Bool, (if (x || y) = true then 1 else 0) + (if (x && y) = true then 1 else 0) = (if x = true then 1 else 0) + (if y = true then 1 else 0) := by decide
    have := e (f n) (g n)
    simp only [cnt]
    omega
theorem cnt_or (f g : Nat → Bool) (n : Nat) (h : ∀ i, i < n → (f i && g i) = false) : cnt (fun i => f i || g i) n = cnt f n + cnt g n := by
  have := cnt_sets f g n
  rw [cnt_false h] at this
  omega
theorem cnt_span (a b n : Nat) (h1 : a ≤ b) (h2 : b ≤ n) : cnt (fun i => decide (a ≤ i) && decide (i < b)) n = b - a := by
  have e1 : n = a + ((b - a) + (n - b)) := by omega
  rw [e1, cnt_add, cnt_add, cnt_false, cnt_true, cnt_false]
  · omega
  · intro j hj; simp; omega
  · intro j hj; simp; omega
  · intro j hj; simp; omega
theorem cnt_word (f : Nat → Bool) (k : Nat) : cnt (fun j => (wd f k).testBit j) 64 = cnt (fun j => f (64 * k + j)) 64 :=
  cnt_ext fun j hj => by rw [wd_bit]; simp [hj]

/-! Numbers in digits of s bits: how the library counts bits. -/
def dig (c : Nat → Nat) (s : Nat) : Nat → Nat
  | 0 => 0
  | n + 1 => dig c s n + c n * 2 ^ (s * n)
def tot (c : Nat → Nat) : Nat → Nat
  | 0 => 0
  | n + 1 => tot c n + c n

theorem dig_lt (c : Nat → Nat) (s : Nat) : ∀ n, (∀ i, i < n → c i < 2 ^ s) → dig c s n < 2 ^ (s * n)
  | 0, _ => by simp [dig]
  | n + 1, h => by
    have h1 := dig_lt c s n fun i hi => h i (by omega)
    have h2 := h n (by omega)
    have h3 : (c n + 1) * 2 ^ (s * n) ≤ 2 ^ s * 2 ^ (s * n) := Nat.mul_le_mul_right _ h2
    rw [Nat.add_mul] at h3
    simp only [dig]
    rw [Nat.mul_add, Nat.mul_one, Nat.pow_add, Nat.mul_comm (2 ^ (s * n)) (2 ^ s)]
    omega
theorem dig_add (c d : Nat → Nat) (s : Nat) : ∀ n, dig c s n + dig d s n = dig (fun i => c i + d i) s n
  | 0 => by simp [dig]
  | n + 1 => by
    have := dig_add c d s n
    simp only [dig, Nat.add_mul]
    omega
theorem dig_ext {c d : Nat → Nat} {s : Nat} : ∀ {n : Nat}, (∀ i, i < n → c i = d i) → dig c s n = dig d s n
  | 0, _ => rfl
  | n + 1, h => by
    have := dig_ext (s := s) (n := n) fun i hi => h i (by omega)
    simp only [dig, this, h n (by omega)]
theorem dig_succ (c : Nat → Nat) (s : Nat) : ∀ n, dig c s (n + 1) = c 0 + 2 ^ s * dig (fun i => c (i + 1)) s n
  | 0 => by simp [dig]
  | n + 1 => by
    have := dig_succ c s n
    rw [dig, this]
    simp only [dig]
    have e : c (n + 1) * (2 ^ (s * n) * 2 ^ s) = 2 ^ s * (c (n + 1) * 2 ^ (s * n)) := by rw [← Nat.mul_assoc, Nat.mul_comm]
    rw [Nat.mul_add s n 1, Nat.mul_one, Nat.pow_add, e, Nat.mul_add]
    omega
/-- The digits behind the first one. -/
theorem dig_shift (c : Nat → Nat) (s n : Nat) (h : c 0 < 2 ^ s) : dig c s (n + 1) / 2 ^ s = dig (fun i => c (i + 1)) s n := by
  rw [dig_succ, Nat.add_mul_div_left _ _ (Nat.two_pow_pos s), Nat.div_eq_of_lt h, Nat.zero_add]
theorem dig_bit (s : Nat) (hs : 0 < s) : ∀ (n : Nat) (c : Nat → Nat), (∀ i, i < n → c i < 2 ^ s) → ∀ j, (dig c s n).testBit j = (decide (j < s * n) && (c (j / s)).testBit (j % s))
  | 0, c, _, j => by simp [dig]
  | n + 1, c, h, j => by
    rw [dig_succ]
    have h0 := h 0 (by omega)
    have ih := dig_bit s hs n (fun i => c (i + 1)) (fun i hi => h (i + 1) (by omega))
    by_cases hj : j < s
    · rw [Nat.add_comm, Nat.testBit_two_pow_mul_add _ h0]
      have hlt : j < s * (n + 1) := by rw [Nat.mul_add]; omega
      simp [hj, Nat.div_eq_of_lt hj, Nat.mod_eq_of_lt hj, hlt]
    · rw [Nat.add_comm, Nat.testBit_two_pow_mul_add _ h0]
      obtain ⟨t, rfl⟩ : ∃ t, j = t + s := ⟨j - s, by omega⟩
      rw [if_neg hj, ih, Nat.add_div_right _ hs, Nat.add_mod_right]
      have e : (t + s < s * (n + 1)) = (t < s * n) := by rw [Nat.mul_add]; simp
      simp [e]
/-- The digits at the even places. -/
theorem dig_even (c : Nat → Nat) (s n mask : Nat) (hs : 0 < s) (h : ∀ i, i < 2 * n → c i < 2 ^ s)
    (hm : ∀ j, j < s * (2 * n) → mask.testBit j = decide (j / s % 2 = 0)) : dig c s (2 * n) &&& mask = dig (fun i => c (2 * i)) (2 * s) n := by
  apply Nat.eq_of_testBit_eq
  intro j
  have hp : 2 ^ s ≤ 2 ^ (2 * s) := Nat.pow_le_pow_right (by omega) (by omega)
  rw [Nat.testBit_and, dig_bit s hs _ _ h, dig_bit (2 * s) (by omega) n _ (fun i hi => Nat.lt_of_lt_of_le (h (2 * i) (by omega)) hp)]
  have e : s * (2 * n) = 2 * s * n := by rw [← Nat.mul_assoc, Nat.mul_comm s 2]
  by_cases hj : j < s * (2 * n)
  · rw [hm j hj]
    have hj' : j < 2 * s * n := by omega
    simp only [hj, hj', decide_true, Bool.true_and]
    have d : j / (2 * s) = j / s / 2 := by rw [Nat.mul_comm, Nat.div_div_eq_div_mul]
    rw [d]
    by_cases hp2 : j / s % 2 = 0
    · have e2 : 2 * (j / s / 2) = j / s := by omega
      have e3 : j % (2 * s) = j % s := by
        have h1 := Nat.div_add_mod j s
        have h3 : j / s = 2 * (j / (2 * s)) := by rw [d]; omega
        have h4 := Nat.div_add_mod j (2 * s)
        have h5 : s * (j / s) = 2 * s * (j / (2 * s)) := by
          rw [h3, ← Nat.mul_assoc, Nat.mul_comm s 2]
        omega
      rw [e2, e3]; simp [hp2]
    · have hc : c (2 * (j / s / 2)) < 2 ^ s := by
        apply h
        have : j / s < 2 * n := Nat.div_lt_of_lt_mul hj
        omega
      have hge : s ≤ j % (2 * s) := by
        have h1 := Nat.div_add_mod j s
        have h3 : j / s = 2 * (j / (2 * s)) + 1 := by rw [d]; omega
        have h4 := Nat.div_add_mod j (2 * s)
        have h5 : s * (j / s) = 2 * s * (j / (2 * s)) + s := by
          rw [h3, Nat.mul_add, ← Nat.mul_assoc, Nat.mul_comm s 2, Nat.mul_one]
        omega
      have : 2 ^ s ≤ 2 ^ (j % (2 * s)) := Nat.pow_le_pow_right (by omega) hge
      rw [Nat.testBit_lt_two_pow (Nat.lt_of_lt_of_le hc this)]
      simp [hp2]
  · have hj' : ¬ j < 2 * s * n := by omega
    simp [hj, hj']
theorem tot_pair (c : Nat → Nat) : ∀ n, tot (fun i => c (2 * i) + c (2 * i + 1)) n = tot c (2 * n)
  | 0 => by simp [tot]
  | n + 1 => by
    have := tot_pair c n
    have e : 2 * (n + 1) = 2 * n + 1 + 1 := by omega
    rw [e]; simp only [tot, this]; omega
/-- One round: pairs of digits are added. -/
theorem dig_round (c : Nat → Nat) (s n mask : Nat) (hs : 0 < s) (h : ∀ i, i < 2 * n → c i < 2 ^ s) (hn : 0 < n)
    (hm : ∀ j, j < s * (2 * n) → mask.testBit j = decide (j / s % 2 = 0)) :
    (dig c s (2 * n) / 2 ^ s &&& mask) + (dig c s (2 * n) &&& mask) = dig (fun i => c (2 * i) + c (2 * i + 1)) (2 * s) n := by
  have e1 : dig c s (2 * n) / 2 ^ s = dig (fun i => if i + 1 < 2 * n then c (i + 1) else 0) s (2 * n) := by
    obtain ⟨m, hm⟩ : ∃ m, 2 * n = m + 1 := ⟨2 * n - 1, by omega⟩
    rw [hm, dig_shift c s m (h 0 (by omega))]
    simp only [dig]
    rw [if_neg (by omega), Nat.zero_mul, Nat.add_zero]
    exact dig_ext fun i hi => by rw [if_pos (by omega)]
  rw [e1, dig_even c s n mask hs h hm, dig_even _ s n mask hs (fun i hi => by split; exact h _ (by omega); exact Nat.two_pow_pos s) hm, dig_add]
  refine dig_ext fun i hi => ?_
  rw [if_pos (by omega)]; omega

theorem dig_bits (x : Nat) : ∀ n, x < 2 ^ n → x = dig (fun i => if x.testBit i then 1 else 0) 1 n := by
  intro n hx
  have e : ∀ m, dig (fun i => if x.testBit i then 1 else 0) 1 m = num (fun i => x.testBit i) m := by
    intro m
    induction m with
    | zero => rfl
    | succ m ih => simp only [dig, num, ih, Nat.one_mul]; split <;> simp
  rw [e]
  exact num_eq _ n x hx fun _ _ => rfl
theorem tot_bits (f : Nat → Bool) : ∀ n, tot (fun i => if f i then 1 else 0) n = cnt f n
  | 0 => rfl
  | n + 1 => by simp only [tot, cnt, tot_bits f n]

/-- What the library's three rounds leave: eight bytes, each one a sum of eight bits. -/
theorem pop_one (x : Nat) (hx : x < 2 ^ 64) : ∃ d : Nat → Nat, (∀ i, d i ≤ 2) ∧ tot d 32 = cnt (fun j => x.testBit j) 64 ∧ (x / 2 &&& 6148914691236517205) + (x &&& 6148914691236517205) = dig d 2 32 := by
  have hb := dig_bits x 64 hx
  have m0 : ∀ j, j < 1 * (2 * 32) → (6148914691236517205 : Nat).testBit j = decide (j / 1 % 2 = 0) := by decide +kernel
  generalize hc : (fun i => if x.testBit i then 1 else 0) = c at hb
  have c1 : ∀ i, c i ≤ 1 := by intro i; rw [← hc]; simp only; split <;> omega
  have r0 := dig_round c 1 32 _ (by omega) (fun i _ => by have := c1 i; omega) (by omega) m0
  refine ⟨fun i => c (2 * i) + c (2 * i + 1), fun i => by have := c1 (2 * i); have := c1 (2 * i + 1); simp only; omega, ?_, ?_⟩
  · rw [tot_pair c 32, ← hc, tot_bits]
  · simp only [Nat.reduceMul, Nat.pow_one] at r0
    rw [← hb] at r0; exact r0
theorem pop_two (d : Nat → Nat) (h : ∀ i, d i ≤ 2) : ∃ g : Nat → Nat, (∀ i, g i ≤ 4) ∧ tot g 16 = tot d 32 ∧ (dig d 2 32 / 4 &&& 3689348814741910323) + (dig d 2 32 &&& 3689348814741910323) = dig g 4 16 := by
  have m1 : ∀ j, j < 2 * (2 * 16) → (3689348814741910323 : Nat).testBit j = decide (j / 2 % 2 = 0) := by decide +kernel
  have r1 := dig_round d 2 16 _ (by omega) (fun i _ => by have := h i; omega) (by omega) m1
  refine ⟨fun i => d (2 * i) + d (2 * i + 1), fun i => by have := h (2 * i); have := h (2 * i + 1); simp only; omega, tot_pair d 16, ?_⟩
  simp only [Nat.reduceMul, Nat.reducePow] at r1
  exact r1
theorem pop_a1 (g : Nat → Nat) (h : ∀ i, g i ≤ 4) : dig g 4 16 / 16 = dig (fun i => if i < 15 then g (i + 1) else 0) 4 16 := by
  have s1 := dig_shift g 4 15 (by have := h 0; omega)
  have s3 : dig (fun i => if i < 15 then g (i + 1) else 0) 4 (15 + 1) = dig (fun i => g (i + 1)) 4 15 := by
    have : dig (fun i => if i < 15 then g (i + 1) else 0) 4 15 = dig (fun i => g (i + 1)) 4 15 := dig_ext fun i hi => by rw [if_pos hi]
    rw [dig, this, if_neg (by omega), Nat.zero_mul, Nat.add_zero]
  rw [← s3] at s1
  exact s1
theorem pop_a2 (q : Nat → Nat) (q8 : ∀ i, q i ≤ 8) : dig q 4 16 < 18446744073709551616 := by
  have l3 := dig_lt q 4 16 fun i _ => by have := q8 i; omega
  simp only [Nat.reduceMul, Nat.reducePow] at l3
  exact l3
theorem pop_a3 (q : Nat → Nat) (q8 : ∀ i, q i ≤ 8) : dig q 4 16 &&& 1085102592571150095 = dig (fun i => q (2 * i)) 8 8 := by
  have m2 : ∀ j, j < 4 * (2 * 8) → (1085102592571150095 : Nat).testBit j = decide (j / 4 % 2 = 0) := by decide +kernel
  have e3 := dig_even q 4 8 _ (by omega) (fun i _ => by have := q8 i; omega) m2
  simp only [Nat.reduceMul] at e3
  exact e3
theorem pop_a4 (g : Nat → Nat) : tot (fun i => (if 2 * i < 15 then g (2 * i + 1) else 0) + g (2 * i)) 8 = tot g 16 := by
  have := tot_pair g 8
  simp only [Nat.reduceMul] at this
  rw [← this]
  simp only [tot, Nat.reduceLT, Nat.reduceAdd, Nat.reduceMul, if_true]; omega
theorem pop_three (g : Nat → Nat) (h : ∀ i, g i ≤ 4) : ∃ e : Nat → Nat, (∀ i, e i ≤ 8) ∧ tot e 8 = tot g 16 ∧ dig g 4 16 / 16 + dig g 4 16 < 18446744073709551616 ∧ (dig g 4 16 / 16 + dig g 4 16) &&& 1085102592571150095 = dig e 8 8 := by
  have q8 : ∀ i, (if i < 15 then g (i + 1) else 0) + g i ≤ 8 := by intro i; have := h (i + 1); have := h i; split <;> omega
  rw [pop_a1 g h, dig_add]
  exact ⟨_, fun i => q8 (2 * i), pop_a4 g, pop_a2 _ q8, pop_a3 _ q8⟩
/-- The last rounds add the bytes. -/
theorem pop_last (e : Nat → Nat) (h : ∀ i, e i ≤ 8) : ∃ a b c : Nat, a = dig e 8 8 + dig e 8 8 / 256 ∧ a < 18446744073709551616 ∧ b = a + a / 65536 ∧ b < 18446744073709551616 ∧
    c = b + b / 4294967296 ∧ c < 9223372036854775808 ∧ c % 128 = tot e 8 := by
  have h0 := h 0; have h1 := h 1; have h2 := h 2; have h3 := h 3; have h4 := h 4; have h5 := h 5; have h6 := h 6; have h7 := h 7
  have e1 : dig e 8 8 = e 0 + 256 * e 1 + 65536 * e 2 + 16777216 * e 3 + 4294967296 * e 4 + 1099511627776 * e 5 + 281474976710656 * e 6 + 72057594037927936 * e 7 := by
    simp only [dig]; omega
  have e2 : tot e 8 = e 0 + e 1 + e 2 + e 3 + e 4 + e 5 + e 6 + e 7 := by simp only [tot]; omega
  rw [e1, e2]
  clear e1 e2
  generalize e 0 = x0 at *; generalize e 1 = x1 at *; generalize e 2 = x2 at *; generalize e 3 = x3 at *
  generalize e 4 = x4 at *; generalize e 5 = x5 at *; generalize e 6 = x6 at *; generalize e 7 = x7 at *
  clear h e
  have d1 : (x0 + 256 * x1 + 65536 * x2 + 16777216 * x3 + 4294967296 * x4 + 1099511627776 * x5 + 281474976710656 * x6 + 72057594037927936 * x7) / 256 = x1 + 256 * x2 + 65536 * x3 + 16777216 * x4 + 4294967296 * x5 + 1099511627776 * x6 + 281474976710656 * x7 := by omega
  rw [d1]; clear d1
  refine ⟨_, _, _, rfl, by omega, rfl, ?_, rfl, ?_, ?_⟩
  all_goals
    have d2 : (x0 + 256 * x1 + 65536 * x2 + 16777216 * x3 + 4294967296 * x4 + 1099511627776 * x5 + 281474976710656 * x6 + 72057594037927936 * x7 + (x1 + 256 * x2 + 65536 * x3 + 16777216 * x4 + 4294967296 * x5 + 1099511627776 * x6 + 281474976710656 * x7)) / 65536
        = (x2 + x3) + 256 * (x3 + x4) + 65536 * (x4 + x5) + 16777216 * (x5 + x6) + 4294967296 * (x6 + x7) + 1099511627776 * x7 := by omega
    rw [d2]
    clear d2
    first
    | omega
    | (have d3 : (x0 + 256 * x1 + 65536 * x2 + 16777216 * x3 + 4294967296 * x4 + 1099511627776 * x5 + 281474976710656 * x6 + 72057594037927936 * x7 + (x1 + 256 * x2 + 65536 * x3 + 16777216 * x4 + 4294967296 * x5 + 1099511627776 * x6 + 281474976710656 * x7)
        + ((x2 + x3) + 256 * (x3 + x4) + 65536 * (x4 + x5) + 16777216 * (x5 + x6) + 4294967296 * (x6 + x7) + 1099511627776 * x7)) / 4294967296 = (x4 + x5 + x6 + x7) + 256 * (x5 + x6 + x7) + 65536 * (x6 + x7) + 16777216 * x7 := by omega
       rw [d3]; clear d3; omega)

end Msk

/-
  Plain facts about the spans of a mask, that speak of no program: minute by minute, and span by span.
-/
namespace Msk

/-- The spans of the minutes ahead of n. -/
def rs (f : Nat → Bool) : Nat → List (Int × Int)
  | 0 => []
  | n + 1 => if f n then (if n ≠ 0 ∧ f (n - 1) = true then (rs f n).dropLast ++ [(((rs f n).getLastD (0, 0)).1, (n : Int) + 1)] else rs f n ++ [((n : Int), (n : Int) + 1)]) else rs f n

theorem rs_skip (f : Nat → Bool) (n : Nat) : ∀ k, (∀ i, n ≤ i → i < n + k → f i = false) → rs f (n + k) = rs f n
  | 0, _ => rfl
  | k + 1, h => by
    have ih := rs_skip f n k fun i a b => h i a (by omega)
    have e : f (n + k) = false := h _ (by omega) (by omega)
    rw [← Nat.add_assoc, rs, ih, e]; simp
theorem rs_run (f : Nat → Bool) (a : Nat) (h0 : a = 0 ∨ f (a - 1) = false) : ∀ k, (∀ i, a ≤ i → i < a + (k + 1) → f i = true) → rs f (a + (k + 1)) = rs f a ++ [((a : Int), ((a + (k + 1) : Nat) : Int))]
  | 0, h => by
    have e : f a = true := h a (by omega) (by omega)
    rw [Nat.zero_add, rs, e]
    have : ¬ (a ≠ 0 ∧ f (a - 1) = true) := by
      rintro ⟨h1, h2⟩
      rcases h0 with h0 | h0
      · exact h1 h0
      · rw [h0] at h2; cases h2
    rw [if_pos rfl, if_neg this]
    simp
  | k + 1, h => by
    have ih := rs_run f a h0 k fun i x y => h i x (by omega)
    have e : f (a + (k + 1)) = true := h _ (by omega) (by omega)
    have e2 : f (a + (k + 1) - 1) = true := h _ (by omega) (by omega)
    rw [← Nat.add_assoc a (k + 1) 1, rs, ih, e, if_pos rfl, if_pos ⟨by omega, e2⟩]
    simp
/-- One span behind the minutes ahead of p, that are no longer a span's. -/
theorem rs_next (f : Nat → Bool) (p a b : Nat) (h1 : p ≤ a) (h2 : a < b) (hp : p = 0 ∨ f p = false) (hno : ∀ i, p ≤ i → i < a → f i = false) (hyes : ∀ i, a ≤ i → i < b → f i = true) :
    rs f b = rs f p ++ [((a : Int), (b : Int))] := by
  have e1 : rs f a = rs f p := by
    have := rs_skip f p (a - p) fun i x y => hno i x (by omega)
    rw [Nat.add_sub_cancel' h1] at this; exact this
  have h0 : a = 0 ∨ f (a - 1) = false := by
    by_cases ha : a = 0
    · exact .inl ha
    · right
      by_cases hpa : p = a
      · subst hpa
        rcases hp with hp | hp
        · exact absurd hp ha
        · have := hyes p (by omega) h2; rw [hp] at this; cases this
      · exact hno _ (by omega) (by omega)
  obtain ⟨k, rfl⟩ : ∃ k, b = a + (k + 1) := ⟨b - a - 1, by omega⟩
  rw [rs_run f a h0 k hyes, e1]
theorem rs_end (f : Nat → Bool) (p n : Nat) (h : p ≤ n) (hno : ∀ i, p ≤ i → i < n → f i = false) : rs f n = rs f p := by
  have := rs_skip f p (n - p) fun i x y => hno i x (by omega)
  rw [Nat.add_sub_cancel' h] at this; exact this
theorem rs_ext {f g : Nat → Bool} : ∀ {n : Nat}, (∀ i, i < n → f i = g i) → rs f n = rs g n
  | 0, _ => rfl
  | n + 1, h => by
    have ih := rs_ext (n := n) fun i hi => h i (by omega)
    have e1 := h n (by omega)
    by_cases hn : n = 0
    · subst hn; simp [rs, e1]
    · have e2 := h (n - 1) (by omega)
      simp only [rs, ih, e1, e2]

/-- Spans that rise, have minutes, and do not touch, behind one minute and up to another. -/
def good (last : Int) (n : Int) : List (Int × Int) → Prop
  | [] => True
  | s :: l => last < s.1 ∧ s.1 < s.2 ∧ s.2 ≤ n ∧ good s.2 n l
/-- Where the last one ends. -/
def endOf (last : Int) : List (Int × Int) → Int
  | [] => last
  | s :: l => endOf s.2 l
theorem good_snoc (n a b : Int) (hb : b ≤ n) (hab : a < b) : ∀ (l : List (Int × Int)) (last : Int), good last n l → endOf last l < a → good last n (l ++ [(a, b)])
  | [], _, _, h => ⟨h, hab, hb, trivial⟩
  | s :: l, _, ⟨h1, h2, h3, h4⟩, h => ⟨h1, h2, h3, good_snoc n a b hb hab l s.2 h4 h⟩
theorem endOf_snoc (a b : Int) : ∀ (l : List (Int × Int)) (last : Int), endOf last (l ++ [(a, b)]) = b
  | [], _ => rfl
  | _ :: l, _ => endOf_snoc a b l _
theorem good_mono (n m : Int) (h : n ≤ m) : ∀ (l : List (Int × Int)) (last : Int), good last n l → good last m l
  | [], _, _ => trivial
  | _ :: l, _, ⟨h1, h2, h3, h4⟩ => ⟨h1, h2, Int.le_trans h3 h, good_mono n m h l _ h4⟩
/-- How many minutes spans have. -/
def len : List (Int × Int) → Int
  | [] => 0
  | s :: l => (s.2 - s.1) + len l
theorem len_snoc (a b : Int) : ∀ l : List (Int × Int), len (l ++ [(a, b)]) = len l + (b - a)
  | [] => by simp [len]
  | s :: l => by have := len_snoc a b l; simp only [List.cons_append, len, this]; omega
/-- What is said of the spans ahead of n, at a minute that is not within a span. -/
structure Runs (f : Nat → Bool) (n : Nat) (l : List (Int × Int)) : Prop where
  good : good (-1) n l
  last : endOf (-1) l ≤ n
  many : len l = Msk.cnt f n
  has : ∀ i, i < n → (l.any fun s => decide (s.1 ≤ (i : Int)) && decide ((i : Int) < s.2)) = f i
  few : l.length ≤ n
theorem Runs.zero (f : Nat → Bool) : Runs f 0 [] := ⟨trivial, by simp [endOf], by simp [len, Msk.cnt], fun i hi => by omega, by simp⟩
theorem Runs.skip {f : Nat → Bool} {n : Nat} {l : List (Int × Int)} (h : Runs f n l) (m : Nat) (hm : n ≤ m) (hno : ∀ i, n ≤ i → i < m → f i = false) : Runs f m l := by
  refine ⟨good_mono _ _ (by omega) _ _ h.good, by have := h.last; omega, ?_, ?_, by have := h.few; omega⟩
  · have e : m = n + (m - n) := by omega
    rw [h.many, e, cnt_add, cnt_false (f := fun j => f (n + j)) fun j hj => hno _ (by omega) (by omega)]
    rfl
  · intro i hi
    by_cases hin : i < n
    · exact h.has i hin
    · rw [hno i (by omega) hi]
      have hg := h.good
      have key : ∀ (l : List (Int × Int)) (last : Int), Msk.good last n l → (l.any fun s => decide (s.1 ≤ (i : Int)) && decide ((i : Int) < s.2)) = false := by
        intro l
        induction l with
        | nil => intro _ _; rfl
        | cons s l ih =>
          intro last hl
          obtain ⟨h1, h2, h3, h4⟩ := hl
          have : ¬ (i : Int) < s.2 := by omega
          simp [ih _ h4, this]
      exact key l _ hg
theorem Runs.run {f : Nat → Bool} {a : Nat} {l : List (Int × Int)} (h : Runs f a l) (ha : endOf (-1) l < a) (b : Nat) (hab : a < b) (hyes : ∀ i, a ≤ i → i < b → f i = true) : Runs f b (l ++ [((a : Int), (b : Int))]) := by
  refine ⟨good_snoc _ _ _ (by omega) (by omega) _ _ (good_mono _ _ (by omega) _ _ h.good) ha, by rw [endOf_snoc]; omega, ?_, ?_, ?_⟩
  · have e : b = a + (b - a) := by omega
    have q : cnt f b = cnt f a + (b - a) := by
      rw [e, cnt_add, cnt_true (f := fun j => f (a + j)) fun j hj => hyes _ (by omega) (by omega)]
      omega
    rw [len_snoc, h.many, q]
    omega
  · intro i hi
    rw [List.any_append]
    by_cases hia : i < a
    · rw [h.has i hia]
      have : ¬ (a : Int) ≤ (i : Int) := by omega
      simp [this]
    · have h1 : (a : Int) ≤ (i : Int) := by omega
      have h2 : (i : Int) < (b : Int) := by omega
      rw [hyes i (by omega) hi]
      simp [h1, h2]
  · have := h.few
    simp only [List.length_append, List.length_cons, List.length_nil]
    omega

/-- What has been seen of a mask ahead of p: all spans that end there or sooner. -/
structure Seen (f : Nat → Bool) (p : Nat) (l : List (Int × Int)) : Prop where
  runs : Runs f p l
  same : l = rs f p
  gap : (p = 0 ∧ l = []) ∨ f p = false ∨ p = 1440
theorem Seen.zero (f : Nat → Bool) : Seen f 0 [] := ⟨Runs.zero f, rfl, .inl ⟨rfl, rfl⟩⟩
theorem Seen.next {f : Nat → Bool} {p : Nat} {l : List (Int × Int)} (h : Seen f p l) (a b : Nat) (h1 : p ≤ a) (h2 : a < b) (h3 : b ≤ 1440) (hno : ∀ i, p ≤ i → i < a → f i = false)
    (hyes : ∀ i, a ≤ i → i < b → f i = true) (hb : b < 1440 → f b = false) : Seen f b (l ++ [((a : Int), (b : Int))]) := by
  have hp0 : p = 0 ∨ f p = false := by
    rcases h.gap with ⟨g, _⟩ | g | g
    · exact .inl g
    · exact .inr g
    · omega
  refine ⟨(h.runs.skip a h1 hno).run ?_ b h2 hyes, by rw [h.same, rs_next f p a b h1 h2 hp0 hno hyes], ?_⟩
  · have hl := h.runs.last
    rcases h.gap with ⟨_, g⟩ | g | g
    · subst g; simp [endOf]; omega
    · have : a ≠ p := fun e => by
        have := hyes a (Nat.le_refl _) h2
        rw [e, g] at this; cases this
      omega
    · omega
  · by_cases h : b = 1440
    · exact .inr (.inr h)
    · exact .inr (.inl (hb (by omega)))
theorem Seen.all {f : Nat → Bool} {p : Nat} {l : List (Int × Int)} (h : Seen f p l) (hp : p ≤ 1440) (hno : ∀ i, p ≤ i → i < 1440 → f i = false) : l = rs f 1440 ∧ Runs f 1440 l :=
  ⟨by rw [h.same, rs_end f p 1440 hp hno], h.runs.skip 1440 hp hno⟩

end Msk

/- The first slot, plainly: what is wrong with a service; where to try; who fills the roles. -/
namespace Mx

/-- A service. -/
structure Sv where
  len : Int
  bef : Int
  aft : Int
  roles : List (List Int)
def measB (l b a : Int) : Bool := decide (1 ≤ l ∧ l ≤ 1440 ∧ 0 ≤ b ∧ b ≤ 1440 ∧ 0 ≤ a ∧ a ≤ 1440 ∧ b + l + a ≤ 1440)
/-- What is wrong with a pool, from its i-th one on. -/
def poolG (p : List Int) (n : Int) : Nat → Nat → Int
  | 0, _ => 0
  | m + 1, i => if p.getD i 0 < 0 ∨ n ≤ p.getD i 0 then 6 else if 0 < i ∧ p.getD i 0 ≤ p.getD (i - 1) 0 then 2 else poolG p n m (i + 1)
def poolE (p : List Int) (n : Int) : Int := if p.length < 1 ∨ 8 < p.length then 5 else poolG p n p.length 0
def rolesG (n : Int) : List (List Int) → Int
  | [] => 0
  | p :: l => if poolE p n ≠ 0 then poolE p n else rolesG n l
theorem rolesG_step {l : List (List Int)} {j : Nat} {p : List Int} (n : Int) (h : l[j]? = some p) : rolesG n (l.drop j) = if poolE p n ≠ 0 then poolE p n else rolesG n (l.drop (j + 1)) := by
  obtain ⟨h1, h2⟩ := List.getElem?_eq_some_iff.1 h
  rw [List.drop_eq_getElem_cons h1, h2]; rfl
def wrongS (s : Sv) (n : Int) : Int := if measB s.len s.bef s.aft = false then 3 else if s.roles.length < 1 ∨ 4 < s.roles.length then 5 else rolesG n s.roles
def whole (s : Sv) : Int := s.bef + s.len + s.aft
/-- Those of each pool that are free. -/
def freeP (ok : Int → Bool) (roles : List (List Int)) : List (List Int) := roles.map fun p => p.filter ok
/-- One of each pool, none twice. -/
def pickP (pools : List (List Int)) : Nat → List Int → Option (List Int)
  | 0, t => some t
  | k + 1, t => (pools.getD t.length []).findSome? fun r => if r ∈ t then none else pickP pools k (t ++ [r])
/-- Where someone begins to be free for long enough. -/
def runsOf (W : Int) (f : Nat → Bool) : List Int := ((Msk.rs f 1440).filter fun s => decide (W ≤ s.2 - s.1)).map fun s => s.1
def poolL (W : Int) (fs : List (Nat → Bool)) (p : List Int) : List Int := p.flatMap fun r => runsOf W (fs.getD r.toNat fun _ => false)
def placesL (W : Int) (fs : List (Nat → Bool)) (roles : List (List Int)) : List Int := roles.flatMap (poolL W fs)
def placesP (W : Int) (fs : List (Nat → Bool)) (roles : List (List Int)) : List Int := Go.Lib.compact ((placesL W fs roles).mergeSort fun x y => decide (x ≤ y))
end Mx

/- A mask as the program holds it: an array of words; what its cells are, and what the bits' operations make of words. -/
namespace Go.Proofs.YtlhjgajhcabhoaaDoor
open Go.RowKit Msk

/-- The cells of a mask whose bits are f's. -/
def mv (f : Nat → Bool) : Array Value := Array.ofFn (n := 23) fun k => Value.int .u64 (wd f k.val : Int)

theorem mv_size (f : Nat → Bool) : (mv f).size = 23 := by simp [mv]
theorem mv_get (f : Nat → Bool) (k : Nat) (hk : k < 23) : (mv f)[k]? = some (.int .u64 (wd f k : Int)) := by
  simp [mv, hk]
theorem mv_all (f : Nat → Bool) : (mv f).all (·.oneCell') = true := by
  rw [Array.all_eq_true]
  intro i hi
  simp [mv, Value.oneCell']
theorem mv_ext {f g : Nat → Bool} (h : ∀ i, i < 1472 → f i = g i) : mv f = mv g := by
  unfold mv
  congr 1
  funext k
  have hk := k.isLt
  rw [wd_ext (f := f) (g := g) fun j hj => h _ (by omega)]
theorem mv_set (f g : Nat → Bool) (k : Nat) (hk : k < 23) : (mv f).setIfInBounds k (.int .u64 (wd g k : Int)) = mv (fun i => if i / 64 = k then g i else f i) := by
  apply Array.ext_getElem?
  intro i
  rw [Array.getElem?_setIfInBounds]
  by_cases hi : k = i
  · subst hi
    rw [if_pos rfl, if_pos (by rw [mv_size]; exact hk), mv_get _ k hk]
    rw [wd_ext (f := g) (g := fun i => if i / 64 = k then g i else f i) fun j hj => by rw [if_pos (by omega)]]
  · rw [if_neg hi]
    by_cases hlt : i < 23
    · rw [mv_get _ i hlt, mv_get _ i hlt]
      rw [wd_ext (f := f) (g := fun i => if i / 64 = k then g i else f i) fun j hj => by rw [if_neg (by omega)]]
    · rw [Array.getElem?_eq_none (by rw [mv_size]; omega), Array.getElem?_eq_none (by rw [mv_size]; omega)]
theorem mv_zero : mv (fun _ => false) = Array.replicate 23 (.int .u64 0) := by
  apply Array.ext_getElem?
  intro i
  by_cases hlt : i < 23
  · rw [mv_get _ i hlt, wd_zero]; simp [hlt]
  · rw [Array.getElem?_eq_none (by rw [mv_size]; omega)]; simp [hlt]
theorem mv_lit : (#[.int .u64 0, .int .u64 0, .int .u64 0, .int .u64 0, .int .u64 0, .int .u64 0, .int .u64 0, .int .u64 0, .int .u64 0, .int .u64 0, .int .u64 0, .int .u64 0, .int .u64 0, .int .u64 0, .int .u64 0, .int .u64 0, .int .u64 0, .int .u64 0, .int .u64 0, .int .u64 0, .int .u64 0, .int .u64 0, .int .u64 0] : Array Value) = mv (fun _ => false) := by rw [mv_zero]; rfl
/-- The cells of a mask that came in. -/
theorem mv_of (m : Nat → Nat) (h : ∀ k, k < 23 → m k < 18446744073709551616) : (Array.ofFn (n := 23) fun k => Value.int .u64 (m k.val : Int)) = mv (fun i => (m (i / 64)).testBit (i % 64)) := by
  unfold mv
  congr 1
  funext k
  rw [← wd_of m h k.val k.isLt]

theorem andNot_nat (a b : Nat) (ha : a < 18446744073709551616) (hb : b < 18446744073709551616) :
    bits .andNot .u64 (a : Int) (b : Int) = ((a &&& (18446744073709551616 - (b + 1)) : Nat) : Int) := by
  have h1 : (BitVec.ofInt 64 (a : Int)).toNat = a := by
    rw [BitVec.ofInt_natCast, BitVec.toNat_ofNat]; exact Nat.mod_eq_of_lt (by omega)
  have h2 : (BitVec.ofInt 64 (b : Int)).toNat = b := by
    rw [BitVec.ofInt_natCast, BitVec.toNat_ofNat]; exact Nat.mod_eq_of_lt (by omega)
  have hx : a &&& (18446744073709551616 - (b + 1)) ≤ a := Nat.and_le_left
  show IntKind.u64.wrap ((BitVec.ofInt 64 (a : Int) &&& ~~~ BitVec.ofInt 64 (b : Int)).toNat : Int) = _
  have e : (2 : Nat) ^ 64 - 1 - b = 18446744073709551616 - (b + 1) := by omega
  rw [BitVec.toNat_and, BitVec.toNat_not, h1, h2, IntKind.wrap_u64, e]
  omega

theorem last_word : (4294967295 : Nat) = wd (fun i => decide (i < 1440)) 22 := by
  refine wd_eq _ 22 _ (by omega) fun j hj => ?_
  have e : (4294967295 : Nat) = 2 ^ 32 - 1 := by decide
  rw [e, ones_bit]
  have : (j < 32) = (64 * 22 + j < 1440) := by apply propext; omega
  simp only [this]
/-- What is cut off behind the last minute. -/
theorem mv_trim (f : Nat → Bool) : (mv f).setIfInBounds 22 (.int .u64 (bits .and .u64 (wd f 22 : Int) 4294967295)) = mv fun i => f i && decide (i < 1440) := by
  have e : bits .and .u64 (wd f 22 : Int) 4294967295 = ((wd (fun i => f i && decide (i < 1440)) 22 : Nat) : Int) := by
    have := bits_and_u64_nat (wd f 22) 4294967295 (wd_lt f 22) (by omega)
    rw [← wd_and f (fun i => decide (i < 1440)) 22, ← last_word]
    exact this
  rw [e, mv_set _ _ 22 (by omega)]
  refine mv_ext fun i hi => ?_
  by_cases h : i / 64 = 22
  · rw [if_pos h]
  · rw [if_neg h]
    have : i < 1440 := by omega
    simp [this]

/-- A cell of a mask that lies in a block. -/
theorem cell_mv {w : World} {g : Nat} {f : Nat → Bool} {t : TypeId} (hg : w.heap[g]? = some (.cells (mv f) t (0, 0))) (k : Nat) (hk : k < 23) : w.cell? ⟨g, k, none⟩ = some (.int .u64 (wd f k : Int)) := by
  rw [cell_of_row w g k _ t (0, 0) hg, mv_get f k hk]
/-- A cell of another block than the one that was written. -/
theorem cell_set_far (w : World) (a : Addr) (v : Value) (p : Addr) (h : p.block ≠ a.block) : (w.setCell a v).drew.cell? p = w.cell? p :=
  World.cell?_of_block (w := w) (Below.heap_setCell w a v p.block h)
/-- A loop that fills a mask word by word. -/
theorem mv_start (h : Nat → Bool) : mv (fun _ => false) = mv (fun i => decide (i < 64 * 0) && h i) := mv_ext fun i _ => by simp
theorem mv_step (k : Nat) (hk : k < 23) (h : Nat → Bool) : (mv fun i => decide (i < 64 * k) && h i).setIfInBounds k (.int .u64 (wd h k : Int)) = mv fun i => decide (i < 64 * (k + 1)) && h i := by
  rw [mv_set _ _ k hk]
  refine mv_ext fun i hi => ?_
  by_cases h : i / 64 = k
  · have : i < 64 * (k + 1) := by omega
    simp [h, this]
  · have : (i < 64 * k) = (i < 64 * (k + 1)) := by apply propext; omega
    simp only [h, if_false, this]
theorem mv_full (h : Nat → Bool) : (mv fun i => decide (i < 64 * 23) && h i) = mv h := mv_ext fun i hi => by
  have : i < 64 * 23 := by omega
  simp [this]
/-- Cells in a block, said otherwise. -/
theorem blk_eq {w : World} {g : Nat} {c c' : Array Value} {t : TypeId} (hg : w.heap[g]? = some (.cells c t (0, 0))) (e : c = c') : w.heap[g]? = some (.cells c' t (0, 0)) := by rw [hg, e]
theorem size_alloc (w : World) (o : Obj) : (w.alloc o).heap.size = w.heap.size + 1 := by show (w.heap.push o).size = _; simp
theorem blk_new (w : World) (o : Obj) (k : Nat) (h : k = w.heap.size) : (w.alloc o).heap[k]? = some o := by subst h; exact heap_alloc_new w o
theorem blk_old (w : World) (o : Obj) (k : Nat) (h : k < w.heap.size) {x : Obj} (hx : w.heap[k]? = some x) : (w.alloc o).heap[k]? = some x := (Below.heap_alloc w o k h).trans hx
theorem hpush (w : World) (o : Obj) : (w.alloc o).heap = w.heap.push o := rfl

/-- The type of masks, its size and its zero value. -/
theorem maskSize (f : Nat → Bool) : (Tryd.prog.info? 41).map (·.size) = some (mv f).size := by rw [mv_size]; kernel_rfl
theorem maskType : Tryd.prog.underlying 41 = some (.array 23 39) := by kernel_rfl

end Go.Proofs.YtlhjgajhcabhoaaDoor

/- Rows of numbers; what slices.Index and slices.Contains of numbers come to. -/
namespace Go.Proofs.YtlhjgajhcabhoaaDoor
open Go.RowKit

theorem hidr {p : Prop} (h : p) : Hid p := h
/-- A row of numbers in memory. -/
def RowI (w : World) (v : Value) (ns : List Int) : Prop := ∃ p c, v = .slice p ns.length c ∧ ns.length < 9223372036854775808 ∧ ∀ (j : Nat) (n : Int), ns[j]? = some n → ∃ g o : Nat, p = some ⟨g, o, none⟩ ∧ w.cell? ⟨g, o + j, none⟩ = some (.int .i64 n)
theorem RowI.below {w w' : World} {v : Value} {ns : List Int} (h : RowI w v ns) (hb : Below w.heap.size w w') : RowI w' v ns := by
  obtain ⟨p, c, h1, h2, h3⟩ := h
  refine ⟨p, c, h1, h2, fun j n hj => ?_⟩
  obtain ⟨g, o, e, hc⟩ := h3 j n hj
  exact ⟨g, o, e, (hb.cell (block_lt_of_cell hc)).trans hc⟩
def idxF : List Int → Nat → Int → Int
  | [], _, _ => -1
  | m :: l, i, n => if m = n then (i : Int) else idxF l (i + 1) n
theorem idxF_step {l : List Int} {j : Nat} {m n : Int} (h : l[j]? = some m) : idxF (l.drop j) j n = if m = n then (j : Int) else idxF (l.drop (j + 1)) (j + 1) n := by
  obtain ⟨h1, h2⟩ := List.getElem?_eq_some_iff.1 h
  rw [List.drop_eq_getElem_cons h1, h2]; rfl
theorem idxF_mem : ∀ (l : List Int) (i : Nat) (n : Int), (0 ≤ idxF l i n) ↔ n ∈ l
  | [], i, n => by simp [idxF]
  | m :: l, i, n => by
    have := idxF_mem l (i + 1) n
    simp only [idxF, List.mem_cons]
    by_cases h : m = n
    · rw [if_pos h]
      constructor
      · intro _; exact .inl h.symm
      · intro _; omega
    · rw [if_neg h, this]
      constructor
      · exact .inr
      · rintro (e | e)
        · exact absurd e.symm h
        · exact e
set_option maxRecDepth 100000 in
set_option maxHeartbeats 1000000 in
theorem index5_any (ns : List Int) (v : Value) (n : Int) (w : World) (h : RowI w v ns) : Calls Tryd.prog 44 #[v, .int .i64 n] w fun r w' => r = .returned (.int .i64 (idxF ns 0 n)) ∧ Below w.heap.size w w' := by
  obtain ⟨p, c, rfl, hlen, hc⟩ := h
  have HC := hidr hc
  clear hc
  go_enter Tryd.func44, Tryd.ntmps44
  go_wp2_with fail
  go_loopw [5, 8] (fun _ t wr => ∃ j : Nat, t = .int .i64 (j : Int) ∧ j ≤ ns.length ∧ idxF ns 0 n = idxF (ns.drop j) j n ∧ wr = w) (fun _ t _ => ns.length - (intOf t).toNat)
  case atStart => exact ⟨0, rfl, by omega, rfl, rfl⟩
  case round =>
    obtain ⟨j, rfl, hj, hX, rfl⟩ := hrel
    have hj0 : (0 : Int) ≤ (j : Int) := by omega
    by_cases hlt : j < ns.length
    · have hlt' : (j : Int) < (ns.length : Int) := by omega
      obtain ⟨m, hjk⟩ : ∃ p, ns[j]? = some p := ⟨ns[j], List.getElem?_eq_getElem hlt⟩
      rw [idxF_step hjk] at hX
      obtain ⟨g, o, hpe, c0⟩ := HC.out j _ hjk
      subst hpe
      by_cases hmn : m = n
      · rw [if_pos hmn] at hX
        have hb : (n == m) = true := by rw [hmn]; simp
        have HX := hidr hX
        clear hX hjk HC hmn
        go_wp2_with fail
        go_ret
        exact ⟨by (rw [HX.out]) <;> rfl, Below.refl _ _⟩
      · rw [if_neg hmn] at hX
        have hb : (n == m) = false := beq_eq_false_iff_ne.2 (fun e => hmn e.symm)
        have HX := hidr hX
        clear hX hjk hmn
        go_wp2_with fail
        go_roundw
        case rel => exact ⟨j + 1, by go_num, by omega, HX.out, trivial⟩
        case measure => simp [intOf]; omega
    · have hlt' : ¬ (j : Int) < (ns.length : Int) := by omega
      have HX : Hid (idxF ns 0 n = -1) := by
        show _ = _
        rw [hX, List.drop_of_length_le (by omega)]
        rfl
      clear hX HC
      go_wp2_with fail
      go_ret
      exact ⟨by (rw [HX.out]) <;> rfl, Below.refl _ _⟩
set_option maxRecDepth 100000 in
theorem contains5_any (ns : List Int) (v : Value) (n : Int) (w : World) (h : RowI w v ns) : Calls Tryd.prog 36 #[v, .int .i64 n] w fun r w' => r = .returned (.bool (decide (n ∈ ns))) ∧ Below w.heap.size w w' := by
  have c1 := index5_any ns v n w h
  obtain ⟨p, c, rfl, _, _⟩ := h
  have HD : Hid (decide (n ∈ ns) = decide (0 ≤ idxF ns 0 n)) := by
    show _ = _
    have hm := idxF_mem ns 0 n
    by_cases hn : n ∈ ns
    · rw [decide_eq_true hn, decide_eq_true (hm.2 hn)]
    · rw [decide_eq_false hn, decide_eq_false (fun e => hn (hm.1 e))]
  go_enter Tryd.func36, Tryd.ntmps36
  go_wp2_with fail
  refine c1.mono ?_
  rintro r w1 ⟨rfl, hb⟩
  clear c1
  generalize idxF ns 0 n = q at *
  go_wp2_with fail
  go_ret
  exact ⟨by (rw [HD.out]) <;> rfl, hb⟩
end Go.Proofs.YtlhjgajhcabhoaaDoor

/- What match.whole, match.measured, match.wrongPool and match.Wrong come to. -/
namespace Go.Proofs.YtlhjgajhcabhoaaDoor
open Go.RowKit Msk Mx

/-- A row of rows of numbers in memory. -/
def RowRI (w : World) (v : Value) (ls : List (List Int)) : Prop := ∃ p c, v = .slice p ls.length c ∧ ls.length < 9223372036854775808 ∧ ∀ (j : Nat) (l : List Int), ls[j]? = some l → ∃ (g o : Nat) (sv : Value), p = some ⟨g, o, none⟩ ∧ w.cell? ⟨g, o + j, none⟩ = some sv ∧ RowI w sv l
theorem RowRI.below {w w' : World} {v : Value} {ls : List (List Int)} (h : RowRI w v ls) (hb : Below w.heap.size w w') : RowRI w' v ls := by
  obtain ⟨p, c, h1, h2, h3⟩ := h
  refine ⟨p, c, h1, h2, fun j l hj => ?_⟩
  obtain ⟨g, o, sv, e, hc, hr⟩ := h3 j l hj
  exact ⟨g, o, sv, e, (hb.cell (block_lt_of_cell hc)).trans hc, hr.below hb⟩
/-- A service as it is handed on. -/
def svV (s : Sv) (rv : Value) : Value := .agg #[.int .i64 s.len, .int .i64 s.bef, .int .i64 s.aft, rv]
set_option maxRecDepth 100000 in
theorem whole_any (l b a : Int) (rv : Value) (w : World) (h : measB l b a = true ∨ (1 ≤ l ∧ l ≤ 1440 ∧ 0 ≤ b ∧ b ≤ 1440 ∧ 0 ≤ a ∧ a ≤ 1440)) :
    Calls Tryd.prog 28 #[.agg #[.int .i64 l, .int .i64 b, .int .i64 a, rv]] w fun e w' => e = .returned (.int .i64 (b + l + a)) ∧ Below w.heap.size w w' := by
  have h' : 1 ≤ l ∧ l ≤ 1440 ∧ 0 ≤ b ∧ b ≤ 1440 ∧ 0 ≤ a ∧ a ≤ 1440 := by
    rcases h with h | h
    · unfold measB at h
      rw [decide_eq_true_eq] at h
      omega
    · exact h
  have e1 : IntKind.i64.wrap (b + l) = b + l := by rw [IntKind.wrap_i64]; omega
  have e2 : IntKind.i64.wrap (b + l + a) = b + l + a := by rw [IntKind.wrap_i64]; omega
  have bA := (Below.refl w.heap.size w).alloc (Nat.le_refl _) (.cells #[.int .i64 l, .int .i64 b, .int .i64 a, rv] 24)
  clear h h'
  go_enter Tryd.func28, Tryd.ntmps28
  go_wp2_with fail
  go_ret
  exact ⟨rfl, bA⟩
set_option maxRecDepth 100000 in
set_option maxHeartbeats 1000000 in
theorem measured_any (l b a : Int) (rv : Value) (w : World) : Calls Tryd.prog 19 #[.agg #[.int .i64 l, .int .i64 b, .int .i64 a, rv]] w fun e w' => e = .returned (.bool (measB l b a)) ∧ Below w.heap.size w w' := by
  have bA := (Below.refl w.heap.size w).alloc (Nat.le_refl _) (.cells #[.int .i64 l, .int .i64 b, .int .i64 a, rv] 24)
  have nA := heap_alloc_new w (.cells #[.int .i64 l, .int .i64 b, .int .i64 a, rv] 24)
  generalize hwA : w.alloc (.cells #[.int .i64 l, .int .i64 b, .int .i64 a, rv] 24) = wA at *
  have z0 := (cell_of_row _ _ 0 _ _ _ nA).trans rfl
  have z1 := (cell_of_row _ _ 1 _ _ _ nA).trans rfl
  have z2 := (cell_of_row _ _ 2 _ _ _ nA).trans rfl
  have z3 := (cell_of_row _ _ 3 _ _ _ nA).trans rfl
  have HB := hidr bA
  clear nA bA
  have neg : ¬ (1 ≤ l ∧ l ≤ 1440 ∧ 0 ≤ b ∧ b ≤ 1440 ∧ 0 ≤ a ∧ a ≤ 1440 ∧ b + l + a ≤ 1440) → Hid (measB l b a = false) := fun h => by
    show _ = _
    unfold measB
    exact decide_eq_false h
  by_cases h1 : 1 ≤ l
  case neg =>
    have HN := neg (by omega)
    clear neg
    go_enter Tryd.func19, Tryd.ntmps19
    go_wp2_with fail
    go_ret
    exact ⟨by (rw [HN.out]) <;> rfl, HB.out⟩
  by_cases h2 : l ≤ 1440
  case neg =>
    have HN := neg (by omega)
    clear neg
    go_enter Tryd.func19, Tryd.ntmps19
    go_wp2_with fail
    go_ret
    exact ⟨by (rw [HN.out]) <;> rfl, HB.out⟩
  by_cases h3 : 0 ≤ b
  case neg =>
    have HN := neg (by omega)
    clear neg
    go_enter Tryd.func19, Tryd.ntmps19
    go_wp2_with fail
    go_ret
    exact ⟨by (rw [HN.out]) <;> rfl, HB.out⟩
  by_cases h4 : b ≤ 1440
  case neg =>
    have HN := neg (by omega)
    clear neg
    go_enter Tryd.func19, Tryd.ntmps19
    go_wp2_with fail
    go_ret
    exact ⟨by (rw [HN.out]) <;> rfl, HB.out⟩
  by_cases h5 : 0 ≤ a
  case neg =>
    have HN := neg (by omega)
    clear neg
    go_enter Tryd.func19, Tryd.ntmps19
    go_wp2_with fail
    go_ret
    exact ⟨by (rw [HN.out]) <;> rfl, HB.out⟩
  by_cases h6 : a ≤ 1440
  case neg =>
    have HN := neg (by omega)
    clear neg
    go_enter Tryd.func19, Tryd.ntmps19
    go_wp2_with fail
    go_ret
    exact ⟨by (rw [HN.out]) <;> rfl, HB.out⟩
  have c1 := whole_any l b a rv wA (.inr ⟨h1, h2, h3, h4, h5, h6⟩)
  have HP : Hid (measB l b a = decide (b + l + a ≤ 1440)) := by
    show _ = _
    unfold measB
    simp [h1, h2, h3, h4, h5, h6]
  clear neg
  go_enter Tryd.func19, Tryd.ntmps19
  go_wp2_with fail
  refine c1.mono ?_
  rintro e w1 ⟨rfl, b1⟩
  go_wp2_with fail
  go_ret
  exact ⟨by (rw [HP.out]) <;> rfl, HB.out.trans (b1.mono HB.out.size)⟩
theorem poolG_step (p : List Int) (n : Int) (i : Nat) (hi : i < p.length) : poolG p n (p.length - i) i = if p.getD i 0 < 0 ∨ n ≤ p.getD i 0 then 6 else if 0 < i ∧ p.getD i 0 ≤ p.getD (i - 1) 0 then 2 else poolG p n (p.length - (i + 1)) (i + 1) := by
  rw [show p.length - i = (p.length - (i + 1)) + 1 by omega]
  rfl
theorem getD_some {l : List Int} {j : Nat} {x : Int} (h : l[j]? = some x) : l.getD j 0 = x := by simp [List.getD, h]
set_option maxRecDepth 100000 in
set_option maxHeartbeats 1000000 in
theorem pool_any (p : List Int) (v : Value) (n : Int) (w : World) (h : RowI w v p) : Calls Tryd.prog 20 #[v, .int .i64 n] w fun e w' => e = .returned (.int .i64 (poolE p n)) ∧ w' = w := by
  obtain ⟨ad, c, rfl, hlen, hc⟩ := h
  have HC := hidr hc
  clear hc
  by_cases h1 : (p.length : Int) < 1
  · have HN : Hid (poolE p n = 5) := by
      show _ = _
      unfold poolE
      rw [if_pos (by omega)]
    clear HC
    go_enter Tryd.func20, Tryd.ntmps20
    go_wp2_with fail
    go_ret
    exact ⟨by (rw [HN.out]) <;> rfl, rfl⟩
  by_cases h2 : 8 < (p.length : Int)
  · have HN : Hid (poolE p n = 5) := by
      show _ = _
      unfold poolE
      rw [if_pos (by omega)]
    clear HC
    go_enter Tryd.func20, Tryd.ntmps20
    go_wp2_with fail
    go_ret
    exact ⟨by (rw [HN.out]) <;> rfl, rfl⟩
  have HE : Hid (poolE p n = poolG p n p.length 0) := by
    show _ = _
    unfold poolE
    rw [if_neg (by omega)]
  go_enter Tryd.func20, Tryd.ntmps20
  go_wp2_with fail
  go_loopw [5, 6, 17] (fun _ _ t wr => ∃ j : Nat, t = .int .i64 (j : Int) ∧ j ≤ p.length ∧ Hid (poolE p n = poolG p n (p.length - j) j) ∧ wr = w) (fun _ _ t _ => p.length - (intOf t).toNat)
  case atStart => exact ⟨0, rfl, by omega, by exact HE, rfl⟩
  case round =>
    obtain ⟨j, rfl, hj, hX, rfl⟩ := hrel
    have hj0 : (0 : Int) ≤ (j : Int) := by omega
    by_cases hlt : j < p.length
    · have hlt' : (j : Int) < (p.length : Int) := by omega
      obtain ⟨r, hjr⟩ : ∃ r, p[j]? = some r := ⟨p[j], List.getElem?_eq_getElem hlt⟩
      obtain ⟨g, o, hpe, c0⟩ := HC.out j _ hjr
      subst hpe
      have hS := poolG_step p n j hlt
      rw [getD_some hjr] at hS
      by_cases hr : r < 0
      · have HX : Hid (poolE p n = 6) := hX.out.trans (hS.trans (if_pos (.inl hr)))
        clear hS hX hjr HC HE
        go_wp2_with fail
        go_ret
        exact ⟨by (rw [HX.out]) <;> rfl, rfl⟩
      by_cases hr2 : n ≤ r
      · have HX : Hid (poolE p n = 6) := hX.out.trans (hS.trans (if_pos (.inr hr2)))
        clear hS hX hjr HC HE
        go_wp2_with fail
        go_ret
        exact ⟨by (rw [HX.out]) <;> rfl, rfl⟩
      rw [if_neg (by omega)] at hS
      by_cases hz : j = 0
      · rw [if_neg (by omega)] at hS
        have hjp : ¬ 0 < (j : Int) := by omega
        have HX := hidr (hX.out.trans hS)
        clear hS hX hjr hz
        go_wp2_with fail
        go_roundw
        case rel => exact ⟨j + 1, by go_num, by omega, HX, trivial⟩
        case measure => simp [intOf]; omega
      · obtain ⟨q, hjq⟩ : ∃ q, p[j - 1]? = some q := ⟨p[j - 1]'(by omega), List.getElem?_eq_getElem (by omega)⟩
        obtain ⟨g', o', hpe', c1⟩ := HC.out (j - 1) _ hjq
        cases hpe'
        rw [getD_some hjq] at hS
        obtain ⟨k, hk⟩ : ∃ k : Nat, k = j - 1 := ⟨_, rfl⟩
        rw [← hk] at c1
        have hwk : IntKind.i64.wrap ((j : Int) - 1) = (k : Int) := by rw [IntKind.wrap_i64]; omega
        have hjp : 0 < (j : Int) := by omega
        have hk0 : (0 : Int) ≤ (k : Int) := by omega
        have hkl : (k : Int) < (p.length : Int) := by omega
        by_cases hq : r ≤ q
        · rw [if_pos ⟨by omega, hq⟩] at hS
          have HX := hidr (hX.out.trans hS)
          clear hS hX hjr hjq HC HE hk
          go_wp2_with fail
          go_ret
          exact ⟨by (rw [HX.out]) <;> rfl, rfl⟩
        · rw [if_neg (by omega)] at hS
          have HX := hidr (hX.out.trans hS)
          clear hS hX hjr hjq hk
          go_wp2_with fail
          go_roundw
          case rel => exact ⟨j + 1, by go_num, by omega, HX, trivial⟩
          case measure => simp [intOf]; omega
    · have hlt' : ¬ (j : Int) < (p.length : Int) := by omega
      have HX : Hid (poolE p n = 0) := by
        show _ = _
        rw [hX.out, show p.length - j = 0 by omega]
        rfl
      clear hX HC HE
      go_wp2_with fail
      go_ret
      exact ⟨by (rw [HX.out]) <;> rfl, rfl⟩
set_option maxRecDepth 100000 in
set_option maxHeartbeats 1000000 in
/-- match.Wrong. -/
theorem mwrong_any (s : Sv) (rv : Value) (n : Int) (w : World) (h : RowRI w rv s.roles) : Calls Tryd.prog 10 #[svV s rv, .int .i64 n] w fun e w' => e = .returned (.int .i64 (wrongS s n)) ∧ Below w.heap.size w w' := by
  obtain ⟨l, b, a, roles⟩ := s
  dsimp only at h
  unfold svV
  dsimp only
  have bA := (Below.refl w.heap.size w).alloc (Nat.le_refl _) (.cells #[.int .i64 l, .int .i64 b, .int .i64 a, rv] 24)
  have nA := heap_alloc_new w (.cells #[.int .i64 l, .int .i64 b, .int .i64 a, rv] 24)
  have HR := hidr (h.below bA)
  obtain ⟨ad, c, rfl, hlen, _⟩ := h
  generalize hwA : w.alloc (.cells #[.int .i64 l, .int .i64 b, .int .i64 a, .slice ad roles.length c] 24) = wA at *
  have c1 := measured_any l b a (.slice ad roles.length c) wA
  have HB := hidr bA
  obtain ⟨mb, hmb⟩ : ∃ q, measB l b a = q := ⟨_, rfl⟩
  rw [hmb] at c1
  have z0 := (cell_of_row _ _ 0 _ _ _ nA).trans rfl
  have z1 := (cell_of_row _ _ 1 _ _ _ nA).trans rfl
  have z2 := (cell_of_row _ _ 2 _ _ _ nA).trans rfl
  have z3 := (cell_of_row _ _ 3 _ _ _ nA).trans rfl
  have HM := hidr hmb
  clear bA hmb
  go_enter Tryd.func10, Tryd.ntmps10
  go_wp2_with fail
  refine c1.mono ?_
  rintro e w1 ⟨rfl, b1⟩
  have y3 := (b1.cell (block_lt_of_cell z3)).trans z3
  have HB1 := hidr (HB.out.trans (b1.mono HB.out.size))
  have HR1 := hidr (HR.out.below b1)
  clear c1 z0 z1 z2 z3 nA hwA HR HB b1
  cases mb with
  | false =>
    have HX : Hid (wrongS ⟨l, b, a, roles⟩ n = 3) := by
      show _ = _
      unfold wrongS
      rw [if_pos HM.out]
    go_wp2_with fail
    go_ret
    exact ⟨by (rw [HX.out]) <;> rfl, HB1.out⟩
  | true =>
    have HE : Hid (wrongS ⟨l, b, a, roles⟩ n = if roles.length < 1 ∨ 4 < roles.length then 5 else rolesG n roles) := by
      show _ = _
      unfold wrongS
      rw [if_neg (by rw [HM.out]; decide)]
    by_cases h1 : (roles.length : Int) < 1
    · have HX := hidr (HE.out.trans (if_pos (by omega)))
      clear HE
      go_wp2_with fail
      go_ret
      exact ⟨by (rw [HX.out]) <;> rfl, HB1.out⟩
    by_cases h2 : 4 < (roles.length : Int)
    · have HX := hidr (HE.out.trans (if_pos (by omega)))
      clear HE
      go_wp2_with fail
      go_ret
      exact ⟨by (rw [HX.out]) <;> rfl, HB1.out⟩
    have HX := hidr (HE.out.trans (if_neg (by omega)))
    clear HE HM
    go_wp2_with fail
    go_loopw [6, 7, 24] (fun _ _ t wr => ∃ j : Nat, t = .int .i64 (j : Int) ∧ j ≤ roles.length ∧ Hid (wrongS ⟨l, b, a, roles⟩ n = rolesG n (roles.drop j)) ∧ wr = w1) (fun _ _ t _ => roles.length - (intOf t).toNat)
    case atStart => exact ⟨0, rfl, by omega, HX, rfl⟩
    case round =>
      obtain ⟨j, rfl, hj, hX, rfl⟩ := hrel
      have hj0 : (0 : Int) ≤ (j : Int) := by omega
      by_cases hlt : j < roles.length
      · have hlt' : (j : Int) < (roles.length : Int) := by omega
        obtain ⟨pl, hjp⟩ : ∃ r, roles[j]? = some r := ⟨roles[j], List.getElem?_eq_getElem hlt⟩
        obtain ⟨ad', c', e', _, hall⟩ := HR1.out
        cases e'
        obtain ⟨g, o, sv, hpe, c0, hrow⟩ := hall j _ hjp
        subst hpe
        have hS := rolesG_step n hjp
        have c2 := pool_any pl sv n wr hrow
        obtain ⟨pe, hpe⟩ : ∃ q, poolE pl n = q := ⟨_, rfl⟩
        rw [hpe] at c2 hS
        by_cases hz : pe = 0
        · subst hz
          rw [if_neg (by simp)] at hS
          have HX2 := hidr (hX.out.trans hS)
          clear hS hX hjp hall hrow hpe
          go_wp2_with fail
          refine c2.mono ?_
          rintro e w2 ⟨rfl, rfl⟩
          go_wp2_with fail
          go_roundw
          case rel => exact ⟨j + 1, by go_num, by omega, HX2, trivial⟩
          case measure => simp [intOf]; omega
        · rw [if_pos hz] at hS
          have hz' : (pe == 0) = false := beq_eq_false_iff_ne.2 hz
          have HX2 := hidr (hX.out.trans hS)
          clear hS hX hjp hall hrow hpe
          go_wp2_with fail
          refine c2.mono ?_
          rintro e w2 ⟨rfl, rfl⟩
          go_wp2_with fail
          go_ret
          exact ⟨by (rw [HX2.out]) <;> rfl, HB1.out⟩
      · have hlt' : ¬ (j : Int) < (roles.length : Int) := by omega
        have HX2 : Hid (wrongS ⟨l, b, a, roles⟩ n = 0) := by
          show _ = _
          rw [hX.out, List.drop_of_length_le (by omega)]
          rfl
        clear hX
        go_wp2_with fail
        go_ret
        exact ⟨by (rw [HX2.out]) <;> rfl, HB1.out⟩
end Go.Proofs.YtlhjgajhcabhoaaDoor
