/-
  Plain facts about bits, words and masks, that speak of no program: a mask of minutes is a function from places to bits.
-/

namespace Msk

/-- The number whose lowest n bits are p 0, p 1 and so on. -/
def num (p : Nat → Bool) : Nat → Nat
  | 0 => 0
  | n + 1 => num p n + if p n then 2 ^ n else 0

theorem num_lt (p : Nat → Bool) : ∀ n, num p n < 2 ^ n
  | 0 => by simp [num]
  | n + 1 => by
    have := num_lt p n
    simp only [num, Nat.pow_succ]
    split <;> omega

theorem num_bit (p : Nat → Bool) (j : Nat) : ∀ n, (num p n).testBit j = (decide (j < n) && p j)
  | 0 => by simp [num]
  | n + 1 => by
    have hl := num_lt p n
    have ih := num_bit p j n
    simp only [num]
    by_cases hp : p n = true
    · rw [if_pos hp, Nat.add_comm]
      by_cases h1 : j < n
      · rw [Nat.testBit_two_pow_add_gt h1, ih]
        have : j < n + 1 := by omega
        simp [h1, this]
      · by_cases h2 : j = n
        · subst h2
          rw [Nat.testBit_two_pow_add_eq, ih]
          simp [hp]
        · have h3 : ¬ j < n + 1 := by omega
          have h4 : 2 ^ (n + 1) ≤ 2 ^ j := Nat.pow_le_pow_right (by omega) (by omega)
          rw [Nat.testBit_lt_two_pow (by rw [Nat.pow_succ] at h4; omega)]
          simp [h3]
    · rw [if_neg hp, Nat.add_zero, ih]
      by_cases h2 : j = n
      · subst h2; simp at hp; simp [hp]
      · by_cases h1 : j < n
        · have : j < n + 1 := by omega
          simp [h1, this]
        · have : ¬ j < n + 1 := by omega
          simp [h1, this]

theorem num_eq (p : Nat → Bool) (n x : Nat) (hx : x < 2 ^ n) (h : ∀ j, j < n → x.testBit j = p j) : x = num p n := by
  apply Nat.eq_of_testBit_eq
  intro j
  rw [num_bit]
  by_cases hj : j < n
  · simp [hj, h j hj]
  · have : 2 ^ n ≤ 2 ^ j := Nat.pow_le_pow_right (by omega) (by omega)
    rw [Nat.testBit_lt_two_pow (by omega)]
    simp [hj]

theorem num_ext {p q : Nat → Bool} {n : Nat} (h : ∀ j, j < n → p j = q j) : num p n = num q n :=
  num_eq q n _ (num_lt p n) fun j hj => by rw [num_bit]; simp [hj, h j hj]

/-- Word k of a mask. -/
def wd (f : Nat → Bool) (k : Nat) : Nat := num (fun j => f (64 * k + j)) 64

theorem wd_lt (f : Nat → Bool) (k : Nat) : wd f k < 18446744073709551616 := num_lt _ 64
theorem wd_bit (f : Nat → Bool) (k j : Nat) : (wd f k).testBit j = (decide (j < 64) && f (64 * k + j)) := num_bit _ j 64
theorem wd_eq (f : Nat → Bool) (k x : Nat) (hx : x < 18446744073709551616) (h : ∀ j, j < 64 → x.testBit j = f (64 * k + j)) : x = wd f k :=
  num_eq _ 64 x hx h
theorem wd_ext {f g : Nat → Bool} {k : Nat} (h : ∀ j, j < 64 → f (64 * k + j) = g (64 * k + j)) : wd f k = wd g k := num_ext h
theorem wd_inj {f g : Nat → Bool} {k : Nat} (h : wd f k = wd g k) (j : Nat) (hj : j < 64) : f (64 * k + j) = g (64 * k + j) := by
  have h1 := wd_bit f k j
  rw [h, wd_bit] at h1
  simpa [hj] using h1.symm

theorem wd_and (f g : Nat → Bool) (k : Nat) : wd f k &&& wd g k = wd (fun i => f i && g i) k := by
  refine wd_eq _ k _ (show wd f k &&& wd g k < 2 ^ 64 from Nat.and_lt_two_pow _ (wd_lt g k)) fun j hj => ?_
  rw [Nat.testBit_and, wd_bit, wd_bit]; simp [hj]
theorem wd_or (f g : Nat → Bool) (k : Nat) : wd f k ||| wd g k = wd (fun i => f i || g i) k := by
  refine wd_eq _ k _ (show wd f k ||| wd g k < 2 ^ 64 from Nat.or_lt_two_pow (wd_lt f k) (wd_lt g k)) fun j hj => ?_
  rw [Nat.testBit_or, wd_bit, wd_bit]; simp [hj]
/-- What has the bits of one, without those of the other. -/
theorem wd_andNot (f g : Nat → Bool) (k : Nat) : wd f k &&& (18446744073709551616 - (wd g k + 1)) = wd (fun i => f i && !g i) k := by
  refine wd_eq _ k _ (Nat.lt_of_le_of_lt Nat.and_le_left (wd_lt f k)) fun j hj => ?_
  have e : (18446744073709551616 : Nat) = 2 ^ 64 := by decide
  rw [Nat.testBit_and, e, Nat.testBit_two_pow_sub_succ (wd_lt g k), wd_bit, wd_bit]; simp [hj]

theorem wd_zero (k : Nat) : wd (fun _ => false) k = 0 := by
  have : (0 : Nat) = wd (fun _ => false) k := wd_eq _ k 0 (by omega) (by simp)
  exact this.symm

theorem wd_ne_zero {f : Nat → Bool} {k : Nat} (h : wd f k ≠ 0) : ∃ j, j < 64 ∧ f (64 * k + j) = true := by
  by_cases hx : ∃ j, j < 64 ∧ f (64 * k + j) = true
  · exact hx
  · exfalso; apply h
    rw [← wd_zero k]
    refine wd_ext fun j hj => ?_
    cases hb : f (64 * k + j)
    · rfl
    · exact absurd ⟨j, hj, hb⟩ hx

/-- A shift upward, within a word. -/
theorem shl_bit (x r j : Nat) (hj : j < 64) : (x * 2 ^ r % 18446744073709551616).testBit j = (decide (r ≤ j) && x.testBit (j - r)) := by
  have e : (18446744073709551616 : Nat) = 2 ^ 64 := by decide
  rw [e, Nat.testBit_mod_two_pow, Nat.testBit_mul_two_pow]
  simp [hj]
theorem shr_bit (x r j : Nat) : (x / 2 ^ r).testBit j = x.testBit (j + r) := by
  rw [Nat.testBit_div_two_pow]

theorem ones_bit (n j : Nat) : (2 ^ n - 1).testBit j = decide (j < n) := by
  rw [Nat.testBit_two_pow_sub_one]

/-- The words' own bits make each word. -/
theorem wd_of (m : Nat → Nat) (h : ∀ k, k < 23 → m k < 18446744073709551616) (k : Nat) (hk : k < 23) : m k = wd (fun i => (m (i / 64)).testBit (i % 64)) k := by
  refine wd_eq _ k _ (h k hk) fun j hj => ?_
  have h1 : (64 * k + j) / 64 = k := by omega
  have h2 : (64 * k + j) % 64 = j := by omega
  simp [h1, h2]

/-! Counting. -/
def cnt (f : Nat → Bool) : Nat → Nat
  | 0 => 0
  | n + 1 => cnt f n + if f n then 1 else 0

theorem cnt_le (f : Nat → Bool) : ∀ n, cnt f n ≤ n
  | 0 => by simp [cnt]
  | n + 1 => by have := cnt_le f n; simp only [cnt]; split <;> omega
theorem cnt_ext {f g : Nat → Bool} : ∀ {n : Nat}, (∀ j, j < n → f j = g j) → cnt f n = cnt g n
  | 0, _ => rfl
  | n + 1, h => by
    have := cnt_ext (n := n) fun j hj => h j (by omega)
    simp only [cnt, this, h n (by omega)]
theorem cnt_add (f : Nat → Bool) (a : Nat) : ∀ n, cnt f (a + n) = cnt f a + cnt (fun j => f (a + j)) n
  | 0 => by simp [cnt]
  | n + 1 => by
    have := cnt_add f a n
    rw [← Nat.add_assoc]; simp only [cnt, this]; omega
theorem cnt_false {f : Nat → Bool} {n : Nat} (h : ∀ j, j < n → f j = false) : cnt f n = 0 := by
  have e : cnt f n = cnt (fun _ => false) n := cnt_ext h
  have z : ∀ n, cnt (fun _ => false) n = 0 := by
    intro n
    induction n with
    | zero => rfl
    | succ n ih => simp [cnt, ih]
  rw [e, z]
theorem cnt_true {f : Nat → Bool} {n : Nat} (h : ∀ j, j < n → f j = true) : cnt f n = n := by
  have e : cnt f n = cnt (fun _ => true) n := cnt_ext h
  have z : ∀ n, cnt (fun _ => true) n = n := by
    intro n
    induction n with
    | zero => rfl
    | succ n ih => simp [cnt, ih]
  rw [e, z]
/-- Two sets: what is in one and what is in both are as many as one's and the other's. -/
theorem cnt_sets (f g : Nat → Bool) : ∀ n, cnt (fun i => f i || g i) n + cnt (fun i => f i && g i) n = cnt f n + cnt g n
  | 0 => by simp [cnt]
  | n + 1 => by
    have := cnt_sets f g n
    have e : ∀ x y : Bool, (if (x || y) = true then 1 else 0) + (if (x && y) = true then 1 else 0) = (if x = true then 1 else 0) + (if y = true then 1 else 0) := by decide
    have := e (f n) (g n)
    simp only [cnt]
    omega
theorem cnt_or (f g : Nat → Bool) (n : Nat) (h : ∀ i, i < n → (f i && g i) = false) : cnt (fun i => f i || g i) n = cnt f n + cnt g n := by
  have := cnt_sets f g n
  rw [cnt_false h] at this
  omega
theorem cnt_span (a b n : Nat) (h1 : a ≤ b) (h2 : b ≤ n) : cnt (fun i => decide (a ≤ i) && decide (i < b)) n = b - a := by
  have e1 : n = a + ((b - a) + (n - b)) := by omega
  rw [e1, cnt_add, cnt_add, cnt_false, cnt_true, cnt_false]
  · omega
  · intro j hj; simp; omega
  · intro j hj; simp; omega
  · intro j hj; simp; omega
theorem cnt_word (f : Nat → Bool) (k : Nat) : cnt (fun j => (wd f k).testBit j) 64 = cnt (fun j => f (64 * k + j)) 64 :=
  cnt_ext fun j hj => by rw [wd_bit]; simp [hj]

/-! Numbers in digits of s bits: how the library counts bits. -/
def dig (c : Nat → Nat) (s : Nat) : Nat → Nat
  | 0 => 0
  | n + 1 => dig c s n + c n * 2 ^ (s * n)
def tot (c : Nat → Nat) : Nat → Nat
  | 0 => 0
  | n + 1 => tot c n + c n

theorem dig_lt (c : Nat → Nat) (s : Nat) : ∀ n, (∀ i, i < n → c i < 2 ^ s) → dig c s n < 2 ^ (s * n)
  | 0, _ => by simp [dig]
  | n + 1, h => by
    have h1 := dig_lt c s n fun i hi => h i (by omega)
    have h2 := h n (by omega)
    have h3 : (c n + 1) * 2 ^ (s * n) ≤ 2 ^ s * 2 ^ (s * n) := Nat.mul_le_mul_right _ h2
    rw [Nat.add_mul] at h3
    simp only [dig]
    rw [Nat.mul_add, Nat.mul_one, Nat.pow_add, Nat.mul_comm (2 ^ (s * n)) (2 ^ s)]
    omega
theorem dig_add (c d : Nat → Nat) (s : Nat) : ∀ n, dig c s n + dig d s n = dig (fun i => c i + d i) s n
  | 0 => by simp [dig]
  | n + 1 => by
    have := dig_add c d s n
    simp only [dig, Nat.add_mul]
    omega
theorem dig_ext {c d : Nat → Nat} {s : Nat} : ∀ {n : Nat}, (∀ i, i < n → c i = d i) → dig c s n = dig d s n
  | 0, _ => rfl
  | n + 1, h => by
    have := dig_ext (s := s) (n := n) fun i hi => h i (by omega)
    simp only [dig, this, h n (by omega)]
theorem dig_succ (c : Nat → Nat) (s : Nat) : ∀ n, dig c s (n + 1) = c 0 + 2 ^ s * dig (fun i => c (i + 1)) s n
  | 0 => by simp [dig]
  | n + 1 => by
    have := dig_succ c s n
    rw [dig, this]
    simp only [dig]
    have e : c (n + 1) * (2 ^ (s * n) * 2 ^ s) = 2 ^ s * (c (n + 1) * 2 ^ (s * n)) := by rw [← Nat.mul_assoc, Nat.mul_comm]
    rw [Nat.mul_add s n 1, Nat.mul_one, Nat.pow_add, e, Nat.mul_add]
    omega
/-- The digits behind the first one. -/
theorem dig_shift (c : Nat → Nat) (s n : Nat) (h : c 0 < 2 ^ s) : dig c s (n + 1) / 2 ^ s = dig (fun i => c (i + 1)) s n := by
  rw [dig_succ, Nat.add_mul_div_left _ _ (Nat.two_pow_pos s), Nat.div_eq_of_lt h, Nat.zero_add]
theorem dig_bit (s : Nat) (hs : 0 < s) : ∀ (n : Nat) (c : Nat → Nat), (∀ i, i < n → c i < 2 ^ s) → ∀ j, (dig c s n).testBit j = (decide (j < s * n) && (c (j / s)).testBit (j % s))
  | 0, c, _, j => by simp [dig]
  | n + 1, c, h, j => by
    rw [dig_succ]
    have h0 := h 0 (by omega)
    have ih := dig_bit s hs n (fun i => c (i + 1)) (fun i hi => h (i + 1) (by omega))
    by_cases hj : j < s
    · rw [Nat.add_comm, Nat.testBit_two_pow_mul_add _ h0]
      have hlt : j < s * (n + 1) := by rw [Nat.mul_add]; omega
      simp [hj, Nat.div_eq_of_lt hj, Nat.mod_eq_of_lt hj, hlt]
    · rw [Nat.add_comm, Nat.testBit_two_pow_mul_add _ h0]
      obtain ⟨t, rfl⟩ : ∃ t, j = t + s := ⟨j - s, by omega⟩
      rw [if_neg hj, ih, Nat.add_div_right _ hs, Nat.add_mod_right]
      have e : (t + s < s * (n + 1)) = (t < s * n) := by rw [Nat.mul_add]; simp
      simp [e]
/-- The digits at the even places. -/
theorem dig_even (c : Nat → Nat) (s n mask : Nat) (hs : 0 < s) (h : ∀ i, i < 2 * n → c i < 2 ^ s)
    (hm : ∀ j, j < s * (2 * n) → mask.testBit j = decide (j / s % 2 = 0)) : dig c s (2 * n) &&& mask = dig (fun i => c (2 * i)) (2 * s) n := by
  apply Nat.eq_of_testBit_eq
  intro j
  have hp : 2 ^ s ≤ 2 ^ (2 * s) := Nat.pow_le_pow_right (by omega) (by omega)
  rw [Nat.testBit_and, dig_bit s hs _ _ h, dig_bit (2 * s) (by omega) n _ (fun i hi => Nat.lt_of_lt_of_le (h (2 * i) (by omega)) hp)]
  have e : s * (2 * n) = 2 * s * n := by rw [← Nat.mul_assoc, Nat.mul_comm s 2]
  by_cases hj : j < s * (2 * n)
  · rw [hm j hj]
    have hj' : j < 2 * s * n := by omega
    simp only [hj, hj', decide_true, Bool.true_and]
    have d : j / (2 * s) = j / s / 2 := by rw [Nat.mul_comm, Nat.div_div_eq_div_mul]
    rw [d]
    by_cases hp2 : j / s % 2 = 0
    · have e2 : 2 * (j / s / 2) = j / s := by omega
      have e3 : j % (2 * s) = j % s := by
        have h1 := Nat.div_add_mod j s
        have h3 : j / s = 2 * (j / (2 * s)) := by rw [d]; omega
        have h4 := Nat.div_add_mod j (2 * s)
        have h5 : s * (j / s) = 2 * s * (j / (2 * s)) := by
          rw [h3, ← Nat.mul_assoc, Nat.mul_comm s 2]
        omega
      rw [e2, e3]; simp [hp2]
    · have hc : c (2 * (j / s / 2)) < 2 ^ s := by
        apply h
        have : j / s < 2 * n := Nat.div_lt_of_lt_mul hj
        omega
      have hge : s ≤ j % (2 * s) := by
        have h1 := Nat.div_add_mod j s
        have h3 : j / s = 2 * (j / (2 * s)) + 1 := by rw [d]; omega
        have h4 := Nat.div_add_mod j (2 * s)
        have h5 : s * (j / s) = 2 * s * (j / (2 * s)) + s := by
          rw [h3, Nat.mul_add, ← Nat.mul_assoc, Nat.mul_comm s 2, Nat.mul_one]
        omega
      have : 2 ^ s ≤ 2 ^ (j % (2 * s)) := Nat.pow_le_pow_right (by omega) hge
      rw [Nat.testBit_lt_two_pow (Nat.lt_of_lt_of_le hc this)]
      simp [hp2]
  · have hj' : ¬ j < 2 * s * n := by omega
    simp [hj, hj']
theorem tot_pair (c : Nat → Nat) : ∀ n, tot (fun i => c (2 * i) + c (2 * i + 1)) n = tot c (2 * n)
  | 0 => by simp [tot]
  | n + 1 => by
    have := tot_pair c n
    have e : 2 * (n + 1) = 2 * n + 1 + 1 := by omega
    rw [e]; simp only [tot, this]; omega
/-- One round: pairs of digits are added. -/
theorem dig_round (c : Nat → Nat) (s n mask : Nat) (hs : 0 < s) (h : ∀ i, i < 2 * n → c i < 2 ^ s) (hn : 0 < n)
    (hm : ∀ j, j < s * (2 * n) → mask.testBit j = decide (j / s % 2 = 0)) :
    (dig c s (2 * n) / 2 ^ s &&& mask) + (dig c s (2 * n) &&& mask) = dig (fun i => c (2 * i) + c (2 * i + 1)) (2 * s) n := by
  have e1 : dig c s (2 * n) / 2 ^ s = dig (fun i => if i + 1 < 2 * n then c (i + 1) else 0) s (2 * n) := by
    obtain ⟨m, hm⟩ : ∃ m, 2 * n = m + 1 := ⟨2 * n - 1, by omega⟩
    rw [hm, dig_shift c s m (h 0 (by omega))]
    simp only [dig]
    rw [if_neg (by omega), Nat.zero_mul, Nat.add_zero]
    exact dig_ext fun i hi => by rw [if_pos (by omega)]
  rw [e1, dig_even c s n mask hs h hm, dig_even _ s n mask hs (fun i hi => by split; exact h _ (by omega); exact Nat.two_pow_pos s) hm, dig_add]
  refine dig_ext fun i hi => ?_
  rw [if_pos (by omega)]; omega

theorem dig_bits (x : Nat) : ∀ n, x < 2 ^ n → x = dig (fun i => if x.testBit i then 1 else 0) 1 n := by
  intro n hx
  have e : ∀ m, dig (fun i => if x.testBit i then 1 else 0) 1 m = num (fun i => x.testBit i) m := by
    intro m
    induction m with
    | zero => rfl
    | succ m ih => simp only [dig, num, ih, Nat.one_mul]; split <;> simp
  rw [e]
  exact num_eq _ n x hx fun _ _ => rfl
theorem tot_bits (f : Nat → Bool) : ∀ n, tot (fun i => if f i then 1 else 0) n = cnt f n
  | 0 => rfl
  | n + 1 => by simp only [tot, cnt, tot_bits f n]

/-- What the library's three rounds leave: eight bytes, each one a sum of eight bits. -/
theorem pop_one (x : Nat) (hx : x < 2 ^ 64) : ∃ d : Nat → Nat, (∀ i, d i ≤ 2) ∧ tot d 32 = cnt (fun j => x.testBit j) 64 ∧ (x / 2 &&& 6148914691236517205) + (x &&& 6148914691236517205) = dig d 2 32 := by
  have hb := dig_bits x 64 hx
  have m0 : ∀ j, j < 1 * (2 * 32) → (6148914691236517205 : Nat).testBit j = decide (j / 1 % 2 = 0) := by decide +kernel
  generalize hc : (fun i => if x.testBit i then 1 else 0) = c at hb
  have c1 : ∀ i, c i ≤ 1 := by intro i; rw [← hc]; simp only; split <;> omega
  have r0 := dig_round c 1 32 _ (by omega) (fun i _ => by have := c1 i; omega) (by omega) m0
  refine ⟨fun i => c (2 * i) + c (2 * i + 1), fun i => by have := c1 (2 * i); have := c1 (2 * i + 1); simp only; omega, ?_, ?_⟩
  · rw [tot_pair c 32, ← hc, tot_bits]
  · simp only [Nat.reduceMul, Nat.pow_one] at r0
    rw [← hb] at r0; exact r0
theorem pop_two (d : Nat → Nat) (h : ∀ i, d i ≤ 2) : ∃ g : Nat → Nat, (∀ i, g i ≤ 4) ∧ tot g 16 = tot d 32 ∧ (dig d 2 32 / 4 &&& 3689348814741910323) + (dig d 2 32 &&& 3689348814741910323) = dig g 4 16 := by
  have m1 : ∀ j, j < 2 * (2 * 16) → (3689348814741910323 : Nat).testBit j = decide (j / 2 % 2 = 0) := by decide +kernel
  have r1 := dig_round d 2 16 _ (by omega) (fun i _ => by have := h i; omega) (by omega) m1
  refine ⟨fun i => d (2 * i) + d (2 * i + 1), fun i => by have := h (2 * i); have := h (2 * i + 1); simp only; omega, tot_pair d 16, ?_⟩
  simp only [Nat.reduceMul, Nat.reducePow] at r1
  exact r1
theorem pop_a1 (g : Nat → Nat) (h : ∀ i, g i ≤ 4) : dig g 4 16 / 16 = dig (fun i => if i < 15 then g (i + 1) else 0) 4 16 := by
  have s1 := dig_shift g 4 15 (by have := h 0; omega)
  have s3 : dig (fun i => if i < 15 then g (i + 1) else 0) 4 (15 + 1) = dig (fun i => g (i + 1)) 4 15 := by
    have : dig (fun i => if i < 15 then g (i + 1) else 0) 4 15 = dig (fun i => g (i + 1)) 4 15 := dig_ext fun i hi => by rw [if_pos hi]
    rw [dig, this, if_neg (by omega), Nat.zero_mul, Nat.add_zero]
  rw [← s3] at s1
  exact s1
theorem pop_a2 (q : Nat → Nat) (q8 : ∀ i, q i ≤ 8) : dig q 4 16 < 18446744073709551616 := by
  have l3 := dig_lt q 4 16 fun i _ => by have := q8 i; omega
  simp only [Nat.reduceMul, Nat.reducePow] at l3
  exact l3
theorem pop_a3 (q : Nat → Nat) (q8 : ∀ i, q i ≤ 8) : dig q 4 16 &&& 1085102592571150095 = dig (fun i => q (2 * i)) 8 8 := by
  have m2 : ∀ j, j < 4 * (2 * 8) → (1085102592571150095 : Nat).testBit j = decide (j / 4 % 2 = 0) := by decide +kernel
  have e3 := dig_even q 4 8 _ (by omega) (fun i _ => by have := q8 i; omega) m2
  simp only [Nat.reduceMul] at e3
  exact e3
theorem pop_a4 (g : Nat → Nat) : tot (fun i => (if 2 * i < 15 then g (2 * i + 1) else 0) + g (2 * i)) 8 = tot g 16 := by
  have := tot_pair g 8
  simp only [Nat.reduceMul] at this
  rw [← this]
  simp only [tot, Nat.reduceLT, Nat.reduceAdd, Nat.reduceMul, if_true]; omega
theorem pop_three (g : Nat → Nat) (h : ∀ i, g i ≤ 4) : ∃ e : Nat → Nat, (∀ i, e i ≤ 8) ∧ tot e 8 = tot g 16 ∧ dig g 4 16 / 16 + dig g 4 16 < 18446744073709551616 ∧ (dig g 4 16 / 16 + dig g 4 16) &&& 1085102592571150095 = dig e 8 8 := by
  have q8 : ∀ i, (if i < 15 then g (i + 1) else 0) + g i ≤ 8 := by intro i; have := h (i + 1); have := h i; split <;> omega
  rw [pop_a1 g h, dig_add]
  exact ⟨_, fun i => q8 (2 * i), pop_a4 g, pop_a2 _ q8, pop_a3 _ q8⟩
/-- The last rounds add the bytes. -/
theorem pop_last (e : Nat → Nat) (h : ∀ i, e i ≤ 8) : ∃ a b c : Nat, a = dig e 8 8 + dig e 8 8 / 256 ∧ a < 18446744073709551616 ∧ b = a + a / 65536 ∧ b < 18446744073709551616 ∧
    c = b + b / 4294967296 ∧ c < 9223372036854775808 ∧ c % 128 = tot e 8 := by
  have h0 := h 0; have h1 := h 1; have h2 := h 2; have h3 := h 3; have h4 := h 4; have h5 := h 5; have h6 := h 6; have h7 := h 7
  have e1 : dig e 8 8 = e 0 + 256 * e 1 + 65536 * e 2 + 16777216 * e 3 + 4294967296 * e 4 + 1099511627776 * e 5 + 281474976710656 * e 6 + 72057594037927936 * e 7 := by
    simp only [dig]; omega
  have e2 : tot e 8 = e 0 + e 1 + e 2 + e 3 + e 4 + e 5 + e 6 + e 7 := by simp only [tot]; omega
  rw [e1, e2]
  clear e1 e2
  generalize e 0 = x0 at *; generalize e 1 = x1 at *; generalize e 2 = x2 at *; generalize e 3 = x3 at *
  generalize e 4 = x4 at *; generalize e 5 = x5 at *; generalize e 6 = x6 at *; generalize e 7 = x7 at *
  clear h e
  have d1 : (x0 + 256 * x1 + 65536 * x2 + 16777216 * x3 + 4294967296 * x4 + 1099511627776 * x5 + 281474976710656 * x6 + 72057594037927936 * x7) / 256 = x1 + 256 * x2 + 65536 * x3 + 16777216 * x4 + 4294967296 * x5 + 1099511627776 * x6 + 281474976710656 * x7 := by omega
  rw [d1]; clear d1
  refine ⟨_, _, _, rfl, by omega, rfl, ?_, rfl, ?_, ?_⟩
  all_goals
    have d2 : (x0 + 256 * x1 + 65536 * x2 + 16777216 * x3 + 4294967296 * x4 + 1099511627776 * x5 + 281474976710656 * x6 + 72057594037927936 * x7 + (x1 + 256 * x2 + 65536 * x3 + 16777216 * x4 + 4294967296 * x5 + 1099511627776 * x6 + 281474976710656 * x7)) / 65536
        = (x2 + x3) + 256 * (x3 + x4) + 65536 * (x4 + x5) + 16777216 * (x5 + x6) + 4294967296 * (x6 + x7) + 1099511627776 * x7 := by omega
    rw [d2]
    clear d2
    first
    | omega
    | (have d3 : (x0 + 256 * x1 + 65536 * x2 + 16777216 * x3 + 4294967296 * x4 + 1099511627776 * x5 + 281474976710656 * x6 + 72057594037927936 * x7 + (x1 + 256 * x2 + 65536 * x3 + 16777216 * x4 + 4294967296 * x5 + 1099511627776 * x6 + 281474976710656 * x7)
        + ((x2 + x3) + 256 * (x3 + x4) + 65536 * (x4 + x5) + 16777216 * (x5 + x6) + 4294967296 * (x6 + x7) + 1099511627776 * x7)) / 4294967296 = (x4 + x5 + x6 + x7) + 256 * (x5 + x6 + x7) + 65536 * (x6 + x7) + 16777216 * x7 := by omega
       rw [d3]; clear d3; omega)

end Msk

/- Code, plainly: who calls whom; what is wrong with an instruction, with a rule's code, with all. -/
namespace Vx

/-- One way after the other, at least one. -/
abbrev Way (E : Nat → Nat → Bool) (i k : Nat) : Prop := Relation.TransGen (fun a b => E a b = true) i k
/-- All ways at once, through the first so many. -/
def wars (E : Nat → Nat → Bool) : Nat → Nat → Nat → Bool
  | 0, i, k => E i k
  | m + 1, i, k => wars E m i k || (wars E m i m && wars E m m k)
theorem wars_mono {E : Nat → Nat → Bool} {m i k : Nat} (h : wars E m i k = true) : ∀ d, wars E (m + d) i k = true
  | 0 => h
  | d + 1 => by
    show wars E ((m + d) + 1) i k = true
    simp only [wars, wars_mono h d, Bool.true_or]
theorem wars_cat {E : Nat → Nat → Bool} {m i j k : Nat} (hj : j < m) (h1 : wars E m i j = true) (h2 : wars E m j k = true) : wars E m i k = true := by
  induction m generalizing i j k with
  | zero => omega
  | succ m ih =>
    by_cases hjm : j = m
    · subst hjm
      simp only [wars, Bool.or_eq_true, Bool.and_eq_true] at h1 h2 ⊢
      have a : wars E j i j = true := by
        rcases h1 with h | ⟨h, _⟩ <;> exact h
      have b : wars E j j k = true := by
        rcases h2 with h | ⟨_, h⟩ <;> exact h
      exact .inr ⟨a, b⟩
    · have hj' : j < m := by omega
      simp only [wars, Bool.or_eq_true, Bool.and_eq_true] at h1 h2 ⊢
      rcases h1 with h1 | ⟨h1, h1'⟩
      · rcases h2 with h2 | ⟨h2, h2'⟩
        · exact .inl (ih hj' h1 h2)
        · exact .inr ⟨ih hj' h1 h2, h2'⟩
      · rcases h2 with h2 | ⟨h2, h2'⟩
        · exact .inr ⟨h1, ih hj' h1' h2⟩
        · exact .inr ⟨h1, h2'⟩
/-- From one to the next one fewer are reached. -/
def rk (E : Nat → Nat → Bool) (n i : Nat) : Nat := Msk.cnt (fun k => wars E n i k) n
theorem cnt_mono {f g : Nat → Bool} : ∀ {n : Nat}, (∀ k, k < n → f k = true → g k = true) → Msk.cnt f n ≤ Msk.cnt g n
  | 0, _ => Nat.le_refl _
  | n + 1, h => by
    have ih := cnt_mono (f := f) (g := g) (n := n) (fun k hk => h k (by omega))
    simp only [Msk.cnt]
    have := h n (by omega)
    cases hf : f n with
    | false => cases g n <;> simp <;> omega
    | true => rw [this hf]; simp; omega
theorem cnt_less {f g : Nat → Bool} : ∀ {n s : Nat}, s < n → (∀ k, k < n → f k = true → g k = true) → f s = false → g s = true → Msk.cnt f n < Msk.cnt g n
  | 0, _, hs, _, _, _ => by omega
  | n + 1, s, hs, h, h1, h2 => by
    simp only [Msk.cnt]
    by_cases e : s = n
    · subst e
      have := cnt_mono (f := f) (g := g) (n := s) (fun k hk => h k (by omega))
      rw [h1, h2]; simp; omega
    · have ih := cnt_less (f := f) (g := g) (n := n) (s := s) (by omega) (fun k hk => h k (by omega)) h1 h2
      have := h n (by omega)
      cases hf : f n with
      | false => cases g n <;> simp <;> omega
      | true => rw [this hf]; simp; omega
theorem rk_less {E : Nat → Nat → Bool} {n i s : Nat} (hs : s < n) (hE : E i s = true) (hc : wars E n s s = false) : rk E n s < rk E n i := by
  have h0 : wars E n i s = true := by have := wars_mono (E := E) (m := 0) hE n; simpa using this
  exact cnt_less hs (fun k _ hk => wars_cat hs h0 hk) hc h0
theorem rk_le (E : Nat → Nat → Bool) (n i : Nat) : rk E n i ≤ n := Msk.cnt_le _ _

/-- An instruction, and the code of a rule. -/
structure In where
  op : Int
  a : Int
  b : Int
  to : Int
  sp : List (Int × Int)
structure Cd where
  ins : List In
  high : Int
  steps : Int
def in0 : In := ⟨0, 0, 0, 0, []⟩
def cd0 : Cd := ⟨[], 0, 0⟩
/-- Spans one behind the other, with a minute between, in the day. -/
def risL : List (Int × Int) → Int → Bool
  | [], _ => true
  | s :: l, e => if s.1 ≤ e ∨ s.2 ≤ s.1 ∨ 1440 < s.2 then false else risL l s.2
theorem risL_step {l : List (Int × Int)} {j : Nat} {s : Int × Int} {e : Int} (h : l[j]? = some s) : risL (l.drop j) e = if s.1 ≤ e ∨ s.2 ≤ s.1 ∨ 1440 < s.2 then false else risL (l.drop (j + 1)) s.2 := by
  obtain ⟨h1, h2⟩ := List.getElem?_eq_some_iff.1 h
  rw [List.drop_eq_getElem_cons h1, h2]; rfl
/-- What is wrong with an instruction, at its place, of so many, and so many rules. -/
def insE (x : In) (k n rules : Nat) : Int :=
  if x.op = 2 ∨ x.op = 3 ∨ x.op = 4 then 0
  else if x.op = 1 then (if risL x.sp (-1) = true then 0 else 2)
  else if x.op = 5 then (if x.a ≠ 0 ∧ -1439 ≤ x.a ∧ x.a ≤ 1439 then 0 else 3)
  else if x.op = 6 then (if (k : Int) + 2 ≤ x.to ∧ x.to ≤ n then (if 1 ≤ x.a ∧ x.a ≤ 127 then 0 else 3) else 8)
  else if x.op = 7 then (if (k : Int) + 2 ≤ x.to ∧ x.to ≤ n then (if 0 ≤ x.a ∧ x.a ≤ x.b ∧ x.b < 146097 then 0 else 3) else 8)
  else if x.op = 8 then (if 0 ≤ x.a ∧ x.a < rules then 0 else 6)
  else 1
def insL : List In → Nat → Nat → Nat → Int
  | [], _, _, _ => 0
  | x :: l, k, n, r => if insE x k n r ≠ 0 then insE x k n r else insL l (k + 1) n r
theorem insL_step {l : List In} {j n r : Nat} {x : In} (h : l[j]? = some x) : insL (l.drop j) j n r = if insE x j n r ≠ 0 then insE x j n r else insL (l.drop (j + 1)) (j + 1) n r := by
  obtain ⟨h1, h2⟩ := List.getElem?_eq_some_iff.1 h
  rw [List.drop_eq_getElem_cons h1, h2]; rfl
theorem insL_ok {n r : Nat} : ∀ {l : List In} {k : Nat}, insL l k n r = 0 → ∀ j x, l[j]? = some x → insE x (k + j) n r = 0
  | [], _, _, j, x, hj => by simp at hj
  | y :: l, k, h, j, x, hj => by
    by_cases hy : insE y k n r = 0
    · have h' : insL l (k + 1) n r = 0 := by simpa [insL, hy] using h
      cases j with
      | zero => simp at hj; subst hj; simpa using hy
      | succ j =>
        have := insL_ok h' j x (by simpa using hj)
        rw [show k + (j + 1) = k + 1 + j by omega]; exact this
    · exfalso
      simp [insL, hy] at h
/-- What is wrong with a rule's code by itself. -/
def aloneE (c : Cd) (rules : Nat) : Int :=
  if ¬ (1 ≤ c.ins.length ∧ c.ins.length ≤ 2000) then 5
  else if ¬ ((1 ≤ c.high ∧ c.high ≤ 100) ∧ (1 ≤ c.steps ∧ c.steps ≤ 20000)) then 4
  else insL c.ins 0 c.ins.length rules
/-- The first one of which something is wrong. -/
def firstF (E : Nat → Int) : Nat → Nat → Int × Nat
  | 0, _ => (0, 0)
  | m + 1, i => if E i ≠ 0 then (E i, i) else firstF E m (i + 1)
theorem firstF_ext {E F : Nat → Int} : ∀ (m i : Nat), (∀ j, i ≤ j → j < i + m → E j = F j) → firstF E m i = firstF F m i
  | 0, _, _ => rfl
  | m + 1, i, h => by
    simp only [firstF]
    rw [h i (by omega) (by omega), firstF_ext m (i + 1) (fun j h1 h2 => h j (by omega) (by omega))]
theorem firstF_ok {E : Nat → Int} : ∀ (m i : Nat), (firstF E m i).1 = 0 → firstF E m i = (0, 0) ∧ ∀ j, i ≤ j → j < i + m → E j = 0
  | 0, _, _ => ⟨rfl, fun j h1 h2 => by omega⟩
  | m + 1, i, h => by
    by_cases he : E i = 0
    · have e1 : firstF E (m + 1) i = firstF E m (i + 1) := by simp [firstF, he]
      rw [e1] at h ⊢
      obtain ⟨h1, h2⟩ := firstF_ok m (i + 1) h
      refine ⟨h1, fun j hj hl => ?_⟩
      by_cases e : j = i
      · rw [e]; exact he
      · exact h2 j (by omega) (by omega)
    · exfalso
      simp [firstF, he] at h
/-- What an instruction does to the height; how much it takes; is it a guard? -/
def eff (x : In) : Int := if x.op = 1 ∨ x.op = 8 then 1 else if x.op = 2 ∨ x.op = 3 ∨ x.op = 4 then -1 else 0
def tk (x : In) : Int := if x.op = 5 then 1 else if x.op = 2 ∨ x.op = 3 ∨ x.op = 4 then 2 else 0
def isG (x : In) : Prop := x.op = 6 ∨ x.op = 7
/-- How high the stack is at a place. -/
def hAt (l : List In) : Nat → Int
  | 0 => 0
  | j + 1 => hAt l j + eff (l.getD j in0)
def mxH (cs : List Cd) (l : List In) : Nat → Int
  | 0 => 0
  | j + 1 => max (if (l.getD j in0).op = 8 then max (mxH cs l j) (hAt l j + (cs.getD (l.getD j in0).a.toNat cd0).high) else mxH cs l j) (hAt l (j + 1))
def stS (cs : List Cd) (l : List In) : Nat → Int
  | 0 => 0
  | j + 1 => stS cs l j + 1 + (if (l.getD j in0).op = 8 then (cs.getD (l.getD j in0).a.toNat cd0).steps else 0)
theorem getD_of {l : List In} {j : Nat} {x : In} (h : l[j]? = some x) : l.getD j in0 = x := by simp [List.getD, h]
theorem hAt_step {l : List In} {j : Nat} {x : In} (h : l[j]? = some x) : hAt l (j + 1) = hAt l j + eff x := by rw [hAt, getD_of h]
theorem mxH_step {cs : List Cd} {l : List In} {j : Nat} {x : In} (h : l[j]? = some x) : mxH cs l (j + 1) = max (if x.op = 8 then max (mxH cs l j) (hAt l j + (cs.getD x.a.toNat cd0).high) else mxH cs l j) (hAt l (j + 1)) := by rw [mxH, getD_of h]
theorem stS_step {cs : List Cd} {l : List In} {j : Nat} {x : In} (h : l[j]? = some x) : stS cs l (j + 1) = stS cs l j + 1 + (if x.op = 8 then (cs.getD x.a.toNat cd0).steps else 0) := by rw [stS, getD_of h]
theorem mxH_le (cs : List Cd) (l : List In) (j : Nat) : mxH cs l j ≤ mxH cs l (j + 1) := by
  simp only [mxH]
  split <;> omega
theorem mxH_mono (cs : List Cd) (l : List In) {j k : Nat} (h : j ≤ k) : mxH cs l j ≤ mxH cs l k := by
  obtain ⟨d, rfl⟩ := Nat.exists_eq_add_of_le h
  clear h
  induction d with
  | zero => exact Int.le_refl _
  | succ d ih => exact Int.le_trans ih (mxH_le cs l (j + d))
theorem hAt_mx (cs : List Cd) (l : List In) : ∀ j, hAt l j ≤ mxH cs l j
  | 0 => Int.le_refl _
  | j + 1 => by
    simp only [mxH]
    omega
theorem hAt_top {cs : List Cd} {l : List In} {j n : Nat} (h : j ≤ n) : hAt l j ≤ mxH cs l n := Int.le_trans (hAt_mx cs l j) (mxH_mono cs l h)
theorem call_top {cs : List Cd} {l : List In} {j n : Nat} {x : In} (hj : l[j]? = some x) (h : j < n) (ho : x.op = 8) : hAt l j + (cs.getD x.a.toNat cd0).high ≤ mxH cs l n := by
  refine Int.le_trans ?_ (mxH_mono cs l (show j + 1 ≤ n by omega))
  rw [mxH_step hj, if_pos ho]
  omega
/-- The stack is used well. -/
structure WellV (l : List In) : Prop where
  tk : ∀ j x, l[j]? = some x → tk x ≤ hAt l j
  to : ∀ j x, l[j]? = some x → isG x → hAt l x.to.toNat = hAt l j + 1
  fin : hAt l l.length = 1
/-- It is as high, and takes as many steps, as it says. -/
structure FitV (cs : List Cd) (c : Cd) : Prop where
  well : WellV c.ins
  high : mxH cs c.ins c.ins.length = c.high
  steps : stS cs c.ins c.ins.length = c.steps
def wellB (l : List In) : Bool := ((List.range l.length).all fun j => decide (tk (l.getD j in0) ≤ hAt l j) && (!(decide ((l.getD j in0).op = 6) || decide ((l.getD j in0).op = 7)) || decide (hAt l (l.getD j in0).to.toNat = hAt l j + 1))) && decide (hAt l l.length = 1)
theorem wellB_iff {l : List In} : wellB l = true ↔ WellV l := by
  unfold wellB
  rw [Bool.and_eq_true, List.all_eq_true, decide_eq_true_eq]
  constructor
  · rintro ⟨h1, h2⟩
    refine ⟨fun j x hx => ?_, fun j x hx hg => ?_, h2⟩
    · have h3 := h1 j (List.mem_range.2 (List.getElem?_eq_some_iff.1 hx).1)
      rw [getD_of hx, Bool.and_eq_true, decide_eq_true_eq] at h3
      exact h3.1
    · have h3 := h1 j (List.mem_range.2 (List.getElem?_eq_some_iff.1 hx).1)
      rw [getD_of hx, Bool.and_eq_true, Bool.or_eq_true] at h3
      rcases h3.2 with h4 | h4
      · unfold isG at hg
        rcases hg with e | e <;> simp [e] at h4
      · exact of_decide_eq_true h4
  · intro h
    refine ⟨fun j hj => ?_, h.fin⟩
    have hj' := List.mem_range.1 hj
    have hx : l[j]? = some l[j] := List.getElem?_eq_getElem hj'
    rw [getD_of hx, Bool.and_eq_true, Bool.or_eq_true]
    refine ⟨decide_eq_true (h.tk j _ hx), ?_⟩
    by_cases hg : isG l[j]
    · exact .inr (decide_eq_true (h.to j _ hx hg))
    · left
      unfold isG at hg
      have h6 : ¬ (l[j]).op = 6 := fun e => hg (.inl e)
      have h7 : ¬ (l[j]).op = 7 := fun e => hg (.inr e)
      simp [h6, h7]
def fitB (cs : List Cd) (c : Cd) : Bool := wellB c.ins && (decide (mxH cs c.ins c.ins.length = c.high) && decide (stS cs c.ins c.ins.length = c.steps))
theorem fitB_iff {cs : List Cd} {c : Cd} : fitB cs c = true ↔ FitV cs c := by
  unfold fitB
  rw [Bool.and_eq_true, Bool.and_eq_true, decide_eq_true_eq, decide_eq_true_eq, wellB_iff]
  exact ⟨fun h => ⟨h.1, h.2.1, h.2.2⟩, fun h => ⟨h.well, h.high, h.steps⟩⟩
/-- Who calls whom. -/
def callE (cs : List Cd) (i k : Nat) : Bool := (cs.getD i cd0).ins.any fun x => decide (x.op = 8) && decide (x.a = (k : Int))
def lateE (cs : List Cd) (i : Nat) : Int := if wars (callE cs) cs.length i i = true then 9 else if fitB cs (cs.getD i cd0) = true then 0 else 8
def wrongV (cs : List Cd) : Int × Nat :=
  if 40 < cs.length then (5, 0)
  else if (firstF (fun i => aloneE (cs.getD i cd0) cs.length) cs.length 0).1 ≠ 0 then firstF (fun i => aloneE (cs.getD i cd0) cs.length) cs.length 0
  else firstF (lateE cs) cs.length 0
/-- Right code. -/
structure Right (cs : List Cd) : Prop where
  len : cs.length ≤ 40
  alone : ∀ (i : Nat) (c : Cd), cs[i]? = some c → aloneE c cs.length = 0
  cyc : ∀ i, i < cs.length → wars (callE cs) cs.length i i = false
  fit : ∀ (i : Nat) (c : Cd), cs[i]? = some c → FitV cs c
theorem cd_at {cs : List Cd} {i : Nat} {c : Cd} (h : cs[i]? = some c) : cs.getD i cd0 = c := by simp [List.getD, h]
theorem wrong_right {cs : List Cd} (h : (wrongV cs).1 = 0) : Right cs := by
  unfold wrongV at h
  by_cases h1 : 40 < cs.length
  · rw [if_pos h1] at h; simp at h
  · rw [if_neg h1] at h
    by_cases h2 : (firstF (fun i => aloneE (cs.getD i cd0) cs.length) cs.length 0).1 ≠ 0
    · rw [if_pos h2] at h; exact absurd h h2
    · rw [if_neg h2] at h
      have a := (firstF_ok _ _ (Decidable.not_not.1 h2)).2
      have b := (firstF_ok _ _ h).2
      refine ⟨by omega, fun i c hi => ?_, fun i hi => ?_, fun i c hi => ?_⟩
      · have := a i (by omega) (by have := (List.getElem?_eq_some_iff.1 hi).1; omega)
        rw [cd_at hi] at this; exact this
      · have := b i (by omega) (by omega)
        unfold lateE at this
        cases hw : wars (callE cs) cs.length i i with
        | false => rfl
        | true => rw [if_pos hw] at this; simp at this
      · have := b i (by omega) (by have := (List.getElem?_eq_some_iff.1 hi).1; omega)
        unfold lateE at this
        rw [cd_at hi] at this
        by_cases hw : wars (callE cs) cs.length i i = true
        · rw [if_pos hw] at this; simp at this
        · rw [if_neg hw] at this
          by_cases hf : fitB cs c = true
          · exact fitB_iff.1 hf
          · rw [if_neg hf] at this; simp at this
theorem alone_ins {c : Cd} {r : Nat} (h : aloneE c r = 0) : (1 ≤ c.ins.length ∧ c.ins.length ≤ 2000) ∧ ((1 ≤ c.high ∧ c.high ≤ 100) ∧ (1 ≤ c.steps ∧ c.steps ≤ 20000)) ∧ ∀ j x, c.ins[j]? = some x → insE x j c.ins.length r = 0 := by
  unfold aloneE at h
  by_cases h1 : 1 ≤ c.ins.length ∧ c.ins.length ≤ 2000
  · rw [if_neg (fun e => e h1)] at h
    by_cases h2 : (1 ≤ c.high ∧ c.high ≤ 100) ∧ (1 ≤ c.steps ∧ c.steps ≤ 20000)
    · rw [if_neg (fun e => e h2)] at h
      refine ⟨h1, h2, fun j x hj => ?_⟩
      have := insL_ok h j x hj
      simpa using this
    · rw [if_pos h2] at h; simp at h
  · rw [if_pos h1] at h; simp at h
/-- What is right of an instruction with which nothing is wrong. -/
theorem ins_call {x : In} {k n r : Nat} (h : insE x k n r = 0) (ho : x.op = 8) : 0 ≤ x.a ∧ x.a < r := by
  simp only [insE, ho] at h
  simp only [show ¬ ((8 : Int) = 2 ∨ (8 : Int) = 3 ∨ (8 : Int) = 4) by omega, show ¬ (8 : Int) = 1 by omega, show ¬ (8 : Int) = 5 by omega, show ¬ (8 : Int) = 6 by omega, show ¬ (8 : Int) = 7 by omega, if_false, if_true] at h
  by_cases hh : 0 ≤ x.a ∧ x.a < r
  · exact hh
  · rw [if_neg hh] at h; simp at h
theorem ins_to {x : In} {k n r : Nat} (h : insE x k n r = 0) (ho : isG x) : (k : Int) + 2 ≤ x.to ∧ x.to ≤ n := by
  rcases ho with ho | ho
  · simp only [insE, ho] at h
    simp only [show ¬ ((6 : Int) = 2 ∨ (6 : Int) = 3 ∨ (6 : Int) = 4) by omega, show ¬ (6 : Int) = 1 by omega, show ¬ (6 : Int) = 5 by omega, if_false, if_true] at h
    by_cases hh : (k : Int) + 2 ≤ x.to ∧ x.to ≤ n
    · exact hh
    · rw [if_neg hh] at h; simp at h
  · simp only [insE, ho] at h
    simp only [show ¬ ((7 : Int) = 2 ∨ (7 : Int) = 3 ∨ (7 : Int) = 4) by omega, show ¬ (7 : Int) = 1 by omega, show ¬ (7 : Int) = 5 by omega, show ¬ (7 : Int) = 6 by omega, if_false, if_true] at h
    by_cases hh : (k : Int) + 2 ≤ x.to ∧ x.to ≤ n
    · exact hh
    · rw [if_neg hh] at h; simp at h
end Vx

/- How heights are found, plainly: by a map of places, and by a row of places. -/
namespace Vx

/-- Numbers by numbers, the first one counts. -/
def lk : List (Int × Int) → Int → Option Int
  | [], _ => none
  | e :: L, k => if k = e.1 then some e.2 else lk L k
def upL : List (Int × Int) → Int → Int → List (Int × Int)
  | [], k, v => [(k, v)]
  | e :: L, k, v => if k = e.1 then (k, v) :: L else e :: upL L k v
theorem lk_up : ∀ (L : List (Int × Int)) (k v q : Int), lk (upL L k v) q = if q = k then some v else lk L q
  | [], k, v, q => by simp [upL, lk]
  | e :: L, k, v, q => by
    unfold upL
    by_cases h : k = e.1
    · rw [if_pos h]
      simp only [lk]
      by_cases hq : q = k
      · rw [if_pos hq, if_pos hq]
      · rw [if_neg hq, if_neg hq, if_neg (fun e' => hq (e'.trans h.symm))]
    · rw [if_neg h]
      simp only [lk]
      rw [lk_up L k v q]
      by_cases hq : q = e.1
      · rw [if_pos hq, if_neg (fun e' => h (e'.symm.trans hq)), if_pos hq]
      · rw [if_neg hq, if_neg hq]
/-- What is known ahead of a place, with a map of those that guards lead to. -/
structure MInv (l : List In) (k : Nat) (L : List (Int × Int)) : Prop where
  set : ∀ (j : Nat) (x : In), j < k → l[j]? = some x → isG x → lk L x.to = some (hAt l j + 1)
  got : ∀ p v, lk L p = some v → ∃ (j : Nat) (x : In), j < k ∧ l[j]? = some x ∧ isG x ∧ x.to = p ∧ v = hAt l j + 1
  tk : ∀ (j : Nat) (x : In), j < k → l[j]? = some x → tk x ≤ hAt l j
  met : ∀ p : Nat, p < k → ∀ v, lk L (p : Int) = some v → v = hAt l p
/-- Guards lead on, and not too far. -/
def Tos (l : List In) : Prop := ∀ (j : Nat) (x : In), l[j]? = some x → isG x → (j : Int) + 2 ≤ x.to ∧ x.to ≤ l.length
theorem MInv.nil (l : List In) : MInv l 0 [] := ⟨fun j x h => by omega, fun p v h => by simp [lk] at h, fun j x h => by omega, fun p h => by omega⟩
theorem MInv.step {l : List In} {k : Nat} {L : List (Int × Int)} {x : In} (h : MInv l k L) (hT : Tos l) (hx : l[k]? = some x) (ht : Vx.tk x ≤ hAt l k) (hm : ∀ v, lk L (k : Int) = some v → v = hAt l k) (hg : ¬ isG x) : MInv l (k + 1) L := by
  have _ := hT
  refine ⟨fun j y hj hy hgy => ?_, fun p v hp => ?_, fun j y hj hy => ?_, fun p hp v hv => ?_⟩
  · by_cases e : j = k
    · subst e; rw [hx] at hy; cases hy; exact absurd hgy hg
    · exact h.set j y (by omega) hy hgy
  · obtain ⟨j, y, h1, h2⟩ := h.got p v hp
    exact ⟨j, y, by omega, h2⟩
  · by_cases e : j = k
    · subst e; rw [hx] at hy; cases hy; exact ht
    · exact h.tk j y (by omega) hy
  · by_cases e : p = k
    · subst e; exact hm v hv
    · exact h.met p (by omega) v hv
theorem MInv.stepG {l : List In} {k : Nat} {L : List (Int × Int)} {x : In} (h : MInv l k L) (hT : Tos l) (hx : l[k]? = some x) (ht : Vx.tk x ≤ hAt l k) (hm : ∀ v, lk L (k : Int) = some v → v = hAt l k) (hg : isG x) (ha : ∀ v, lk L x.to = some v → v = hAt l k + 1) : MInv l (k + 1) (upL L x.to (hAt l k + 1)) := by
  have t := hT k x hx hg
  refine ⟨fun j y hj hy hgy => ?_, fun p v hp => ?_, fun j y hj hy => ?_, fun p hp v hv => ?_⟩
  · rw [lk_up]
    by_cases e : j = k
    · subst e; rw [hx] at hy; cases hy; rw [if_pos rfl]
    · have := h.set j y (by omega) hy hgy
      by_cases e2 : y.to = x.to
      · rw [if_pos e2]
        rw [e2] at this
        rw [ha _ this]
      · rw [if_neg e2]; exact this
  · rw [lk_up] at hp
    by_cases e : p = x.to
    · rw [if_pos e] at hp
      exact ⟨k, x, by omega, hx, hg, e.symm, (Option.some.inj hp).symm⟩
    · rw [if_neg e] at hp
      obtain ⟨j, y, h1, h2⟩ := h.got p v hp
      exact ⟨j, y, by omega, h2⟩
  · by_cases e : j = k
    · subst e; rw [hx] at hy; cases hy; exact ht
    · exact h.tk j y (by omega) hy
  · rw [lk_up, if_neg (by omega)] at hv
    by_cases e : p = k
    · subst e; exact hm v hv
    · exact h.met p (by omega) v hv
theorem not_tk {l : List In} {k : Nat} {x : In} (hx : l[k]? = some x) (h : hAt l k < tk x) : ¬ WellV l := fun hw => by
  have := hw.tk k x hx
  omega
theorem MInv.not_met {l : List In} {k : Nat} {L : List (Int × Int)} (h : MInv l k L) {p : Nat} {v : Int} (hp : lk L (p : Int) = some v) (hv : v ≠ hAt l p) : ¬ WellV l := fun hw => by
  obtain ⟨j, x, _, hj, hg, ht, rfl⟩ := h.got _ _ hp
  have := hw.to j x hj hg
  rw [ht] at this
  simp at this
  exact hv this.symm
theorem MInv.not_two {l : List In} {k : Nat} {L : List (Int × Int)} {x : In} (h : MInv l k L) (hx : l[k]? = some x) (hg : isG x) {v : Int} (hp : lk L x.to = some v) (hv : v ≠ hAt l k + 1) : ¬ WellV l := fun hw => by
  obtain ⟨j, y, _, hj, hgy, ht, rfl⟩ := h.got _ _ hp
  have h1 := hw.to j y hj hgy
  have h2 := hw.to k x hx hg
  rw [ht] at h1
  exact hv (h1.symm.trans h2)
theorem MInv.fin {l : List In} {L : List (Int × Int)} (h : MInv l l.length L) (hT : Tos l) : (hAt l l.length = 1 ∧ ∀ v, lk L (l.length : Int) = some v → v = hAt l l.length) ↔ WellV l := by
  constructor
  · rintro ⟨h1, h2⟩
    refine ⟨fun j x hj => h.tk j x (List.getElem?_eq_some_iff.1 hj).1 hj, fun j x hj hg => ?_, h1⟩
    have t := hT j x hj hg
    have hs := h.set j x (List.getElem?_eq_some_iff.1 hj).1 hj hg
    have e : x.to = (x.to.toNat : Int) := by omega
    rw [e] at hs
    by_cases hl : x.to.toNat < l.length
    · exact (h.met _ hl _ hs).symm
    · have e2 : x.to.toNat = l.length := by omega
      rw [e2] at hs ⊢
      exact (h2 _ hs).symm
  · intro hw
    refine ⟨hw.fin, fun v hv => ?_⟩
    exact Classical.byContradiction fun hne => h.not_met hv hne hw
/-- What is known ahead of a place, with a row of heights, none of which is below -1. -/
structure UInv (l : List In) (k : Nat) (A : Nat → Int) : Prop where
  cur : A k = hAt l k
  pos : ∀ j, j ≤ k → 0 ≤ hAt l j
  set : ∀ (j : Nat) (x : In), j < k → l[j]? = some x → isG x → (k : Int) < x.to → A x.to.toNat = hAt l j + 1
  got : ∀ p : Nat, k < p → p ≤ l.length → A p = -1 ∨ ∃ (j : Nat) (x : In), j < k ∧ l[j]? = some x ∧ isG x ∧ x.to = (p : Int) ∧ A p = hAt l j + 1
  tk : ∀ (j : Nat) (x : In), j < k → l[j]? = some x → tk x ≤ hAt l j
  met : ∀ (j : Nat) (x : In), j < k → l[j]? = some x → isG x → x.to ≤ k → hAt l x.to.toNat = hAt l j + 1
def setA (A : Nat → Int) (p : Nat) (v : Int) : Nat → Int := fun q => if q = p then v else A q
theorem UInv.nil (l : List In) : UInv l 0 (setA (fun _ => -1) 0 0) :=
  ⟨by simp [setA, hAt], fun j h => by rw [show j = 0 by omega]; exact Int.le_refl _, fun j x h => by omega, fun p h _ => .inl (by simp only [setA]; rw [if_neg (by omega)]), fun j x h => by omega, fun j x h => by omega⟩
theorem eff_pos {x : In} {h : Int} (ht : tk x ≤ h) (hp : 0 ≤ h) : 0 ≤ h + eff x := by
  unfold tk at ht
  unfold eff
  by_cases h1 : x.op = 1 ∨ x.op = 8
  · rw [if_pos h1]; omega
  · rw [if_neg h1]
    by_cases h2 : x.op = 2 ∨ x.op = 3 ∨ x.op = 4
    · rw [if_pos h2]
      rw [if_neg (by omega), if_pos h2] at ht
      omega
    · rw [if_neg h2]; omega
/-- The height of the next place, where what was said of it ahead is the same. -/
theorem UInv.next {l : List In} {k : Nat} {A B : Nat → Int} {x : In} (h : UInv l k A) (hx : l[k]? = some x) (ht : Vx.tk x ≤ hAt l k) (hn : B (k + 1) < 0 ∨ B (k + 1) = hAt l (k + 1))
    (hs : ∀ (j : Nat) (y : In), j < k + 1 → l[j]? = some y → isG y → (k : Int) < y.to → B y.to.toNat = hAt l j + 1)
    (hg : ∀ p : Nat, k < p → p ≤ l.length → B p = -1 ∨ ∃ (j : Nat) (y : In), j < k + 1 ∧ l[j]? = some y ∧ isG y ∧ y.to = (p : Int) ∧ B p = hAt l j + 1)
    (h2 : isG x → (k : Int) + 2 ≤ x.to) : UInv l (k + 1) (setA B (k + 1) (hAt l (k + 1))) := by
  have hpos : ∀ j, j ≤ k + 1 → 0 ≤ hAt l j := fun j hj => by
    by_cases e : j = k + 1
    · rw [e, hAt_step hx]; exact eff_pos ht (h.pos k (Nat.le_refl _))
    · exact h.pos j (by omega)
  refine ⟨by simp [setA], hpos, fun j y hj hy hgy ht' => ?_, fun p hp hl => ?_, fun j y hj hy => ?_, fun j y hj hy hgy hty => ?_⟩
  · have := hs j y hj hy hgy (by omega)
    simp only [setA]
    rw [if_neg (by omega)]
    exact this
  · simp only [setA]
    rw [if_neg (by omega)]
    exact hg p (by omega) hl
  · by_cases e : j = k
    · subst e; rw [hx] at hy; cases hy; exact ht
    · exact h.tk j y (by omega) hy
  · by_cases e2 : y.to ≤ k
    · by_cases e : j = k
      · subst e; rw [hx] at hy; cases hy
        have := h2 hgy
        omega
      · exact h.met j y (by omega) hy hgy e2
    · have e3 : y.to.toNat = k + 1 := by omega
      have hs' := hs j y hj hy hgy (by omega)
      rw [e3] at hs' ⊢
      have := hpos j (by omega)
      omega
theorem UInv.step {l : List In} {k : Nat} {A : Nat → Int} {x : In} (h : UInv l k A) (hx : l[k]? = some x) (ht : Vx.tk x ≤ hAt l k) (hg : ¬ isG x) (hn : A (k + 1) < 0 ∨ A (k + 1) = hAt l (k + 1)) : UInv l (k + 1) (setA A (k + 1) (hAt l (k + 1))) := by
  refine h.next hx ht hn (fun j y hj hy hgy ht' => ?_) (fun p hp hl => ?_) (fun e => absurd e hg)
  · by_cases e : j = k
    · subst e; rw [hx] at hy; cases hy; exact absurd hgy hg
    · exact h.set j y (by omega) hy hgy ht'
  · rcases h.got p hp hl with h1 | ⟨j, y, h1, h2⟩
    · exact .inl h1
    · exact .inr ⟨j, y, by omega, h2⟩
theorem UInv.stepG {l : List In} {k : Nat} {A : Nat → Int} {x : In} (h : UInv l k A) (hx : l[k]? = some x) (ht : Vx.tk x ≤ hAt l k) (hg : isG x) (hto : (k : Int) + 2 ≤ x.to) (ha : A x.to.toNat < 0 ∨ A x.to.toNat = hAt l k + 1) (hn : A (k + 1) < 0 ∨ A (k + 1) = hAt l (k + 1)) : UInv l (k + 1) (setA (setA A x.to.toNat (hAt l k + 1)) (k + 1) (hAt l (k + 1))) := by
  have e1 : setA A x.to.toNat (hAt l k + 1) (k + 1) = A (k + 1) := by simp only [setA]; rw [if_neg (by omega)]
  refine h.next hx ht (by rw [e1]; exact hn) (fun j y hj hy hgy ht' => ?_) (fun p hp hl => ?_) (fun _ => hto)
  · simp only [setA]
    by_cases e : j = k
    · subst e; rw [hx] at hy; cases hy; rw [if_pos rfl]
    · have := h.set j y (by omega) hy hgy ht'
      by_cases e2 : y.to.toNat = x.to.toNat
      · rw [if_pos e2]
        rw [e2] at this
        have := h.pos j (by omega)
        omega
      · rw [if_neg e2]; exact this
  · simp only [setA]
    by_cases e2 : p = x.to.toNat
    · rw [if_pos e2]
      exact .inr ⟨k, x, by omega, hx, hg, by omega, rfl⟩
    · rw [if_neg e2]
      rcases h.got p hp hl with h1 | ⟨j, y, h1, h2⟩
      · exact .inl h1
      · exact .inr ⟨j, y, by omega, h2⟩
theorem UInv.not_met {l : List In} {k : Nat} {A : Nat → Int} (h : UInv l k A) (hk : k + 1 ≤ l.length) (h0 : 0 ≤ A (k + 1)) (hv : A (k + 1) ≠ hAt l (k + 1)) : ¬ WellV l := fun hw => by
  rcases h.got (k + 1) (by omega) hk with h1 | ⟨j, x, _, hj, hg, ht, hA⟩
  · omega
  · have := hw.to j x hj hg
    rw [ht] at this
    simp only [Int.toNat_natCast] at this
    omega
theorem UInv.not_two {l : List In} {k : Nat} {A : Nat → Int} {x : In} (h : UInv l k A) (hx : l[k]? = some x) (hg : isG x) (hto : (k : Int) + 2 ≤ x.to ∧ x.to ≤ l.length) (h0 : 0 ≤ A x.to.toNat) (hv : A x.to.toNat ≠ hAt l k + 1) : ¬ WellV l := fun hw => by
  rcases h.got x.to.toNat (by omega) (by omega) with h1 | ⟨j, y, _, hj, hgy, ht, hA⟩
  · omega
  · have h1 := hw.to j y hj hgy
    have h2 := hw.to k x hx hg
    rw [ht] at h1
    simp only [Int.toNat_natCast] at h1
    omega
theorem UInv.fin {l : List In} {A : Nat → Int} (h : UInv l l.length A) (hT : Tos l) : A l.length = 1 ↔ WellV l := by
  constructor
  · intro h1
    refine ⟨fun j x hj => h.tk j x (List.getElem?_eq_some_iff.1 hj).1 hj, fun j x hj hg => ?_, by rw [← h.cur]; exact h1⟩
    exact h.met j x (List.getElem?_eq_some_iff.1 hj).1 hj hg (hT j x hj hg).2
  · intro hw
    rw [h.cur]; exact hw.fin
/-- How high it grows, so far. -/
structure TInv (cs : List Cd) (l : List In) (k : Nat) (top : Int) : Prop where
  lo : mxH cs l k ≤ top
  hi : WellV l → top ≤ mxH cs l l.length
theorem TInv.nil (cs : List Cd) (l : List In) : TInv cs l 0 0 := ⟨Int.le_refl _, fun _ => Int.le_trans (by show (0 : Int) ≤ hAt l 0; exact Int.le_refl _) (hAt_top (cs := cs) (Nat.zero_le _))⟩
theorem TInv.fin {cs : List Cd} {l : List In} {top : Int} (h : TInv cs l l.length top) (hw : WellV l) : top = mxH cs l l.length := by
  have := h.lo
  have := h.hi hw
  omega
theorem TInv.step {cs : List Cd} {l : List In} {k : Nat} {top : Int} {x : In} (h : TInv cs l k top) (hx : l[k]? = some x) (h8 : x.op ≠ 8) : TInv cs l (k + 1) (max top (max (hAt l k) (hAt l (k + 1)))) := by
  have hk := (List.getElem?_eq_some_iff.1 hx).1
  have a := hAt_top (cs := cs) (l := l) (j := k) (n := l.length) (by omega)
  have b := hAt_top (cs := cs) (l := l) (j := k + 1) (n := l.length) (by omega)
  refine ⟨?_, fun hw => ?_⟩
  · rw [mxH_step hx, if_neg h8]
    have := h.lo
    omega
  · have := h.hi hw
    omega
theorem TInv.stepC {cs : List Cd} {l : List In} {k : Nat} {top : Int} {x : In} (h : TInv cs l k top) (hx : l[k]? = some x) (h8 : x.op = 8) : TInv cs l (k + 1) (max (max top (hAt l k + (cs.getD x.a.toNat cd0).high)) (max (hAt l k) (hAt l (k + 1)))) := by
  have hk := (List.getElem?_eq_some_iff.1 hx).1
  have a := hAt_top (cs := cs) (l := l) (j := k) (n := l.length) (by omega)
  have b := hAt_top (cs := cs) (l := l) (j := k + 1) (n := l.length) (by omega)
  have c := call_top (cs := cs) hx hk h8
  refine ⟨?_, fun hw => ?_⟩
  · rw [mxH_step hx, if_pos h8]
    have := h.lo
    omega
  · have := h.hi hw
    omega
theorem TInv.stepG {cs : List Cd} {l : List In} {k : Nat} {top : Int} {x : In} (h : TInv cs l k top) (hx : l[k]? = some x) (hg : isG x) (hto : 0 ≤ x.to ∧ x.to ≤ l.length) : TInv cs l (k + 1) (max (max top (hAt l k + 1)) (max (hAt l k) (hAt l (k + 1)))) := by
  have hk := (List.getElem?_eq_some_iff.1 hx).1
  have a := hAt_top (cs := cs) (l := l) (j := k) (n := l.length) (by omega)
  have b := hAt_top (cs := cs) (l := l) (j := k + 1) (n := l.length) (by omega)
  refine ⟨?_, fun hw => ?_⟩
  · rw [mxH_step hx, if_neg (by unfold isG at hg; omega)]
    have := h.lo
    omega
  · have := h.hi hw
    have := hw.to k x hx hg
    have := hAt_top (cs := cs) (l := l) (j := x.to.toNat) (n := l.length) (by omega)
    omega
end Vx
