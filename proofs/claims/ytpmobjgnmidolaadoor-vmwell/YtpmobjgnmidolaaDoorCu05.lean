/-
  Plain facts about the spans of a mask, that speak of no program: minute by minute, and span by span.
-/
import Derived.Test.YtpmobjgnmidolaaDoorCu03
import Derived.Test.YtpmobjgnmidolaaDoorCu04
import Derived.Deep.RegionHeld3
import Derived.Deep.DrawnRows
namespace Msk

/-- The spans of the minutes ahead of n. -/
def rs (f : Nat → Bool) : Nat → List (Int × Int)
  | 0 => []
  | n + 1 => if f n then (if n ≠ 0 ∧ f (n - 1) = true then (rs f n).dropLast ++ [(((rs f n).getLastD (0, 0)).1, (n : Int) + 1)] else rs f n ++ [((n : Int), (n : Int) + 1)]) else rs f n

theorem rs_skip (f : Nat → Bool) (n : Nat) : ∀ k, (∀ i, n ≤ i → i < n + k → f i = false) → rs f (n + k) = rs f n
  | 0, _ => rfl
  | k + 1, h => by
    have ih := rs_skip f n k fun i a b => h i a (by omega)
    have e : f (n + k) = false := h _ (by omega) (by omega)
    rw [← Nat.add_assoc, rs, ih, e]; simp
theorem rs_run (f : Nat → Bool) (a : Nat) (h0 : a = 0 ∨ f (a - 1) = false) : ∀ k, (∀ i, a ≤ i → i < a + (k + 1) → f i = true) → rs f (a + (k + 1)) = rs f a ++ [((a : Int), ((a + (k + 1) : Nat) : Int))]
  | 0, h => by
    have e : f a = true := h a (by omega) (by omega)
    rw [Nat.zero_add, rs, e]
    have : ¬ (a ≠ 0 ∧ f (a - 1) = true) := by
      rintro ⟨h1, h2⟩
      rcases h0 with h0 | h0
      · exact h1 h0
      · rw [h0] at h2; cases h2
    rw [if_pos rfl, if_neg this]
    simp
  | k + 1, h => by
    have ih := rs_run f a h0 k fun i x y => h i x (by omega)
    have e : f (a + (k + 1)) = true := h _ (by omega) (by omega)
    have e2 : f (a + (k + 1) - 1) = true := h _ (by omega) (by omega)
    rw [← Nat.add_assoc a (k + 1) 1, rs, ih, e, if_pos rfl, if_pos ⟨by omega, e2⟩]
    simp
/-- One span behind the minutes ahead of p, that are no longer a span's. -/
theorem rs_next (f : Nat → Bool) (p a b : Nat) (h1 : p ≤ a) (h2 : a < b) (hp : p = 0 ∨ f p = false) (hno : ∀ i, p ≤ i → i < a → f i = false) (hyes : ∀ i, a ≤ i → i < b → f i = true) :
    rs f b = rs f p ++ [((a : Int), (b : Int))] := by
  have e1 : rs f a = rs f p := by
    have := rs_skip f p (a - p) fun i x y => hno i x (by omega)
    rw [Nat.add_sub_cancel' h1] at this; exact this
  have h0 : a = 0 ∨ f (a - 1) = false := by
    by_cases ha : a = 0
    · exact .inl ha
    · right
      by_cases hpa : p = a
      · subst hpa
        rcases hp with hp | hp
        · exact absurd hp ha
        · have := hyes p (by omega) h2; rw [hp] at this; cases this
      · exact hno _ (by omega) (by omega)
  obtain ⟨k, rfl⟩ : ∃ k, b = a + (k + 1) := ⟨b - a - 1, by omega⟩
  rw [rs_run f a h0 k hyes, e1]
theorem rs_end (f : Nat → Bool) (p n : Nat) (h : p ≤ n) (hno : ∀ i, p ≤ i → i < n → f i = false) : rs f n = rs f p := by
  have := rs_skip f p (n - p) fun i x y => hno i x (by omega)
  rw [Nat.add_sub_cancel' h] at this; exact this
theorem rs_ext {f g : Nat → Bool} : ∀ {n : Nat}, (∀ i, i < n → f i = g i) → rs f n = rs g n
  | 0, _ => rfl
  | n + 1, h => by
    have ih := rs_ext (n := n) fun i hi => h i (by omega)
    have e1 := h n (by omega)
    by_cases hn : n = 0
    · subst hn; simp [rs, e1]
    · have e2 := h (n - 1) (by omega)
      simp only [rs, ih, e1, e2]

/-- Spans that rise, have minutes, and do not touch, behind one minute and up to another. -/
def good (last : Int) (n : Int) : List (Int × Int) → Prop
  | [] => True
  | s :: l => last < s.1 ∧ s.1 < s.2 ∧ s.2 ≤ n ∧ good s.2 n l
/-- Where the last one ends. -/
def endOf (last : Int) : List (Int × Int) → Int
  | [] => last
  | s :: l => endOf s.2 l
theorem good_snoc (n a b : Int) (hb : b ≤ n) (hab : a < b) : ∀ (l : List (Int × Int)) (last : Int), good last n l → endOf last l < a → good last n (l ++ [(a, b)])
  | [], _, _, h => ⟨h, hab, hb, trivial⟩
  | s :: l, _, ⟨h1, h2, h3, h4⟩, h => ⟨h1, h2, h3, good_snoc n a b hb hab l s.2 h4 h⟩
theorem endOf_snoc (a b : Int) : ∀ (l : List (Int × Int)) (last : Int), endOf last (l ++ [(a, b)]) = b
  | [], _ => rfl
  | _ :: l, _ => endOf_snoc a b l _
theorem good_mono (n m : Int) (h : n ≤ m) : ∀ (l : List (Int × Int)) (last : Int), good last n l → good last m l
  | [], _, _ => trivial
  | _ :: l, _, ⟨h1, h2, h3, h4⟩ => ⟨h1, h2, Int.le_trans h3 h, good_mono n m h l _ h4⟩
/-- How many minutes spans have. -/
def len : List (Int × Int) → Int
  | [] => 0
  | s :: l => (s.2 - s.1) + len l
theorem len_snoc (a b : Int) : ∀ l : List (Int × Int), len (l ++ [(a, b)]) = len l + (b - a)
  | [] => by simp [len]
  | s :: l => by have := len_snoc a b l; simp only [List.cons_append, len, this]; omega
/-- What is said of the spans ahead of n, at a minute that is not within a span. -/
structure Runs (f : Nat → Bool) (n : Nat) (l : List (Int × Int)) : Prop where
  good : good (-1) n l
  last : endOf (-1) l ≤ n
  many : len l = Msk.cnt f n
  has : ∀ i, i < n → (l.any fun s => decide (s.1 ≤ (i : Int)) && decide ((i : Int) < s.2)) = f i
  few : l.length ≤ n
theorem Runs.zero (f : Nat → Bool) : Runs f 0 [] := ⟨trivial, by simp [endOf], by simp [len, Msk.cnt], fun i hi => by omega, by simp⟩
theorem Runs.skip {f : Nat → Bool} {n : Nat} {l : List (Int × Int)} (h : Runs f n l) (m : Nat) (hm : n ≤ m) (hno : ∀ i, n ≤ i → i < m → f i = false) : Runs f m l := by
  refine ⟨good_mono _ _ (by omega) _ _ h.good, by have := h.last; omega, ?_, ?_, by have := h.few; omega⟩
  · have e : m = n + (m - n) := by omega
    rw [h.many, e, cnt_add, cnt_false (f := fun j => f (n + j)) fun j hj => hno _ (by omega) (by omega)]
    rfl
  · intro i hi
    by_cases hin : i < n
    · exact h.has i hin
    · rw [hno i (by omega) hi]
      have hg := h.good
      have key : ∀ (l : List (Int × Int)) (last : Int), Msk.good last n l → (l.any fun s => decide (s.1 ≤ (i : Int)) && decide ((i : Int) < s.2)) = false := by
        intro l
        induction l with
        | nil => intro _ _; rfl
        | cons s l ih =>
          intro last hl
          obtain ⟨h1, h2, h3, h4⟩ := hl
          have : ¬ (i : Int) < s.2 := by omega
          simp [ih _ h4, this]
      exact key l _ hg
theorem Runs.run {f : Nat → Bool} {a : Nat} {l : List (Int × Int)} (h : Runs f a l) (ha : endOf (-1) l < a) (b : Nat) (hab : a < b) (hyes : ∀ i, a ≤ i → i < b → f i = true) : Runs f b (l ++ [((a : Int), (b : Int))]) := by
  refine ⟨good_snoc _ _ _ (by omega) (by omega) _ _ (good_mono _ _ (by omega) _ _ h.good) ha, by rw [endOf_snoc]; omega, ?_, ?_, ?_⟩
  · have e : b = a + (b - a) := by omega
    have q : cnt f b = cnt f a + (b - a) := by
      rw [e, cnt_add, cnt_true (f := fun j => f (a + j)) fun j hj => hyes _ (by omega) (by omega)]
      omega
    rw [len_snoc, h.many, q]
    omega
  · intro i hi
    rw [List.any_append]
    by_cases hia : i < a
    · rw [h.has i hia]
      have : ¬ (a : Int) ≤ (i : Int) := by omega
      simp [this]
    · have h1 : (a : Int) ≤ (i : Int) := by omega
      have h2 : (i : Int) < (b : Int) := by omega
      rw [hyes i (by omega) hi]
      simp [h1, h2]
  · have := h.few
    simp only [List.length_append, List.length_cons, List.length_nil]
    omega

/-- What has been seen of a mask ahead of p: all spans that end there or sooner. -/
structure Seen (f : Nat → Bool) (p : Nat) (l : List (Int × Int)) : Prop where
  runs : Runs f p l
  same : l = rs f p
  gap : (p = 0 ∧ l = []) ∨ f p = false ∨ p = 1440
theorem Seen.zero (f : Nat → Bool) : Seen f 0 [] := ⟨Runs.zero f, rfl, .inl ⟨rfl, rfl⟩⟩
theorem Seen.next {f : Nat → Bool} {p : Nat} {l : List (Int × Int)} (h : Seen f p l) (a b : Nat) (h1 : p ≤ a) (h2 : a < b) (h3 : b ≤ 1440) (hno : ∀ i, p ≤ i → i < a → f i = false)
    (hyes : ∀ i, a ≤ i → i < b → f i = true) (hb : b < 1440 → f b = false) : Seen f b (l ++ [((a : Int), (b : Int))]) := by
  have hp0 : p = 0 ∨ f p = false := by
    rcases h.gap with ⟨g, _⟩ | g | g
    · exact .inl g
    · exact .inr g
    · omega
  refine ⟨(h.runs.skip a h1 hno).run ?_ b h2 hyes, by rw [h.same, rs_next f p a b h1 h2 hp0 hno hyes], ?_⟩
  · have hl := h.runs.last
    rcases h.gap with ⟨_, g⟩ | g | g
    · subst g; simp [endOf]; omega
    · have : a ≠ p := fun e => by
        have := hyes a (Nat.le_refl _) h2
        rw [e, g] at this; cases this
      omega
    · omega
  · by_cases h : b = 1440
    · exact .inr (.inr h)
    · exact .inr (.inl (hb (by omega)))
theorem Seen.all {f : Nat → Bool} {p : Nat} {l : List (Int × Int)} (h : Seen f p l) (hp : p ≤ 1440) (hno : ∀ i, p ≤ i → i < 1440 → f i = false) : l = rs f 1440 ∧ Runs f 1440 l :=
  ⟨by rw [h.same, rs_end f p 1440 hp hno], h.runs.skip 1440 hp hno⟩

end Msk

/- The spans of any mask are as they must be. -/
namespace Msk

theorem run_begin (f : Nat → Bool) : ∀ m, f m = true → ∃ a, a ≤ m ∧ (a = 0 ∨ f (a - 1) = false) ∧ ∀ i, a ≤ i → i ≤ m → f i = true
  | 0, h => ⟨0, Nat.le_refl _, .inl rfl, fun i _ hi => by rw [show i = 0 by omega]; exact h⟩
  | m + 1, h => by
    cases hm : f m with
    | false => exact ⟨m + 1, Nat.le_refl _, .inr hm, fun i h1 h2 => by rw [show i = m + 1 by omega]; exact h⟩
    | true =>
      obtain ⟨a, h1, h2, h3⟩ := run_begin f m hm
      refine ⟨a, by omega, h2, fun i hi hi' => ?_⟩
      by_cases e : i = m + 1
      · rw [e]; exact h
      · exact h3 i hi (by omega)
theorem runs_all (f : Nat → Bool) : ∀ n, Runs f n (rs f n) ∧ ((n = 0 ∨ f (n - 1) = false) → endOf (-1) (rs f n) < n) := by
  intro n
  induction n using Nat.strongRecOn with
  | ind n ih =>
    match n, ih with
    | 0, _ => exact ⟨Runs.zero f, fun _ => by show (-1 : Int) < 0; omega⟩
    | m + 1, ih =>
      cases hm : f m with
      | false =>
        have e : rs f (m + 1) = rs f m := by rw [rs, hm]; rfl
        have h := (ih m (by omega)).1
        rw [e]
        refine ⟨h.skip (m + 1) (by omega) fun i h1 h2 => by rw [show i = m by omega]; exact hm, fun _ => ?_⟩
        have := h.last
        omega
      | true =>
        obtain ⟨a, h1, h2, h3⟩ := run_begin f m hm
        obtain ⟨r1, r2⟩ := ih a (by omega)
        have e := rs_run f a h2 (m - a) (fun i q1 q2 => h3 i q1 (by omega))
        rw [show a + (m - a + 1) = m + 1 by omega] at e
        rw [e]
        refine ⟨r1.run (r2 h2) (m + 1) (by omega) (fun i q1 q2 => h3 i q1 (by omega)), fun h => ?_⟩
        rcases h with h | h
        · omega
        · rw [show m + 1 - 1 = m by omega, hm] at h
          cases h
theorem runs_of (f : Nat → Bool) (n : Nat) : Runs f n (rs f n) := (runs_all f n).1
end Msk

/- What masks.fill comes to. -/
namespace Go.Proofs.YtpmobjgnmidolaaDoor
open Go.RowKit Msk

/-- One word, filled from a minute on up to another one of the same word. -/
theorem fill_word (f : Nat → Bool) (x y : Nat) (h1 : x ≤ y) :
    bits .or .u64 (wd f (x / 64) : Int) (IntKind.u64.wrap (((2 ^ (y - x) - 1 : Nat) : Int) * 2 ^ (x % 64))) = ((wd (fun i => f i || (decide (x ≤ i) && decide (i < y))) (x / 64) : Nat) : Int) := by
  have e : IntKind.u64.wrap (((2 ^ (y - x) - 1 : Nat) : Int) * 2 ^ (x % 64)) = ((wd (fun i => decide (x ≤ i) && decide (i < y)) (x / 64) : Nat) : Int) := by
    have e1 : wd (fun i => decide (x ≤ i) && decide (i < y)) (x / 64) = (2 ^ (y - x) - 1) * 2 ^ (x % 64) % 18446744073709551616 := by
      symm
      refine wd_eq _ _ _ (Nat.mod_lt _ (by omega)) fun j hj => ?_
      rw [shl_bit _ _ j hj, ones_bit]
      have q1 : (x % 64 ≤ j) = (x ≤ 64 * (x / 64) + j) := by apply propext; omega
      by_cases hr : x % 64 ≤ j
      · have q2 : (j - x % 64 < y - x) = (64 * (x / 64) + j < y) := by apply propext; omega
        simp only [q1, q2]
      · have q3 : ¬ x ≤ 64 * (x / 64) + j := by omega
        simp [hr, q3]
    rw [IntKind.wrap_u64, e1]
    have : ((2 : Int) ^ (x % 64)) = ((2 ^ (x % 64) : Nat) : Int) := by simp
    rw [this]
    omega
  rw [e, bits_or_u64_nat _ _ (wd_lt _ _) (wd_lt _ _), wd_or]

/-- The mask behind it. -/
theorem fill_mv (f : Nat → Bool) (x y : Nat) (h1 : x ≤ y) (h2 : y ≤ 64 * (x / 64) + 64) (hx : x < 1472) :
    (mv f).setIfInBounds (x / 64) (.int .u64 (bits .or .u64 (wd f (x / 64) : Int) (IntKind.u64.wrap (((2 ^ (y - x) - 1 : Nat) : Int) * 2 ^ (x % 64))))) = mv fun i => f i || (decide (x ≤ i) && decide (i < y)) := by
  rw [fill_word f x y h1, mv_set _ _ _ (by omega)]
  refine mv_ext fun i hi => ?_
  by_cases h : i / 64 = x / 64
  · rw [if_pos h]
  · rw [if_neg h]
    by_cases q : x ≤ i
    · have : ¬ i < y := by omega
      simp [this]
    · simp [q]

theorem fill_start (f : Nat → Bool) (x v : Int) (h : v = max x 0) : mv f = mv fun i => f i || (decide (x ≤ (i : Int)) && decide ((i : Int) < v)) := mv_ext fun i _ => by
  have : ¬ (x ≤ (i : Int) ∧ (i : Int) < v) := by omega
  by_cases h1 : x ≤ (i : Int)
  · have : ¬ (i : Int) < v := by omega
    simp [this]
  · simp [h1]
theorem fill_step (f : Nat → Bool) (x : Int) (k n : Nat) (h0 : x ≤ k) (hk : k ≤ n) : (mv fun i => (f i || (decide (x ≤ (i : Int)) && decide ((i : Int) < (k : Int)))) || (decide (k ≤ i) && decide (i < n))) = mv fun i => f i || (decide (x ≤ (i : Int)) && decide ((i : Int) < (n : Int))) := mv_ext fun i _ => by
  by_cases h1 : i < k
  · have h2 : ¬ k ≤ i := by omega
    have h3 : (i : Int) < k := by omega
    have h4 : (i : Int) < n := by omega
    simp [h2, h3, h4]
  · have h2 : k ≤ i := by omega
    have h3 : ¬ (i : Int) < k := by omega
    have h4 : ((i : Int) < n) = (i < n) := by apply propext; omega
    have h5 : x ≤ (i : Int) := by omega
    simp [h2, h3, h5]
theorem fill_put (f : Nat → Bool) (x : Int) (k n q r : Nat) (h0 : x ≤ k) (h1 : k ≤ n) (h2 : n ≤ 64 * (k / 64) + 64) (hx : k < 1472) (hq : q = k / 64) (hr : r = k % 64) (d : Nat) (hd : d = n - k)
    (F : Nat → Bool) (hF : F = fun i => f i || (decide (x ≤ (i : Int)) && decide ((i : Int) < (k : Int)))) :
    (mv F).setIfInBounds q (.int .u64 (bits .or .u64 (wd F q : Int) (IntKind.u64.wrap (((2 ^ d - 1 : Nat) : Int) * 2 ^ r)))) = mv fun i => f i || (decide (x ≤ (i : Int)) && decide ((i : Int) < (n : Int))) := by
  subst hq hr hd
  rw [fill_mv F k n h1 h2 hx, hF]
  exact fill_step f x k n h0 h1

theorem fill_end (f : Nat → Bool) (x y v : Int) (h1 : v = max x 0 ∨ (v ≤ y ∧ v ≤ 1440)) (h2 : y ≤ v ∨ 1440 ≤ v) : (mv fun i => f i || (decide (x ≤ (i : Int)) && decide ((i : Int) < v))) = mv fun i => f i || (decide (x ≤ (i : Int)) && decide ((i : Int) < y) && decide (i < 1440)) := mv_ext fun i _ => by
  congr 1
  rw [Bool.eq_iff_iff]
  simp only [Bool.and_eq_true, decide_eq_true_eq]
  omega

attribute [local go_sem ↓] Go.wp_at_zero Go.wp_at_succ
set_option maxRecDepth 10000 in
set_option maxHeartbeats 4000000 in
theorem fill_any (f : Nat → Bool) (g : Nat) (x y : Int) (w : World) (hg : w.heap[g]? = some (.cells (mv f) 37 (0, 0))) :
    Calls Tryd.prog 104 #[.pointer (some ⟨g, 0, none⟩), .agg #[.int .i64 x, .int .i64 y]] w fun e w' => e = .returned (.tuple #[]) ∧
      w'.heap[g]? = some (.cells (mv fun i => f i || (decide (x ≤ (i : Int)) && decide ((i : Int) < y) && decide (i < 1440))) 37 (0, 0)) ∧ Below g w w' := by
  have hgl := lt_of_block hg
  go_enter Tryd.func104, Tryd.ntmps104
  go_wp2
  go_region
  all_goals go_wp2
  all_goals
    go_loopw [4] (fun i wr => ∃ v : Int, i = .int .i64 v ∧ 0 ≤ v ∧ x ≤ v ∧ (v = max x 0 ∨ (v ≤ y ∧ v ≤ 1440)) ∧ wr.heap[g]? = some (.cells (mv fun i => f i || (decide (x ≤ (i : Int)) && decide ((i : Int) < v))) 37 (0, 0)) ∧ Below g w wr) (fun i _ => (1440 - intOf i).toNat)
    case atStart =>
      refine ⟨_, rfl, by omega, by omega, .inl (by omega), ?_, ?_⟩
      · exact blk_eq (blk_old _ _ _ hgl hg) (fill_start f x _ (by omega))
      · exact ((Below.refl _ _).alloc (Nat.le_of_lt hgl) _).drew
    case round =>
      obtain ⟨v, rfl, hv0, hvx, hv, hm, hbel⟩ := hrel
      by_cases hlt : v < y ∧ v < 1440
      · obtain ⟨hl1, hl2⟩ := hlt
        obtain ⟨k, rfl⟩ : ∃ k : Nat, v = k := ⟨v.toNat, by omega⟩
        obtain ⟨yn, rfl⟩ : ∃ yn : Nat, y = yn := ⟨y.toNat, by omega⟩
        generalize hF : (fun i : Nat => f i || (decide (x ≤ (i : Int)) && decide ((i : Int) < (k : Int)))) = F at hm
        have HF : Hid (F = fun i : Nat => f i || (decide (x ≤ (i : Int)) && decide ((i : Int) < (k : Int)))) := hF.symm
        obtain ⟨m, hm1⟩ : ∃ m : Nat, m = 64 * (k / 64) + 64 := ⟨_, rfl⟩
        have hmk : m ≤ k + 64 ∧ k < m ∧ m ≤ 1472 := by omega
        have HM : Hid (m = 64 * (k / 64) + 64) := hm1
        have cw := fun w => wordEnd_any k (by omega) w
        rw [← hm1] at cw
        have HV : Hid ((k : Int) = max x 0 ∨ ((k : Int) ≤ yn ∧ (k : Int) ≤ 1440)) := hv
        obtain ⟨q, hq⟩ : ∃ q : Nat, q = k / 64 := ⟨_, rfl⟩
        obtain ⟨r, hr⟩ : ∃ r : Nat, r = k % 64 := ⟨_, rfl⟩
        have HQ : Hid (q = k / 64) := hq
        have HR : Hid (r = k % 64) := hr
        have t1 : (k : Int) / 64 = (q : Int) := by omega
        have t2 : (k : Int) % 64 = (r : Int) := by omega
        have t3 : (k : Int).tdiv 64 = (q : Int) := by rw [Int.tdiv_eq_ediv_of_nonneg (by omega)]; exact t1
        have t4 : (k : Int).tmod 64 = (r : Int) := by rw [Int.tmod_eq_emod_of_nonneg (by omega)]; exact t2
        have cm := cell_mv hm q (by omega)
        have fm := frozen_of_row _ _ q _ _ hm
        have hi0 : (0 : Int) ≤ (q : Int) := by omega
        have hi1 : (q : Int) < 23 := by omega
        have hr0 : (0 : Int) ≤ (r : Int) := by omega
        have hr1 : (r : Int) < 64 := by omega
        have t5 : IntKind.i64.wrap (q : Int) = (q : Int) := by rw [IntKind.wrap_i64]; omega
        have t6 : IntKind.i64.wrap (r : Int) = (r : Int) := by rw [IntKind.wrap_i64]; omega
        have t7 : IntKind.i64.wrap ((m : Int) - (k : Int)) = (m : Int) - (k : Int) := by rw [IntKind.wrap_i64]; omega
        have t8 : IntKind.i64.wrap (1440 - (k : Int)) = 1440 - (k : Int) := by rw [IntKind.wrap_i64]; omega
        clear hv hm1 hq hr hF
        rcases (show (m ≤ yn ∧ m ≤ 1440) ∨ (yn < m ∧ yn ≤ 1440) ∨ (1440 < m ∧ 1440 < yn) from by omega) with hA | hA | hA
        · first
          | (exfalso; omega)
          | (have t9 : IntKind.i64.wrap ((m : Int) - (k : Int)) = (m : Int) - (k : Int) := by rw [IntKind.wrap_i64]; omega
             go_wp2_with (go_at_call 115; refine (cw _).mono ?_; rintro e w' ⟨rfl, rfl⟩)
             go_region_with ((go_at_call 121; refine (ones_at _ ?_ ?_ _).mono ?_; omega; omega; rintro e w2 ⟨rfl, rfl⟩))
             all_goals
               go_wp2
               go_roundw
               case rel =>
                 have hM := HM.out
                 refine ⟨m, rfl, by omega, by omega, .inr ⟨by omega, by omega⟩, ?_, (hbel.setCell (Nat.le_refl _) _).drew⟩
                 refine blk_eq (heap_setCell_same _ _ _ _ _ _ hm) ?_
                 exact fill_put f x k m q r hvx (by omega) (by omega) (by omega) HQ.out HR.out _ (by omega) F HF.out
               case measure => simp [intOf]; omega)
        · first
          | (exfalso; omega)
          | (have t9 : IntKind.i64.wrap ((yn : Int) - (k : Int)) = (yn : Int) - (k : Int) := by rw [IntKind.wrap_i64]; omega
             go_wp2_with (go_at_call 115; refine (cw _).mono ?_; rintro e w' ⟨rfl, rfl⟩)
             go_region_with ((go_at_call 121; refine (ones_at _ ?_ ?_ _).mono ?_; omega; omega; rintro e w2 ⟨rfl, rfl⟩))
             all_goals
               go_wp2
               go_roundw
               case rel =>
                 have hM := HM.out
                 refine ⟨yn, rfl, by omega, by omega, .inr ⟨by omega, by omega⟩, ?_, (hbel.setCell (Nat.le_refl _) _).drew⟩
                 refine blk_eq (heap_setCell_same _ _ _ _ _ _ hm) ?_
                 exact fill_put f x k yn q r hvx (by omega) (by omega) (by omega) HQ.out HR.out _ (by omega) F HF.out
               case measure => simp [intOf]; omega)
        · first
          | (exfalso; omega)
          | (have t9 : IntKind.i64.wrap ((1440 : Int) - (k : Int)) = (1440 : Int) - (k : Int) := by rw [IntKind.wrap_i64]; omega
             go_wp2_with (go_at_call 115; refine (cw _).mono ?_; rintro e w' ⟨rfl, rfl⟩)
             go_region_with ((go_at_call 121; refine (ones_at _ ?_ ?_ _).mono ?_; omega; omega; rintro e w2 ⟨rfl, rfl⟩))
             all_goals
               go_wp2
               go_roundw
               case rel =>
                 have hM := HM.out
                 refine ⟨1440, rfl, by omega, by omega, .inr ⟨by omega, by omega⟩, ?_, (hbel.setCell (Nat.le_refl _) _).drew⟩
                 refine blk_eq (heap_setCell_same _ _ _ _ _ _ hm) ?_
                 exact fill_put f x k 1440 q r hvx (by omega) (by omega) (by omega) HQ.out HR.out _ (by omega) F HF.out
               case measure => simp [intOf]; omega)
      · go_wp2
        go_end0
        exact ⟨rfl, blk_eq hm (fill_end f x y v hv (by omega)), hbel⟩
end Go.Proofs.YtpmobjgnmidolaaDoor

/- What masks.Of comes to, over a row of spans that lies in memory. -/
namespace Go.Proofs.YtpmobjgnmidolaaDoor
open Go.RowKit Msk

/-- A row of spans in memory: the slice's value and its spans. -/
def Row (w : World) (v : Value) (l : List (Int × Int)) : Prop :=
  (∃ c, v = .slice none 0 c ∧ l = []) ∨ ∃ g o c : Nat, v = .slice (some ⟨g, o, none⟩) l.length c ∧ l.length < 9223372036854775808 ∧ ∀ j, j < l.length → w.cell? ⟨g, o + j * 2, none⟩ = some (.int .i64 (l.getD j (0, 0)).1) ∧ w.cell? ⟨g, o + j * 2 + 1, none⟩ = some (.int .i64 (l.getD j (0, 0)).2)
theorem Row.later {w w' : World} {v : Value} {l : List (Int × Int)} (h : Row w v l) (hb : Below w.heap.size w w') : Row w' v l := by
  rcases h with h | ⟨g, o, c, hv, hl, hc⟩
  · exact .inl h
  · refine .inr ⟨g, o, c, hv, hl, fun j hj => ?_⟩
    obtain ⟨c1, c2⟩ := hc j hj
    exact ⟨(hb.cell (block_lt_of_cell c1)).trans c1, (hb.cell (block_lt_of_cell c2)).trans c2⟩

/-- Is a minute in one of the spans? -/
def inl (l : List (Int × Int)) (i : Nat) : Bool := l.any fun s => decide (s.1 ≤ (i : Int)) && decide ((i : Int) < s.2) && decide (i < 1440)
theorem inl_snoc (l : List (Int × Int)) (k : Nat) (hk : k < l.length) : (mv fun i => inl (l.take k) i || (decide ((l.getD k (0, 0)).1 ≤ (i : Int)) && decide ((i : Int) < (l.getD k (0, 0)).2) && decide (i < 1440))) = mv (inl (l.take (k + 1))) := by
  have e : l.take (k + 1) = l.take k ++ [l.getD k (0, 0)] := by
    rw [List.take_succ_eq_append_getElem hk]; simp [List.getD, hk]
  refine mv_ext fun i _ => ?_
  rw [e]
  simp [inl]

set_option maxHeartbeats 1000000 in
theorem of_any (v : Value) (l : List (Int × Int)) (w : World) (hl : Row w v l) :
    Calls Tryd.prog 76 #[v] w fun e w' => e = .returned (.agg (mv (inl l))) ∧ Below w.heap.size w w' := by
  have hz := mv_lit
  have h1 : ((w.alloc (.cells (mv fun _ => false) 37)).alloc (.cells (mv fun _ => false) 37)).heap[w.heap.size]? = some (.cells (mv fun _ => false) 37 (0, 0)) := by (repeat (first | refine blk_old _ _ _ (by simp only [size_alloc]; omega) ?_ | exact blk_new _ _ _ (by first | rfl | simp only [size_alloc])))
  have h2 : ((w.alloc (.cells (mv fun _ => false) 37)).alloc (.cells (mv fun _ => false) 37)).heap[w.heap.size + 1]? = some (.cells (mv fun _ => false) 37 (0, 0)) := by (repeat (first | refine blk_old _ _ _ (by simp only [size_alloc]; omega) ?_ | exact blk_new _ _ _ (by first | rfl | simp only [size_alloc])))
  have hb0 : Below w.heap.size w ((w.alloc (.cells (mv fun _ => false) 37)).alloc (.cells (mv fun _ => false) 37)) := ((Below.refl _ _).alloc (Nat.le_refl _) _).alloc (by simp) _
  rcases hl with ⟨c, rfl, rfl⟩ | ⟨g, o, c, rfl, hlen, hcell⟩
  · go_enter Tryd.func76, Tryd.ntmps76
    go_wp2
    refine wp_loop_rounds 1 ?_
    rw [rounds_succ]
    go_wp2_with (first
      | (refine wpList_load_row rfl 37 _ rfl _ rfl _ _ _ _ h2 maskType rfl (maskSize _) ?_)
      | (refine wpList_store_row rfl 37 _ _ rfl _ _ rfl rfl _ _ h1 (maskSize _) (by simp [mv_size]) (mv_all _) ?_))
    refine bodyPost_ret (v := .agg (mv (inl []))) ?_ rfl ⟨rfl, below_setRow hb0 (Nat.le_refl _) _⟩
    exact results_cell_row rfl _ _ w.heap.size _ _ _ _ rfl (setRow_heap _ _ _ _ _ _ h1) maskType rfl (maskSize _)
  · have HC : Hid (∀ j, j < l.length → w.cell? ⟨g, o + j * 2, none⟩ = some (.int .i64 (l.getD j (0, 0)).1) ∧ w.cell? ⟨g, o + j * 2 + 1, none⟩ = some (.int .i64 (l.getD j (0, 0)).2)) := hcell
    clear hcell
    go_enter Tryd.func76, Tryd.ntmps76
    go_wp2
    go_loopw [8] (fun i wr => ∃ k : Nat, k ≤ l.length ∧ i = .int .i64 k ∧ wr.heap[w.heap.size]? = some (.cells (mv fun _ => false) 37 (0, 0)) ∧ wr.heap[w.heap.size + 1]? = some (.cells (mv (inl (l.take k))) 37 (0, 0)) ∧ Below w.heap.size w wr) (fun i _ => l.length - (intOf i).toNat)
    case atStart => exact ⟨0, Nat.zero_le _, rfl, h1, blk_eq h2 (mv_ext fun i _ => by simp [inl]), hb0⟩
    case round =>
      obtain ⟨k, hk, rfl, ho, hm, hbel⟩ := hrel
      by_cases hlt : k < l.length
      · obtain ⟨c1, c2⟩ := HC.out k hlt
        have d1 := (hbel.cell (block_lt_of_cell c1)).trans c1
        have d2 := (hbel.cell (block_lt_of_cell c2)).trans c2
        have hsn := inl_snoc l k hlt
        generalize hs : l.getD k (0, 0) = s at d1 d2 hsn
        obtain ⟨x, y⟩ := s
        dsimp only at d1 d2 hsn
        have HS : Hid ((mv fun i => inl (l.take k) i || (decide (x ≤ (i : Int)) && decide ((i : Int) < y) && decide (i < 1440))) = mv (inl (l.take (k + 1)))) := hsn
        have hm2 := blk_old _ (.cells #[.int .i64 x, .int .i64 y] 110) _ (lt_of_block hm) hm
        have ho2 := blk_old _ (.cells #[.int .i64 x, .int .i64 y] 110) _ (lt_of_block ho) ho
        have hb2 := hbel.alloc hbel.size (.cells #[.int .i64 x, .int .i64 y] 110)
        clear c1 c2 hsn hs
        go_wp2_with (go_at_call 104; refine (fill_any _ _ _ _ _ hm2).mono ?_; rintro e w' ⟨rfl, hm', hb'⟩)
        go_roundw
        case rel => exact ⟨k + 1, by omega, by go_num, (hb'.block _ (by omega)).trans ho2, blk_eq hm' HS.out, hb2.trans (hb'.mono (by omega))⟩
        case measure => simp [intOf]; omega
      · have hkl : k = l.length := by omega
        subst hkl
        have hm2 := blk_eq hm (by rw [List.take_length])
        clear hm
        go_wp2_with (first
          | (refine wpList_load_row rfl 37 _ rfl _ rfl _ _ _ _ hm2 maskType rfl (maskSize _) ?_)
          | (refine wpList_store_row rfl 37 _ _ rfl _ _ rfl rfl _ _ ho (maskSize _) (by simp [mv_size]) (mv_all _) ?_))
        refine bodyPost_ret (v := .agg (mv (inl l))) ?_ rfl ⟨rfl, below_setRow hbel (Nat.le_refl _) _⟩
        exact results_cell_row rfl _ _ w.heap.size _ _ _ _ rfl (setRow_heap _ _ _ _ _ _ ho) maskType rfl (maskSize _)
end Go.Proofs.YtpmobjgnmidolaaDoor

/- How heights are found, plainly: by a map of places, and by a row of places. -/
namespace Vx

/-- Numbers by numbers, the first one counts. -/
def lk : List (Int × Int) → Int → Option Int
  | [], _ => none
  | e :: L, k => if k = e.1 then some e.2 else lk L k
def upL : List (Int × Int) → Int → Int → List (Int × Int)
  | [], k, v => [(k, v)]
  | e :: L, k, v => if k = e.1 then (k, v) :: L else e :: upL L k v
theorem lk_up : ∀ (L : List (Int × Int)) (k v q : Int), lk (upL L k v) q = if q = k then some v else lk L q
  | [], k, v, q => by simp [upL, lk]
  | e :: L, k, v, q => by
    unfold upL
    by_cases h : k = e.1
    · rw [if_pos h]
      simp only [lk]
      by_cases hq : q = k
      · rw [if_pos hq, if_pos hq]
      · rw [if_neg hq, if_neg hq, if_neg (fun e' => hq (e'.trans h.symm))]
    · rw [if_neg h]
      simp only [lk]
      rw [lk_up L k v q]
      by_cases hq : q = e.1
      · rw [if_pos hq, if_neg (fun e' => h (e'.symm.trans hq)), if_pos hq]
      · rw [if_neg hq, if_neg hq]
/-- What is known ahead of a place, with a map of those that guards lead to. -/
structure MInv (l : List In) (k : Nat) (L : List (Int × Int)) : Prop where
  set : ∀ (j : Nat) (x : In), j < k → l[j]? = some x → isG x → lk L x.to = some (hAt l j + 1)
  got : ∀ p v, lk L p = some v → ∃ (j : Nat) (x : In), j < k ∧ l[j]? = some x ∧ isG x ∧ x.to = p ∧ v = hAt l j + 1
  tk : ∀ (j : Nat) (x : In), j < k → l[j]? = some x → tk x ≤ hAt l j
  met : ∀ p : Nat, p < k → ∀ v, lk L (p : Int) = some v → v = hAt l p
/-- Guards lead on, and not too far. -/
def Tos (l : List In) : Prop := ∀ (j : Nat) (x : In), l[j]? = some x → isG x → (j : Int) + 2 ≤ x.to ∧ x.to ≤ l.length
theorem MInv.nil (l : List In) : MInv l 0 [] := ⟨fun j x h => by omega, fun p v h => by simp [lk] at h, fun j x h => by omega, fun p h => by omega⟩
theorem MInv.step {l : List In} {k : Nat} {L : List (Int × Int)} {x : In} (h : MInv l k L) (hT : Tos l) (hx : l[k]? = some x) (ht : Vx.tk x ≤ hAt l k) (hm : ∀ v, lk L (k : Int) = some v → v = hAt l k) (hg : ¬ isG x) : MInv l (k + 1) L := by
  have _ := hT
  refine ⟨fun j y hj hy hgy => ?_, fun p v hp => ?_, fun j y hj hy => ?_, fun p hp v hv => ?_⟩
  · by_cases e : j = k
    · subst e; rw [hx] at hy; cases hy; exact absurd hgy hg
    · exact h.set j y (by omega) hy hgy
  · obtain ⟨j, y, h1, h2⟩ := h.got p v hp
    exact ⟨j, y, by omega, h2⟩
  · by_cases e : j = k
    · subst e; rw [hx] at hy; cases hy; exact ht
    · exact h.tk j y (by omega) hy
  · by_cases e : p = k
    · subst e; exact hm v hv
    · exact h.met p (by omega) v hv
theorem MInv.stepG {l : List In} {k : Nat} {L : List (Int × Int)} {x : In} (h : MInv l k L) (hT : Tos l) (hx : l[k]? = some x) (ht : Vx.tk x ≤ hAt l k) (hm : ∀ v, lk L (k : Int) = some v → v = hAt l k) (hg : isG x) (ha : ∀ v, lk L x.to = some v → v = hAt l k + 1) : MInv l (k + 1) (upL L x.to (hAt l k + 1)) := by
  have t := hT k x hx hg
  refine ⟨fun j y hj hy hgy => ?_, fun p v hp => ?_, fun j y hj hy => ?_, fun p hp v hv => ?_⟩
  · rw [lk_up]
    by_cases e : j = k
    · subst e; rw [hx] at hy; cases hy; rw [if_pos rfl]
    · have := h.set j y (by omega) hy hgy
      by_cases e2 : y.to = x.to
      · rw [if_pos e2]
        rw [e2] at this
        rw [ha _ this]
      · rw [if_neg e2]; exact this
  · rw [lk_up] at hp
    by_cases e : p = x.to
    · rw [if_pos e] at hp
      exact ⟨k, x, by omega, hx, hg, e.symm, (Option.some.inj hp).symm⟩
    · rw [if_neg e] at hp
      obtain ⟨j, y, h1, h2⟩ := h.got p v hp
      exact ⟨j, y, by omega, h2⟩
  · by_cases e : j = k
    · subst e; rw [hx] at hy; cases hy; exact ht
    · exact h.tk j y (by omega) hy
  · rw [lk_up, if_neg (by omega)] at hv
    by_cases e : p = k
    · subst e; exact hm v hv
    · exact h.met p (by omega) v hv
theorem not_tk {l : List In} {k : Nat} {x : In} (hx : l[k]? = some x) (h : hAt l k < tk x) : ¬ WellV l := fun hw => by
  have := hw.tk k x hx
  omega
theorem MInv.not_met {l : List In} {k : Nat} {L : List (Int × Int)} (h : MInv l k L) {p : Nat} {v : Int} (hp : lk L (p : Int) = some v) (hv : v ≠ hAt l p) : ¬ WellV l := fun hw => by
  obtain ⟨j, x, _, hj, hg, ht, rfl⟩ := h.got _ _ hp
  have := hw.to j x hj hg
  rw [ht] at this
  simp at this
  exact hv this.symm
theorem MInv.not_two {l : List In} {k : Nat} {L : List (Int × Int)} {x : In} (h : MInv l k L) (hx : l[k]? = some x) (hg : isG x) {v : Int} (hp : lk L x.to = some v) (hv : v ≠ hAt l k + 1) : ¬ WellV l := fun hw => by
  obtain ⟨j, y, _, hj, hgy, ht, rfl⟩ := h.got _ _ hp
  have h1 := hw.to j y hj hgy
  have h2 := hw.to k x hx hg
  rw [ht] at h1
  exact hv (h1.symm.trans h2)
theorem MInv.fin {l : List In} {L : List (Int × Int)} (h : MInv l l.length L) (hT : Tos l) : (hAt l l.length = 1 ∧ ∀ v, lk L (l.length : Int) = some v → v = hAt l l.length) ↔ WellV l := by
  constructor
  · rintro ⟨h1, h2⟩
    refine ⟨fun j x hj => h.tk j x (List.getElem?_eq_some_iff.1 hj).1 hj, fun j x hj hg => ?_, h1⟩
    have t := hT j x hj hg
    have hs := h.set j x (List.getElem?_eq_some_iff.1 hj).1 hj hg
    have e : x.to = (x.to.toNat : Int) := by omega
    rw [e] at hs
    by_cases hl : x.to.toNat < l.length
    · exact (h.met _ hl _ hs).symm
    · have e2 : x.to.toNat = l.length := by omega
      rw [e2] at hs ⊢
      exact (h2 _ hs).symm
  · intro hw
    refine ⟨hw.fin, fun v hv => ?_⟩
    exact Classical.byContradiction fun hne => h.not_met hv hne hw
/-- What is known ahead of a place, with a row of heights, none of which is below -1. -/
structure UInv (l : List In) (k : Nat) (A : Nat → Int) : Prop where
  cur : A k = hAt l k
  pos : ∀ j, j ≤ k → 0 ≤ hAt l j
  set : ∀ (j : Nat) (x : In), j < k → l[j]? = some x → isG x → (k : Int) < x.to → A x.to.toNat = hAt l j + 1
  got : ∀ p : Nat, k < p → p ≤ l.length → A p = -1 ∨ ∃ (j : Nat) (x : In), j < k ∧ l[j]? = some x ∧ isG x ∧ x.to = (p : Int) ∧ A p = hAt l j + 1
  tk : ∀ (j : Nat) (x : In), j < k → l[j]? = some x → tk x ≤ hAt l j
  met : ∀ (j : Nat) (x : In), j < k → l[j]? = some x → isG x → x.to ≤ k → hAt l x.to.toNat = hAt l j + 1
def setA (A : Nat → Int) (p : Nat) (v : Int) : Nat → Int := fun q => if q = p then v else A q
theorem UInv.nil (l : List In) : UInv l 0 (setA (fun _ => -1) 0 0) :=
  ⟨by simp [setA, hAt], fun j h => by rw [show j = 0 by omega]; exact Int.le_refl _, fun j x h => by omega, fun p h _ => .inl (by simp only [setA]; rw [if_neg (by omega)]), fun j x h => by omega, fun j x h => by omega⟩
theorem eff_pos {x : In} {h : Int} (ht : tk x ≤ h) (hp : 0 ≤ h) : 0 ≤ h + eff x := by
  unfold tk at ht
  unfold eff
  by_cases h1 : x.op = 1 ∨ x.op = 8
  · rw [if_pos h1]; omega
  · rw [if_neg h1]
    by_cases h2 : x.op = 2 ∨ x.op = 3 ∨ x.op = 4
    · rw [if_pos h2]
      rw [if_neg (by omega), if_pos h2] at ht
      omega
    · rw [if_neg h2]; omega
/-- The height of the next place, where what was said of it ahead is the same. -/
theorem UInv.next {l : List In} {k : Nat} {A B : Nat → Int} {x : In} (h : UInv l k A) (hx : l[k]? = some x) (ht : Vx.tk x ≤ hAt l k) (hn : B (k + 1) < 0 ∨ B (k + 1) = hAt l (k + 1))
    (hs : ∀ (j : Nat) (y : In), j < k + 1 → l[j]? = some y → isG y → (k : Int) < y.to → B y.to.toNat = hAt l j + 1)
    (hg : ∀ p : Nat, k < p → p ≤ l.length → B p = -1 ∨ ∃ (j : Nat) (y : In), j < k + 1 ∧ l[j]? = some y ∧ isG y ∧ y.to = (p : Int) ∧ B p = hAt l j + 1)
    (h2 : isG x → (k : Int) + 2 ≤ x.to) : UInv l (k + 1) (setA B (k + 1) (hAt l (k + 1))) := by
  have hpos : ∀ j, j ≤ k + 1 → 0 ≤ hAt l j := fun j hj => by
    by_cases e : j = k + 1
    · rw [e, hAt_step hx]; exact eff_pos ht (h.pos k (Nat.le_refl _))
    · exact h.pos j (by omega)
  refine ⟨by simp [setA], hpos, fun j y hj hy hgy ht' => ?_, fun p hp hl => ?_, fun j y hj hy => ?_, fun j y hj hy hgy hty => ?_⟩
  · have := hs j y hj hy hgy (by omega)
    simp only [setA]
    rw [if_neg (by omega)]
    exact this
  · simp only [setA]
    rw [if_neg (by omega)]
    exact hg p (by omega) hl
  · by_cases e : j = k
    · subst e; rw [hx] at hy; cases hy; exact ht
    · exact h.tk j y (by omega) hy
  · by_cases e2 : y.to ≤ k
    · by_cases e : j = k
      · subst e; rw [hx] at hy; cases hy
        have := h2 hgy
        omega
      · exact h.met j y (by omega) hy hgy e2
    · have e3 : y.to.toNat = k + 1 := by omega
      have hs' := hs j y hj hy hgy (by omega)
      rw [e3] at hs' ⊢
      have := hpos j (by omega)
      omega
theorem UInv.step {l : List In} {k : Nat} {A : Nat → Int} {x : In} (h : UInv l k A) (hx : l[k]? = some x) (ht : Vx.tk x ≤ hAt l k) (hg : ¬ isG x) (hn : A (k + 1) < 0 ∨ A (k + 1) = hAt l (k + 1)) : UInv l (k + 1) (setA A (k + 1) (hAt l (k + 1))) := by
  refine h.next hx ht hn (fun j y hj hy hgy ht' => ?_) (fun p hp hl => ?_) (fun e => absurd e hg)
  · by_cases e : j = k
    · subst e; rw [hx] at hy; cases hy; exact absurd hgy hg
    · exact h.set j y (by omega) hy hgy ht'
  · rcases h.got p hp hl with h1 | ⟨j, y, h1, h2⟩
    · exact .inl h1
    · exact .inr ⟨j, y, by omega, h2⟩
theorem UInv.stepG {l : List In} {k : Nat} {A : Nat → Int} {x : In} (h : UInv l k A) (hx : l[k]? = some x) (ht : Vx.tk x ≤ hAt l k) (hg : isG x) (hto : (k : Int) + 2 ≤ x.to) (ha : A x.to.toNat < 0 ∨ A x.to.toNat = hAt l k + 1) (hn : A (k + 1) < 0 ∨ A (k + 1) = hAt l (k + 1)) : UInv l (k + 1) (setA (setA A x.to.toNat (hAt l k + 1)) (k + 1) (hAt l (k + 1))) := by
  have e1 : setA A x.to.toNat (hAt l k + 1) (k + 1) = A (k + 1) := by simp only [setA]; rw [if_neg (by omega)]
  refine h.next hx ht (by rw [e1]; exact hn) (fun j y hj hy hgy ht' => ?_) (fun p hp hl => ?_) (fun _ => hto)
  · simp only [setA]
    by_cases e : j = k
    · subst e; rw [hx] at hy; cases hy; rw [if_pos rfl]
    · have := h.set j y (by omega) hy hgy ht'
      by_cases e2 : y.to.toNat = x.to.toNat
      · rw [if_pos e2]
        rw [e2] at this
        have := h.pos j (by omega)
        omega
      · rw [if_neg e2]; exact this
  · simp only [setA]
    by_cases e2 : p = x.to.toNat
    · rw [if_pos e2]
      exact .inr ⟨k, x, by omega, hx, hg, by omega, rfl⟩
    · rw [if_neg e2]
      rcases h.got p hp hl with h1 | ⟨j, y, h1, h2⟩
      · exact .inl h1
      · exact .inr ⟨j, y, by omega, h2⟩
theorem UInv.not_met {l : List In} {k : Nat} {A : Nat → Int} (h : UInv l k A) (hk : k + 1 ≤ l.length) (h0 : 0 ≤ A (k + 1)) (hv : A (k + 1) ≠ hAt l (k + 1)) : ¬ WellV l := fun hw => by
  rcases h.got (k + 1) (by omega) hk with h1 | ⟨j, x, _, hj, hg, ht, hA⟩
  · omega
  · have := hw.to j x hj hg
    rw [ht] at this
    simp only [Int.toNat_natCast] at this
    omega
theorem UInv.not_two {l : List In} {k : Nat} {A : Nat → Int} {x : In} (h : UInv l k A) (hx : l[k]? = some x) (hg : isG x) (hto : (k : Int) + 2 ≤ x.to ∧ x.to ≤ l.length) (h0 : 0 ≤ A x.to.toNat) (hv : A x.to.toNat ≠ hAt l k + 1) : ¬ WellV l := fun hw => by
  rcases h.got x.to.toNat (by omega) (by omega) with h1 | ⟨j, y, _, hj, hgy, ht, hA⟩
  · omega
  · have h1 := hw.to j y hj hgy
    have h2 := hw.to k x hx hg
    rw [ht] at h1
    simp only [Int.toNat_natCast] at h1
    omega
theorem UInv.fin {l : List In} {A : Nat → Int} (h : UInv l l.length A) (hT : Tos l) : A l.length = 1 ↔ WellV l := by
  constructor
  · intro h1
    refine ⟨fun j x hj => h.tk j x (List.getElem?_eq_some_iff.1 hj).1 hj, fun j x hj hg => ?_, by rw [← h.cur]; exact h1⟩
    exact h.met j x (List.getElem?_eq_some_iff.1 hj).1 hj hg (hT j x hj hg).2
  · intro hw
    rw [h.cur]; exact hw.fin
/-- How high it grows, so far. -/
structure TInv (cs : List Cd) (l : List In) (k : Nat) (top : Int) : Prop where
  lo : mxH cs l k ≤ top
  hi : WellV l → top ≤ mxH cs l l.length
theorem TInv.nil (cs : List Cd) (l : List In) : TInv cs l 0 0 := ⟨Int.le_refl _, fun _ => Int.le_trans (by show (0 : Int) ≤ hAt l 0; exact Int.le_refl _) (hAt_top (cs := cs) (Nat.zero_le _))⟩
theorem TInv.fin {cs : List Cd} {l : List In} {top : Int} (h : TInv cs l l.length top) (hw : WellV l) : top = mxH cs l l.length := by
  have := h.lo
  have := h.hi hw
  omega
theorem TInv.step {cs : List Cd} {l : List In} {k : Nat} {top : Int} {x : In} (h : TInv cs l k top) (hx : l[k]? = some x) (h8 : x.op ≠ 8) : TInv cs l (k + 1) (max top (max (hAt l k) (hAt l (k + 1)))) := by
  have hk := (List.getElem?_eq_some_iff.1 hx).1
  have a := hAt_top (cs := cs) (l := l) (j := k) (n := l.length) (by omega)
  have b := hAt_top (cs := cs) (l := l) (j := k + 1) (n := l.length) (by omega)
  refine ⟨?_, fun hw => ?_⟩
  · rw [mxH_step hx, if_neg h8]
    have := h.lo
    omega
  · have := h.hi hw
    omega
theorem TInv.stepC {cs : List Cd} {l : List In} {k : Nat} {top : Int} {x : In} (h : TInv cs l k top) (hx : l[k]? = some x) (h8 : x.op = 8) : TInv cs l (k + 1) (max (max top (hAt l k + (cs.getD x.a.toNat cd0).high)) (max (hAt l k) (hAt l (k + 1)))) := by
  have hk := (List.getElem?_eq_some_iff.1 hx).1
  have a := hAt_top (cs := cs) (l := l) (j := k) (n := l.length) (by omega)
  have b := hAt_top (cs := cs) (l := l) (j := k + 1) (n := l.length) (by omega)
  have c := call_top (cs := cs) hx hk h8
  refine ⟨?_, fun hw => ?_⟩
  · rw [mxH_step hx, if_pos h8]
    have := h.lo
    omega
  · have := h.hi hw
    omega
theorem TInv.stepG {cs : List Cd} {l : List In} {k : Nat} {top : Int} {x : In} (h : TInv cs l k top) (hx : l[k]? = some x) (hg : isG x) (hto : 0 ≤ x.to ∧ x.to ≤ l.length) : TInv cs l (k + 1) (max (max top (hAt l k + 1)) (max (hAt l k) (hAt l (k + 1)))) := by
  have hk := (List.getElem?_eq_some_iff.1 hx).1
  have a := hAt_top (cs := cs) (l := l) (j := k) (n := l.length) (by omega)
  have b := hAt_top (cs := cs) (l := l) (j := k + 1) (n := l.length) (by omega)
  refine ⟨?_, fun hw => ?_⟩
  · rw [mxH_step hx, if_neg (by unfold isG at hg; omega)]
    have := h.lo
    omega
  · have := h.hi hw
    have := hw.to k x hx hg
    have := hAt_top (cs := cs) (l := l) (j := x.to.toNat) (n := l.length) (by omega)
    omega
end Vx

/- How the machine runs, plainly. -/
namespace Vx

abbrev M := Nat → Bool
def spM (l : List (Int × Int)) : M := fun i => l.any fun s => decide (s.1 ≤ (i : Int)) && decide ((i : Int) < s.2) && decide (i < 1440)
def unM (f g : M) : M := fun i => (f i || g i) && decide (i < 1440)
def dfM (f g : M) : M := fun i => (f i && !g i) && decide (i < 1440)
def boM (f g : M) : M := fun i => (f i && g i) && decide (i < 1440)
def shM (f : M) (x : Int) : M := fun t => decide (t < 1440) && (decide (x ≤ (t : Int)) && (decide ((t : Int) - x < 1440) && f ((t : Int) - x).toNat))
def noM : M := fun _ => false
def pop1 (F : M → M) (S : List M) : List M := match S.reverse with
  | g :: T => T.reverse ++ [F g]
  | [] => []
def pop2 (F : M → M → M) (S : List M) : List M := match S.reverse with
  | g :: f :: T => T.reverse ++ [F f g]
  | _ => []
theorem pop1_eq (F : M → M) (T : List M) (g : M) : pop1 F (T ++ [g]) = T ++ [F g] := by simp [pop1]
theorem pop2_eq (F : M → M → M) (T : List M) (f g : M) : pop2 F (T ++ [f, g]) = T ++ [F f g] := by simp [pop2]
theorem last1 {S : List M} (h : 1 ≤ S.length) : ∃ T g, S = T ++ [g] := by
  rcases List.eq_nil_or_concat S with rfl | ⟨T, g, rfl⟩
  · simp at h
  · exact ⟨T, g, by simp⟩
theorem last2 {S : List M} (h : 2 ≤ S.length) : ∃ T f g, S = T ++ [f, g] := by
  obtain ⟨T, g, rfl⟩ := last1 (S := S) (by omega)
  obtain ⟨U, f, rfl⟩ := last1 (S := T) (by simp at h; omega)
  exact ⟨U, f, g, by simp⟩
/-- Where the machine is, what lies on its stack of this rule, how many steps it took. -/
structure St where
  k : Nat
  S : List M
  n : Nat
section
variable (wk : Int → Bool) (day : Int)
def onD (x : In) : Bool := if x.op = 6 then wk x.a else decide (x.a ≤ day) && decide (day ≤ x.b)
def stepV (ev : Nat → M × Nat) (x : In) (s : St) : St :=
  if x.op = 1 then ⟨s.k + 1, s.S ++ [spM x.sp], s.n + 1⟩
  else if x.op = 2 then ⟨s.k + 1, pop2 unM s.S, s.n + 1⟩
  else if x.op = 3 then ⟨s.k + 1, pop2 dfM s.S, s.n + 1⟩
  else if x.op = 4 then ⟨s.k + 1, pop2 boM s.S, s.n + 1⟩
  else if x.op = 5 then ⟨s.k + 1, pop1 (fun f => shM f x.a) s.S, s.n + 1⟩
  else if x.op = 8 then ⟨s.k + 1, s.S ++ [(ev x.a.toNat).1], s.n + 1 + (ev x.a.toNat).2⟩
  else if onD wk day x = true then ⟨s.k + 1, s.S, s.n + 1⟩
  else ⟨x.to.toNat, s.S ++ [noM], s.n + 1⟩
def goV (ev : Nat → M × Nat) (l : List In) : Nat → St → St
  | 0, s => s
  | f + 1, s => match l[s.k]? with
    | none => s
    | some x => goV ev l f (stepV wk day ev x s)
def runV (ev : Nat → M × Nat) (l : List In) (s : St) : St := goV wk day ev l (l.length - s.k) s
def evV (cs : List Cd) : Nat → Nat → M × Nat
  | 0, _ => (noM, 0)
  | d + 1, r => ((runV wk day (evV cs d) (cs.getD r cd0).ins ⟨0, [], 0⟩).S.getD 0 noM, (runV wk day (evV cs d) (cs.getD r cd0).ins ⟨0, [], 0⟩).n)
end
/-- What is so at each place of a rule's code. -/
structure SInv (cs : List Cd) (l : List In) (s : St) : Prop where
  le : s.k ≤ l.length
  hi : (s.S.length : Int) = hAt l s.k
  st : (s.n : Int) ≤ stS cs l s.k
  on : s.k = 0 ∨ 1 ≤ s.n
variable {wk : Int → Bool} {day : Int} {ev : Nat → M × Nat} {cs : List Cd} {l : List In}
theorem SInv.nil : SInv cs l ⟨0, [], 0⟩ := ⟨Nat.zero_le _, by simp [hAt], by simp [stS], .inl rfl⟩
theorem stS_mono (h0 : ∀ i, 0 ≤ (cs.getD i cd0).steps) {j k : Nat} (h : j ≤ k) : stS cs l j ≤ stS cs l k := by
  obtain ⟨d, rfl⟩ := Nat.exists_eq_add_of_le h
  clear h
  induction d with
  | zero => exact Int.le_refl _
  | succ d ih =>
    refine Int.le_trans ih ?_
    show stS cs l (j + d) ≤ stS cs l ((j + d) + 1)
    simp only [stS]
    have := h0 (l.getD (j + d) in0).a.toNat
    split <;> omega
/-- The kinds that there are. -/
theorem ins_kinds {x : In} {k n r : Nat} (h : insE x k n r = 0) : x.op = 1 ∨ x.op = 2 ∨ x.op = 3 ∨ x.op = 4 ∨ x.op = 5 ∨ x.op = 8 ∨ isG x := by
  unfold insE at h
  unfold isG
  split at h
  · omega
  split at h
  · omega
  split at h
  · omega
  split at h
  · omega
  split at h
  · omega
  split at h
  · omega
  · simp at h
theorem SInv.step {s : St} {x : In} {r : Nat} (hs : SInv cs l s) (hw : WellV l) (hx : l[s.k]? = some x) (hi : insE x s.k l.length r = 0) (h0 : ∀ i, 0 ≤ (cs.getD i cd0).steps)
    (hev : x.op = 8 → ((ev x.a.toNat).2 : Int) ≤ (cs.getD x.a.toNat cd0).steps) : SInv cs l (stepV wk day ev x s) ∧ s.k < (stepV wk day ev x s).k := by
  have hk := (List.getElem?_eq_some_iff.1 hx).1
  have htk := hw.tk _ _ hx
  have hst := stS_step (cs := cs) hx
  have hht := hAt_step hx
  have a1 := hs.hi
  have a2 := hs.st
  rcases ins_kinds hi with ho | ho | ho | ho | ho | ho | ho
  · have e : stepV wk day ev x s = ⟨s.k + 1, s.S ++ [spM x.sp], s.n + 1⟩ := by simp [stepV, ho]
    rw [e]
    have : eff x = 1 := by simp [eff, ho]
    rw [if_neg (by omega)] at hst
    refine ⟨⟨by dsimp only; omega, ?_, ?_, .inr (by dsimp only; omega)⟩, by dsimp only; omega⟩
    · dsimp only; rw [List.length_append]; simp; omega
    · dsimp only; omega
  · have e : stepV wk day ev x s = ⟨s.k + 1, pop2 unM s.S, s.n + 1⟩ := by simp [stepV, ho]
    rw [e]
    have h1 : eff x = -1 := by simp [eff, ho]
    have h2 : tk x = 2 := by simp [tk, ho]
    obtain ⟨T, f, g, hS⟩ := last2 (S := s.S) (by omega)
    rw [if_neg (by omega)] at hst
    rw [hS] at a1
    simp at a1
    refine ⟨⟨by dsimp only; omega, ?_, ?_, .inr (by dsimp only; omega)⟩, by dsimp only; omega⟩
    · dsimp only; rw [hS, pop2_eq]; simp; omega
    · dsimp only; omega
  · have e : stepV wk day ev x s = ⟨s.k + 1, pop2 dfM s.S, s.n + 1⟩ := by simp [stepV, ho]
    rw [e]
    have h1 : eff x = -1 := by simp [eff, ho]
    have h2 : tk x = 2 := by simp [tk, ho]
    obtain ⟨T, f, g, hS⟩ := last2 (S := s.S) (by omega)
    rw [if_neg (by omega)] at hst
    rw [hS] at a1
    simp at a1
    refine ⟨⟨by dsimp only; omega, ?_, ?_, .inr (by dsimp only; omega)⟩, by dsimp only; omega⟩
    · dsimp only; rw [hS, pop2_eq]; simp; omega
    · dsimp only; omega
  · have e : stepV wk day ev x s = ⟨s.k + 1, pop2 boM s.S, s.n + 1⟩ := by simp [stepV, ho]
    rw [e]
    have h1 : eff x = -1 := by simp [eff, ho]
    have h2 : tk x = 2 := by simp [tk, ho]
    obtain ⟨T, f, g, hS⟩ := last2 (S := s.S) (by omega)
    rw [if_neg (by omega)] at hst
    rw [hS] at a1
    simp at a1
    refine ⟨⟨by dsimp only; omega, ?_, ?_, .inr (by dsimp only; omega)⟩, by dsimp only; omega⟩
    · dsimp only; rw [hS, pop2_eq]; simp; omega
    · dsimp only; omega
  · have e : stepV wk day ev x s = ⟨s.k + 1, pop1 (fun f => shM f x.a) s.S, s.n + 1⟩ := by simp [stepV, ho]
    rw [e]
    have h1 : eff x = 0 := by simp [eff, ho]
    have h2 : tk x = 1 := by simp [tk, ho]
    obtain ⟨T, g, hS⟩ := last1 (S := s.S) (by omega)
    rw [if_neg (by omega)] at hst
    rw [hS] at a1
    simp at a1
    refine ⟨⟨by dsimp only; omega, ?_, ?_, .inr (by dsimp only; omega)⟩, by dsimp only; omega⟩
    · dsimp only; rw [hS, pop1_eq]; simp; omega
    · dsimp only; omega
  · have e : stepV wk day ev x s = ⟨s.k + 1, s.S ++ [(ev x.a.toNat).1], s.n + 1 + (ev x.a.toNat).2⟩ := by simp [stepV, ho]
    rw [e]
    have h1 : eff x = 1 := by simp [eff, ho]
    have h3 := hev ho
    rw [if_pos ho] at hst
    refine ⟨⟨by dsimp only; omega, ?_, ?_, .inr (by dsimp only; omega)⟩, by dsimp only; omega⟩
    · dsimp only; rw [List.length_append]; simp; omega
    · dsimp only; omega
  · have hto := ins_to hi ho
    have hgt := hw.to _ _ hx ho
    have hs8 : ¬ x.op = 8 := by unfold isG at ho; omega
    rw [if_neg hs8] at hst
    have he : eff x = 0 := by
      unfold eff
      unfold isG at ho
      rw [if_neg (by omega), if_neg (by omega)]
    by_cases hd : onD wk day x = true
    · have e : stepV wk day ev x s = ⟨s.k + 1, s.S, s.n + 1⟩ := by
        unfold isG at ho
        unfold stepV
        rw [if_neg (by omega), if_neg (by omega), if_neg (by omega), if_neg (by omega), if_neg (by omega), if_neg (by omega), if_pos hd]
      rw [e]
      refine ⟨⟨by dsimp only; omega, ?_, ?_, .inr (by dsimp only; omega)⟩, by dsimp only; omega⟩
      · dsimp only; omega
      · dsimp only; omega
    · have e : stepV wk day ev x s = ⟨x.to.toNat, s.S ++ [noM], s.n + 1⟩ := by
        unfold isG at ho
        unfold stepV
        rw [if_neg (by omega), if_neg (by omega), if_neg (by omega), if_neg (by omega), if_neg (by omega), if_neg (by omega), if_neg hd]
      rw [e]
      have := stS_mono (l := l) h0 (show s.k + 1 ≤ x.to.toNat by omega)
      refine ⟨⟨by dsimp only; omega, ?_, ?_, .inr (by dsimp only; omega)⟩, by dsimp only; omega⟩
      · dsimp only; rw [List.length_append]; simp; omega
      · dsimp only; omega
theorem runV_end {s : St} (h : s.k = l.length) : runV wk day ev l s = s := by
  unfold runV
  rw [show l.length - s.k = 0 by omega]
  rfl
/-- Places only rise. -/
def Up (wk : Int → Bool) (day : Int) (ev : Nat → M × Nat) (l : List In) : Prop := ∀ s x, l[s.k]? = some x → s.k < (stepV wk day ev x s).k
theorem goV_more (hu : Up wk day ev l) : ∀ (f : Nat) (s : St), l.length - s.k ≤ f → goV wk day ev l f s = goV wk day ev l (l.length - s.k) s
  | 0, s, h => by rw [show l.length - s.k = 0 by omega]
  | f + 1, s, h => by
    cases hx : l[s.k]? with
    | none =>
      have : l.length ≤ s.k := List.getElem?_eq_none_iff.1 hx
      rw [show l.length - s.k = 0 by omega]
      simp [goV, hx]
    | some x =>
      have hk := (List.getElem?_eq_some_iff.1 hx).1
      obtain ⟨m, hm⟩ : ∃ m, l.length - s.k = m + 1 := ⟨l.length - s.k - 1, by omega⟩
      have hu1 := hu s x hx
      rw [hm]
      simp only [goV, hx]
      rw [goV_more hu f _ (by omega), goV_more hu m _ (by omega)]
theorem runV_step (hu : Up wk day ev l) {s : St} {x : In} (hx : l[s.k]? = some x) : runV wk day ev l s = runV wk day ev l (stepV wk day ev x s) := by
  have hk := (List.getElem?_eq_some_iff.1 hx).1
  obtain ⟨m, hm⟩ : ∃ m, l.length - s.k = m + 1 := ⟨l.length - s.k - 1, by omega⟩
  have hu1 := hu s x hx
  unfold runV
  rw [hm]
  simp only [goV, hx]
  rw [goV_more hu m _ (by omega)]
theorem up_of {r : Nat} (hi : ∀ (j : Nat) (x : In), l[j]? = some x → insE x j l.length r = 0) : Up wk day ev l := fun s x hx => by
  rcases ins_kinds (hi _ _ hx) with ho | ho | ho | ho | ho | ho | ho
  · simp [stepV, ho]
  · simp [stepV, ho]
  · simp [stepV, ho]
  · simp [stepV, ho]
  · simp [stepV, ho]
  · simp [stepV, ho]
  · have hto := ins_to (hi _ _ hx) ho
    unfold isG at ho
    unfold stepV
    rw [if_neg (by omega), if_neg (by omega), if_neg (by omega), if_neg (by omega), if_neg (by omega), if_neg (by omega)]
    split
    · dsimp only; omega
    · dsimp only; omega
/-- To the end. -/
theorem SInv.run {r : Nat} (hw : WellV l) (hi : ∀ (j : Nat) (x : In), l[j]? = some x → insE x j l.length r = 0) (h0 : ∀ i, 0 ≤ (cs.getD i cd0).steps)
    (hev : ∀ (j : Nat) (x : In), l[j]? = some x → x.op = 8 → ((ev x.a.toNat).2 : Int) ≤ (cs.getD x.a.toNat cd0).steps) : ∀ (f : Nat) (s : St), l.length - s.k ≤ f → SInv cs l s → SInv cs l (runV wk day ev l s) ∧ (runV wk day ev l s).k = l.length
  | f, s, hf, hs => by
    have hu : Up wk day ev l := up_of hi
    cases hx : l[s.k]? with
    | none =>
      have h1 : l.length ≤ s.k := List.getElem?_eq_none_iff.1 hx
      have h2 := hs.le
      rw [runV_end (by omega)]
      exact ⟨hs, by omega⟩
    | some x =>
      have hk := (List.getElem?_eq_some_iff.1 hx).1
      obtain ⟨h1, h2⟩ := hs.step (wk := wk) (day := day) (ev := ev) hw hx (hi _ _ hx) h0 (hev _ _ hx)
      rw [runV_step hu hx]
      cases f with
      | zero => omega
      | succ f => exact SInv.run hw hi h0 hev f _ (by omega) h1
theorem Right.steps0 (h : Right cs) (i : Nat) : 0 ≤ (cs.getD i cd0).steps := by
  cases hi : cs[i]? with
  | none => simp [List.getD, hi, cd0]
  | some c =>
    rw [cd_at hi]
    have := (alone_ins (h.alone i c hi)).2.1
    omega
theorem Right.call (h : Right cs) {i : Nat} {c : Cd} (hc : cs[i]? = some c) {j : Nat} {x : In} (hx : c.ins[j]? = some x) (ho : x.op = 8) : x.a.toNat < cs.length ∧ (x.a.toNat : Int) = x.a ∧ rk (callE cs) cs.length x.a.toNat < rk (callE cs) cs.length i := by
  have h1 := ins_call ((alone_ins (h.alone i c hc)).2.2 j x hx) ho
  have h2 : x.a.toNat < cs.length := by omega
  refine ⟨h2, by omega, rk_less h2 ?_ (h.cyc _ h2)⟩
  unfold callE
  rw [cd_at hc, List.any_eq_true]
  exact ⟨x, List.mem_of_getElem? hx, by simp [ho]; omega⟩
/-- Each rule's code leaves one mask, in one step at least, and no more than it says. -/
theorem Right.run (h : Right cs) : ∀ (d i : Nat) (c : Cd), cs[i]? = some c → rk (callE cs) cs.length i < d →
    1 ≤ (evV wk day cs d i).2 ∧ ((evV wk day cs d i).2 : Int) ≤ c.steps ∧ SInv cs c.ins (runV wk day (evV wk day cs (d - 1)) c.ins ⟨0, [], 0⟩) ∧ (runV wk day (evV wk day cs (d - 1)) c.ins ⟨0, [], 0⟩).k = c.ins.length ∧ (runV wk day (evV wk day cs (d - 1)) c.ins ⟨0, [], 0⟩).S = [(evV wk day cs d i).1] ∧ (runV wk day (evV wk day cs (d - 1)) c.ins ⟨0, [], 0⟩).n = (evV wk day cs d i).2
  | 0, _, _, _, hd => by omega
  | d + 1, i, c, hc, hd => by
    have ha := alone_ins (h.alone i c hc)
    have hf := h.fit i c hc
    have hrun := SInv.run (wk := wk) (day := day) (ev := evV wk day cs d) (cs := cs) hf.well ha.2.2 h.steps0 (fun j x hx ho => by
      obtain ⟨h1, _, h3⟩ := h.call hc hx ho
      have hg : cs[x.a.toNat]? = some cs[x.a.toNat] := List.getElem?_eq_getElem h1
      rw [cd_at hg]
      exact (h.run d _ _ hg (by omega)).2.1) c.ins.length ⟨0, [], 0⟩ (by simp) SInv.nil
    rw [Nat.add_sub_cancel]
    have e2 : evV wk day cs (d + 1) i = ((runV wk day (evV wk day cs d) c.ins ⟨0, [], 0⟩).S.getD 0 noM, (runV wk day (evV wk day cs d) c.ins ⟨0, [], 0⟩).n) := by
      rw [evV, cd_at hc]
    rw [e2]
    dsimp only
    generalize runV wk day (evV wk day cs d) c.ins ⟨0, [], 0⟩ = R at *
    obtain ⟨hI, hk⟩ := hrun
    have h1 := hI.hi
    have h2 := hI.st
    rw [hk] at h1 h2
    rw [hf.well.fin] at h1
    rw [hf.steps] at h2
    have h3 := hI.on
    refine ⟨by omega, h2, hI, hk, ?_, rfl⟩
    obtain ⟨T, g, hS⟩ := last1 (S := R.S) (by omega)
    rw [hS] at h1 ⊢
    have hT : T = [] := by
      apply List.eq_nil_of_length_eq_zero
      simp at h1
      omega
    subst hT
    simp
end Vx
