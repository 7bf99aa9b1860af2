/-
  Plain facts about the spans of a mask, that speak of no program: minute by minute, and span by span.
-/
import Derived.Test.YtemdkpjdbciemaaDoorPlain
namespace Msk

/-- The spans of the minutes ahead of n. -/
def rs (f : Nat → Bool) : Nat → List (Int × Int)
  | 0 => []
  | n + 1 => if f n then (if n ≠ 0 ∧ f (n - 1) = true then (rs f n).dropLast ++ [(((rs f n).getLastD (0, 0)).1, (n : Int) + 1)] else rs f n ++ [((n : Int), (n : Int) + 1)]) else rs f n

theorem rs_skip (f : Nat → Bool) (n : Nat) : ∀ k, (∀ i, n ≤ i → i < n + k → f i = false) → rs f (n + k) = rs f n
  | 0, _ => rfl
  | k + 1, h => by
    have ih := rs_skip f n k fun i a b => h i a (by omega)
    have e : f (n + k) = false := h _ (by omega) (by omega)
    rw [← Nat.add_assoc, rs, ih, e]; simp
theorem rs_run (f : Nat → Bool) (a : Nat) (h0 : a = 0 ∨ f (a - 1) = false) : ∀ k, (∀ i, a ≤ i → i < a + (k + 1) → f i = true) → rs f (a + (k + 1)) = rs f a ++ [((a : Int), ((a + (k + 1) : Nat) : Int))]
  | 0, h => by
    have e : f a = true := h a (by omega) (by omega)
    rw [Nat.zero_add, rs, e]
    have : ¬ (a ≠ 0 ∧ f (a - 1) = true) := by
      rintro ⟨h1, h2⟩
      rcases h0 with h0 | h0
      · exact h1 h0
      · rw [h0] at h2; cases h2
    rw [if_pos rfl, if_neg this]
    simp
  | k + 1, h => by
    have ih := rs_run f a h0 k fun i x y => h i x (by omega)
    have e : f (a + (k + 1)) = true := h _ (by omega) (by omega)
    have e2 : f (a + (k + 1) - 1) = true := h _ (by omega) (by omega)
    rw [← Nat.add_assoc a (k + 1) 1, rs, ih, e, if_pos rfl, if_pos ⟨by omega, e2⟩]
    simp
/-- One span behind the minutes ahead of p, that are no longer a span's. -/
theorem rs_next (f : Nat → Bool) (p a b : Nat) (h1 : p ≤ a) (h2 : a < b) (hp : p = 0 ∨ f p = false) (hno : ∀ i, p ≤ i → i < a → f i = false) (hyes : ∀ i, a ≤ i → i < b → f i = true) :
    rs f b = rs f p ++ [((a : Int), (b : Int))] := by
  have e1 : rs f a = rs f p := by
    have := rs_skip f p (a - p) fun i x y => hno i x (by omega)
    rw [Nat.add_sub_cancel' h1] at this; exact this
  have h0 : a = 0 ∨ f (a - 1) = false := by
    by_cases ha : a = 0
    · exact .inl ha
    · right
      by_cases hpa : p = a
      · subst hpa
        rcases hp with hp | hp
        · exact absurd hp ha
        · have := hyes p (by omega) h2; rw [hp] at this; cases this
      · exact hno _ (by omega) (by omega)
  obtain ⟨k, rfl⟩ : ∃ k, b = a + (k + 1) := ⟨b - a - 1, by omega⟩
  rw [rs_run f a h0 k hyes, e1]
theorem rs_end (f : Nat → Bool) (p n : Nat) (h : p ≤ n) (hno : ∀ i, p ≤ i → i < n → f i = false) : rs f n = rs f p := by
  have := rs_skip f p (n - p) fun i x y => hno i x (by omega)
  rw [Nat.add_sub_cancel' h] at this; exact this
theorem rs_ext {f g : Nat → Bool} : ∀ {n : Nat}, (∀ i, i < n → f i = g i) → rs f n = rs g n
  | 0, _ => rfl
  | n + 1, h => by
    have ih := rs_ext (n := n) fun i hi => h i (by omega)
    have e1 := h n (by omega)
    by_cases hn : n = 0
    · subst hn; simp [rs, e1]
    · have e2 := h (n - 1) (by omega)
      simp only [rs, ih, e1, e2]

/-- Spans that rise, have minutes, and do not touch, behind one minute and up to another. -/
def good (last : Int) (n : Int) : List (Int × Int) → Prop
  | [] => True
  | s :: l => last < s.1 ∧ s.1 < s.2 ∧ s.2 ≤ n ∧ good s.2 n l
/-- Where the last one ends. -/
def endOf (last : Int) : List (Int × Int) → Int
  | [] => last
  | s :: l => endOf s.2 l
theorem good_snoc (n a b : Int) (hb : b ≤ n) (hab : a < b) : ∀ (l : List (Int × Int)) (last : Int), good last n l → endOf last l < a → good last n (l ++ [(a, b)])
  | [], _, _, h => ⟨h, hab, hb, trivial⟩
  | s :: l, _, ⟨h1, h2, h3, h4⟩, h => ⟨h1, h2, h3, good_snoc n a b hb hab l s.2 h4 h⟩
theorem endOf_snoc (a b : Int) : ∀ (l : List (Int × Int)) (last : Int), endOf last (l ++ [(a, b)]) = b
  | [], _ => rfl
  | _ :: l, _ => endOf_snoc a b l _
theorem good_mono (n m : Int) (h : n ≤ m) : ∀ (l : List (Int × Int)) (last : Int), good last n l → good last m l
  | [], _, _ => trivial
  | _ :: l, _, ⟨h1, h2, h3, h4⟩ => ⟨h1, h2, Int.le_trans h3 h, good_mono n m h l _ h4⟩
/-- How many minutes spans have. -/
def len : List (Int × Int) → Int
  | [] => 0
  | s :: l => (s.2 - s.1) + len l
theorem len_snoc (a b : Int) : ∀ l : List (Int × Int), len (l ++ [(a, b)]) = len l + (b - a)
  | [] => by simp [len]
  | s :: l => by have := len_snoc a b l; simp only [List.cons_append, len, this]; omega
/-- What is said of the spans ahead of n, at a minute that is not within a span. -/
structure Runs (f : Nat → Bool) (n : Nat) (l : List (Int × Int)) : Prop where
  good : good (-1) n l
  last : endOf (-1) l ≤ n
  many : len l = Msk.cnt f n
  has : ∀ i, i < n → (l.any fun s => decide (s.1 ≤ (i : Int)) && decide ((i : Int) < s.2)) = f i
  few : l.length ≤ n
theorem Runs.zero (f : Nat → Bool) : Runs f 0 [] := ⟨trivial, by simp [endOf], by simp [len, Msk.cnt], fun i hi => by omega, by simp⟩
theorem Runs.skip {f : Nat → Bool} {n : Nat} {l : List (Int × Int)} (h : Runs f n l) (m : Nat) (hm : n ≤ m) (hno : ∀ i, n ≤ i → i < m → f i = false) : Runs f m l := by
  refine ⟨good_mono _ _ (by omega) _ _ h.good, by have := h.last; omega, ?_, ?_, by have := h.few; omega⟩
  · have e : m = n + (m - n) := by omega
    rw [h.many, e, cnt_add, cnt_false (f := fun j => f (n + j)) fun j hj => hno _ (by omega) (by omega)]
    rfl
  · intro i hi
    by_cases hin : i < n
    · exact h.has i hin
    · rw [hno i (by omega) hi]
      have hg := h.good
      have key : ∀ (l : List (Int × Int)) (last : Int), Msk.good last n l → (l.any fun s => decide (s.1 ≤ (i : Int)) && decide ((i : Int) < s.2)) = false := by
        intro l
        induction l with
        | nil => intro _ _; rfl
        | cons s l ih =>
          intro last hl
          obtain ⟨h1, h2, h3, h4⟩ := hl
          have : ¬ (i : Int) < s.2 := by omega
          simp [ih _ h4, this]
      exact key l _ hg
theorem Runs.run {f : Nat → Bool} {a : Nat} {l : List (Int × Int)} (h : Runs f a l) (ha : endOf (-1) l < a) (b : Nat) (hab : a < b) (hyes : ∀ i, a ≤ i → i < b → f i = true) : Runs f b (l ++ [((a : Int), (b : Int))]) := by
  refine ⟨good_snoc _ _ _ (by omega) (by omega) _ _ (good_mono _ _ (by omega) _ _ h.good) ha, by rw [endOf_snoc]; omega, ?_, ?_, ?_⟩
  · have e : b = a + (b - a) := by omega
    have q : cnt f b = cnt f a + (b - a) := by
      rw [e, cnt_add, cnt_true (f := fun j => f (a + j)) fun j hj => hyes _ (by omega) (by omega)]
      omega
    rw [len_snoc, h.many, q]
    omega
  · intro i hi
    rw [List.any_append]
    by_cases hia : i < a
    · rw [h.has i hia]
      have : ¬ (a : Int) ≤ (i : Int) := by omega
      simp [this]
    · have h1 : (a : Int) ≤ (i : Int) := by omega
      have h2 : (i : Int) < (b : Int) := by omega
      rw [hyes i (by omega) hi]
      simp [h1, h2]
  · have := h.few
    simp only [List.length_append, List.length_cons, List.length_nil]
    omega

/-- What has been seen of a mask ahead of p: all spans that end there or sooner. -/
structure Seen (f : Nat → Bool) (p : Nat) (l : List (Int × Int)) : Prop where
  runs : Runs f p l
  same : l = rs f p
  gap : (p = 0 ∧ l = []) ∨ f p = false ∨ p = 1440
theorem Seen.zero (f : Nat → Bool) : Seen f 0 [] := ⟨Runs.zero f, rfl, .inl ⟨rfl, rfl⟩⟩
theorem Seen.next {f : Nat → Bool} {p : Nat} {l : List (Int × Int)} (h : Seen f p l) (a b : Nat) (h1 : p ≤ a) (h2 : a < b) (h3 : b ≤ 1440) (hno : ∀ i, p ≤ i → i < a → f i = false)
    (hyes : ∀ i, a ≤ i → i < b → f i = true) (hb : b < 1440 → f b = false) : Seen f b (l ++ [((a : Int), (b : Int))]) := by
  have hp0 : p = 0 ∨ f p = false := by
    rcases h.gap with ⟨g, _⟩ | g | g
    · exact .inl g
    · exact .inr g
    · omega
  refine ⟨(h.runs.skip a h1 hno).run ?_ b h2 hyes, by rw [h.same, rs_next f p a b h1 h2 hp0 hno hyes], ?_⟩
  · have hl := h.runs.last
    rcases h.gap with ⟨_, g⟩ | g | g
    · subst g; simp [endOf]; omega
    · have : a ≠ p := fun e => by
        have := hyes a (Nat.le_refl _) h2
        rw [e, g] at this; cases this
      omega
    · omega
  · by_cases h : b = 1440
    · exact .inr (.inr h)
    · exact .inr (.inl (hb (by omega)))
theorem Seen.all {f : Nat → Bool} {p : Nat} {l : List (Int × Int)} (h : Seen f p l) (hp : p ≤ 1440) (hno : ∀ i, p ≤ i → i < 1440 → f i = false) : l = rs f 1440 ∧ Runs f 1440 l :=
  ⟨by rw [h.same, rs_end f p 1440 hp hno], h.runs.skip 1440 hp hno⟩

end Msk
