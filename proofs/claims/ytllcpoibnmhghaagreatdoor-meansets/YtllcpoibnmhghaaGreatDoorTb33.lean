/- What the laws' own question of check comes to: true. -/
import Derived.Test.YtllcpoibnmhghaaGreatDoorTb24
import Derived.Test.YtllcpoibnmhghaaGreatDoorTb32
import Derived.Test.YtllcpoibnmhghaaGreatDoorTb14
import Derived.Test.YtllcpoibnmhghaaGreatDoorTb25
import Derived.Test.YtllcpoibnmhghaaGreatDoorTb26
import Derived.Test.YtllcpoibnmhghaaGreatDoorTb04
import Derived.Test.YtllcpoibnmhghaaGreatDoorTb29
namespace Go.Proofs.YtllcpoibnmhghaaGreatDoor
open Go.RowKit Lx

/-- The names of a tree are not too long. -/
def NmK : Nat → List Ex → Prop
  | 0, _ => True
  | d + 1, ks => ∀ (j : Nat) (k : Ex), ks[j]? = some k → k.name.length ≤ 9223372036854775807 ∧ NmK d k.kids
theorem nmk_nil : ∀ d, NmK d []
  | 0 => trivial
  | d + 1 => fun j k h => by simp at h
theorem nmk_cons {k : Ex} {ks : List Ex} (h1 : k.name.length ≤ 9223372036854775807) (h2 : ∀ d, NmK d k.kids) (h3 : ∀ d, NmK d ks) : ∀ d, NmK d (k :: ks)
  | 0 => trivial
  | d + 1 => fun j q h => by
    cases j with
    | zero =>
      simp at h
      subst h
      exact ⟨h1, h2 d⟩
    | succ j => exact h3 (d + 1) j q (by simpa using h)
theorem kidsK_of_at {B : Nat → Prop} : ∀ {d : Nat} {w : World} {sl : Value} {ks : List Ex}, KidsAt B d w sl ks → NmK d ks → KidsB (fun k => k < w.heap.size) d w sl ks
  | 0, _, _, _, h, _ => h
  | d + 1, w, sl, ks, h, hn => by
    rcases h with h | ⟨g, o, c, hB, hs, hl, hk⟩
    · exact .inl h
    · by_cases h0 : ks = []
      · subst h0
        exact .inl ⟨rfl, _, c, hs⟩
      · obtain ⟨k0, hk0⟩ : ∃ k, ks[0]? = some k := by
          cases ks with
          | nil => exact absurd rfl h0
          | cons x l => exact ⟨x, rfl⟩
        obtain ⟨_, q0, _⟩ := hk 0 k0 hk0
        refine .inr ⟨g, o, c, block_lt_of_cell q0, hs, hl, fun j k hj => ?_⟩
        obtain ⟨sk, c0, c1, c2, c3, c4, r⟩ := hk j k hj
        obtain ⟨n1, n2⟩ := hn j k hj
        exact ⟨n1, sk, c0, c1, c2, c3, c4, kidsK_of_at r n2⟩
/-- Rules whose names are not too long. -/
def NmR (L : List Ru) : Prop := ∀ p ∈ L, p.1.length ≤ 9223372036854775807 ∧ p.2.name.length ≤ 9223372036854775807 ∧ ∀ d, NmK d p.2.kids
/-- Rules that were made, as rules that come in. -/
theorem inR_of_made {w0 w : World} {v : Value} {us : List (Ru × Value)} (h : RowR w0 w v us) (hl : us.length ≤ 40) (hn : NmR (us.map (fun p => p.1))) : InR w v us := by
  refine ⟨rrow_of_owns h.own (by omega), by omega, fun p hp => ?_⟩
  obtain ⟨d, hd⟩ := h.kids p hp
  obtain ⟨n1, n2, n3⟩ := hn p.1 (List.mem_map.2 ⟨p, hp, rfl⟩)
  exact ⟨n1, n2, d, kidsK_of_at hd (n3 d)⟩
theorem tells_of {s : List UInt8} {n : Nat} {T : List Tk} {L : List Ru} (hit : iterN s n = some (T, s.length)) (hr : rulesR s.length (T.length + 1) [] T = .ok L) (h6 : s.length ≤ 6000) {w0 w : World} {v : Value} {er at_ : Int} (h : PTells s w0 w v er at_) : er = 0 ∧ ∃ us, us.map (fun p => p.1) = L ∧ us.length ≤ 40 ∧ RowR w0 w v us := by
  have hk : ¬ (s.length < s.length ∧ (firstT (s.drop s.length)).err = 0) := fun h => absurd h.1 (by omega)
  have hx : Lexed s T s.length := ⟨n, hit⟩
  rcases h with ⟨h, _⟩ | ⟨ts, k, _, h2, h3, h4, _⟩ | ⟨ts, k, er', at', _, h2, h3, h4, _⟩ | ⟨ts, k, us, _, h2, h3, h4, h5, h6', h7, _⟩
  · omega
  · obtain ⟨_, e⟩ := lexed_one hx h2 hk (fun h => h4 h.2)
    omega
  · obtain ⟨e, _⟩ := lexed_one hx h2 hk (fun h => h3 h.1)
    subst e
    rw [hr] at h4; cases h4
  · obtain ⟨e, _⟩ := lexed_one hx h2 hk (fun h => h3 h.1)
    subst e
    rw [hr] at h4
    exact ⟨h7, us, (Except.ok.inj h4).symm, h5, h6'⟩
def OutRu (L : List Ru) (w : World) (e : Ending) (w' : World) : Prop := ∃ v us, e = .returned v ∧ us.map (fun p => p.1) = L ∧ InR w' v us ∧ Below w.heap.size w w'
theorem a5_names : NmR a5L := fun p hp => by
  simp only [a5L, List.mem_cons, List.not_mem_nil, or_false] at hp
  rcases hp with rfl | rfl | rfl
  · exact ⟨by decide, by decide, nmk_cons (by decide) nmk_nil (nmk_cons (by decide) nmk_nil nmk_nil)⟩
  · exact ⟨by decide, by decide, nmk_nil⟩
  · exact ⟨by decide, by decide, nmk_nil⟩
theorem b5_names : NmR b5L := fun p hp => by
  simp only [b5L, List.mem_cons, List.not_mem_nil, or_false] at hp
  subst hp
  exact ⟨by decide, by decide, nmk_nil⟩
/-- The tables stand, and will. -/
def PT2 (w : World) : Prop := ∀ w', Below w.heap.size w w' → CTab w' ∧ DTab w'
end Go.Proofs.YtllcpoibnmhghaaGreatDoor

/- What masks.first comes to: the first minute that a mask has, from one on. -/
namespace Go.Proofs.YtllcpoibnmhghaaGreatDoor
open Go.RowKit Msk

/-- The first minute from one on, up to the day's end. -/
def FirstAt (f : Nat → Bool) (p r : Nat) : Prop := p ≤ r ∧ r ≤ 1440 ∧ (∀ i, p ≤ i → i < r → f i = false) ∧ (r < 1440 → f r = true)

theorem shr_zero (f : Nat → Bool) (k q r x : Nat) (hq : q = k / 64) (hr : r = k % 64) (hx : x = wd f q / 2 ^ r) (h0 : x = 0) : ∀ i, k ≤ i → i < 64 * q + 64 → f i = false := by
  intro i h1 h2
  have hb : (wd f q / 2 ^ r).testBit (i - k) = f i := by
    rw [shr_bit, wd_bit]
    have e1 : 64 * q + (i - k + r) = i := by omega
    have e2 : i - k + r < 64 := by omega
    simp [e1, e2]
  rw [← hx, h0] at hb
  simpa using hb.symm
theorem shr_some (f : Nat → Bool) (k q r x t : Nat) (hq : q = k / 64) (hr : r = k % 64) (hx : x = wd f q / 2 ^ r) (h1 : x.testBit t = true) (h2 : ∀ j, j < t → x.testBit j = false) :
    f (k + t) = true ∧ k + t < 64 * q + 64 ∧ ∀ i, k ≤ i → i < k + t → f i = false := by
  subst hx
  have hb : ∀ j, (wd f q / 2 ^ r).testBit j = (decide (j + r < 64) && f (k + j)) := by
    intro j
    rw [shr_bit, wd_bit]
    have e1 : 64 * q + (j + r) = k + j := by omega
    rw [e1]
  rw [hb] at h1
  simp only [Bool.and_eq_true, decide_eq_true_eq] at h1
  refine ⟨h1.2, by omega, fun i a b => ?_⟩
  have := h2 (i - k) (by omega)
  rw [hb] at this
  have e2 : i - k + r < 64 := by omega
  have e3 : k + (i - k) = i := by omega
  simpa [e2, e3] using this

end Go.Proofs.YtllcpoibnmhghaaGreatDoor

/-
  Plain facts about the spans of a mask, that speak of no program: minute by minute, and span by span.
-/
namespace Msk

/-- The spans of the minutes ahead of n. -/
def rs (f : Nat → Bool) : Nat → List (Int × Int)
  | 0 => []
  | n + 1 => if f n then (if n ≠ 0 ∧ f (n - 1) = true then (rs f n).dropLast ++ [(((rs f n).getLastD (0, 0)).1, (n : Int) + 1)] else rs f n ++ [((n : Int), (n : Int) + 1)]) else rs f n

theorem rs_skip (f : Nat → Bool) (n : Nat) : ∀ k, (∀ i, n ≤ i → i < n + k → f i = false) → rs f (n + k) = rs f n
  | 0, _ => rfl
  | k + 1, h => by
    have ih := rs_skip f n k fun i a b => h i a (by omega)
    have e : f (n + k) = false := h _ (by omega) (by omega)
    rw [← Nat.add_assoc, rs, ih, e]; simp
theorem rs_run (f : Nat → Bool) (a : Nat) (h0 : a = 0 ∨ f (a - 1) = false) : ∀ k, (∀ i, a ≤ i → i < a + (k + 1) → f i = true) → rs f (a + (k + 1)) = rs f a ++ [((a : Int), ((a + (k + 1) : Nat) : Int))]
  | 0, h => by
    have e : f a = true := h a (by omega) (by omega)
    rw [Nat.zero_add, rs, e]
    have : ¬ (a ≠ 0 ∧ f (a - 1) = true) := by
      rintro ⟨h1, h2⟩
      rcases h0 with h0 | h0
      · exact h1 h0
      · rw [h0] at h2; cases h2
    rw [if_pos rfl, if_neg this]
    simp
  | k + 1, h => by
    have ih := rs_run f a h0 k fun i x y => h i x (by omega)
    have e : f (a + (k + 1)) = true := h _ (by omega) (by omega)
    have e2 : f (a + (k + 1) - 1) = true := h _ (by omega) (by omega)
    rw [← Nat.add_assoc a (k + 1) 1, rs, ih, e, if_pos rfl, if_pos ⟨by omega, e2⟩]
    simp
/-- One span behind the minutes ahead of p, that are no longer a span's. -/
theorem rs_next (f : Nat → Bool) (p a b : Nat) (h1 : p ≤ a) (h2 : a < b) (hp : p = 0 ∨ f p = false) (hno : ∀ i, p ≤ i → i < a → f i = false) (hyes : ∀ i, a ≤ i → i < b → f i = true) :
    rs f b = rs f p ++ [((a : Int), (b : Int))] := by
  have e1 : rs f a = rs f p := by
    have := rs_skip f p (a - p) fun i x y => hno i x (by omega)
    rw [Nat.add_sub_cancel' h1] at this; exact this
  have h0 : a = 0 ∨ f (a - 1) = false := by
    by_cases ha : a = 0
    · exact .inl ha
    · right
      by_cases hpa : p = a
      · subst hpa
        rcases hp with hp | hp
        · exact absurd hp ha
        · have := hyes p (by omega) h2; rw [hp] at this; cases this
      · exact hno _ (by omega) (by omega)
  obtain ⟨k, rfl⟩ : ∃ k, b = a + (k + 1) := ⟨b - a - 1, by omega⟩
  rw [rs_run f a h0 k hyes, e1]
theorem rs_end (f : Nat → Bool) (p n : Nat) (h : p ≤ n) (hno : ∀ i, p ≤ i → i < n → f i = false) : rs f n = rs f p := by
  have := rs_skip f p (n - p) fun i x y => hno i x (by omega)
  rw [Nat.add_sub_cancel' h] at this; exact this
theorem rs_ext {f g : Nat → Bool} : ∀ {n : Nat}, (∀ i, i < n → f i = g i) → rs f n = rs g n
  | 0, _ => rfl
  | n + 1, h => by
    have ih := rs_ext (n := n) fun i hi => h i (by omega)
    have e1 := h n (by omega)
    by_cases hn : n = 0
    · subst hn; simp [rs, e1]
    · have e2 := h (n - 1) (by omega)
      simp only [rs, ih, e1, e2]

/-- Spans that rise, have minutes, and do not touch, behind one minute and up to another. -/
def good (last : Int) (n : Int) : List (Int × Int) → Prop
  | [] => True
  | s :: l => last < s.1 ∧ s.1 < s.2 ∧ s.2 ≤ n ∧ good s.2 n l
/-- Where the last one ends. -/
def endOf (last : Int) : List (Int × Int) → Int
  | [] => last
  | s :: l => endOf s.2 l
theorem good_snoc (n a b : Int) (hb : b ≤ n) (hab : a < b) : ∀ (l : List (Int × Int)) (last : Int), good last n l → endOf last l < a → good last n (l ++ [(a, b)])
  | [], _, _, h => ⟨h, hab, hb, trivial⟩
  | s :: l, _, ⟨h1, h2, h3, h4⟩, h => ⟨h1, h2, h3, good_snoc n a b hb hab l s.2 h4 h⟩
theorem endOf_snoc (a b : Int) : ∀ (l : List (Int × Int)) (last : Int), endOf last (l ++ [(a, b)]) = b
  | [], _ => rfl
  | _ :: l, _ => endOf_snoc a b l _
theorem good_mono (n m : Int) (h : n ≤ m) : ∀ (l : List (Int × Int)) (last : Int), good last n l → good last m l
  | [], _, _ => trivial
  | _ :: l, _, ⟨h1, h2, h3, h4⟩ => ⟨h1, h2, Int.le_trans h3 h, good_mono n m h l _ h4⟩
/-- How many minutes spans have. -/
def len : List (Int × Int) → Int
  | [] => 0
  | s :: l => (s.2 - s.1) + len l
theorem len_snoc (a b : Int) : ∀ l : List (Int × Int), len (l ++ [(a, b)]) = len l + (b - a)
  | [] => by simp [len]
  | s :: l => by have := len_snoc a b l; simp only [List.cons_append, len, this]; omega
/-- What is said of the spans ahead of n, at a minute that is not within a span. -/
structure Runs (f : Nat → Bool) (n : Nat) (l : List (Int × Int)) : Prop where
  good : good (-1) n l
  last : endOf (-1) l ≤ n
  many : len l = Msk.cnt f n
  has : ∀ i, i < n → (l.any fun s => decide (s.1 ≤ (i : Int)) && decide ((i : Int) < s.2)) = f i
  few : l.length ≤ n
theorem Runs.zero (f : Nat → Bool) : Runs f 0 [] := ⟨trivial, by simp [endOf], by simp [len, Msk.cnt], fun i hi => by omega, by simp⟩
theorem Runs.skip {f : Nat → Bool} {n : Nat} {l : List (Int × Int)} (h : Runs f n l) (m : Nat) (hm : n ≤ m) (hno : ∀ i, n ≤ i → i < m → f i = false) : Runs f m l := by
  refine ⟨good_mono _ _ (by omega) _ _ h.good, by have := h.last; omega, ?_, ?_, by have := h.few; omega⟩
  · have e : m = n + (m - n) := by omega
    rw [h.many, e, cnt_add, cnt_false (f := fun j => f (n + j)) fun j hj => hno _ (by omega) (by omega)]
    rfl
  · intro i hi
    by_cases hin : i < n
    · exact h.has i hin
    · rw [hno i (by omega) hi]
      have hg := h.good
      have key : ∀ (l : List (Int × Int)) (last : Int), Msk.good last n l → (l.any fun s => decide (s.1 ≤ (i : Int)) && decide ((i : Int) < s.2)) = false := by
        intro l
        induction l with
        | nil => intro _ _; rfl
        | cons s l ih =>
          intro last hl
          obtain ⟨h1, h2, h3, h4⟩ := hl
          have : ¬ (i : Int) < s.2 := by omega
          simp [ih _ h4, this]
      exact key l _ hg
theorem Runs.run {f : Nat → Bool} {a : Nat} {l : List (Int × Int)} (h : Runs f a l) (ha : endOf (-1) l < a) (b : Nat) (hab : a < b) (hyes : ∀ i, a ≤ i → i < b → f i = true) : Runs f b (l ++ [((a : Int), (b : Int))]) := by
  refine ⟨good_snoc _ _ _ (by omega) (by omega) _ _ (good_mono _ _ (by omega) _ _ h.good) ha, by rw [endOf_snoc]; omega, ?_, ?_, ?_⟩
  · have e : b = a + (b - a) := by omega
    have q : cnt f b = cnt f a + (b - a) := by
      rw [e, cnt_add, cnt_true (f := fun j => f (a + j)) fun j hj => hyes _ (by omega) (by omega)]
      omega
    rw [len_snoc, h.many, q]
    omega
  · intro i hi
    rw [List.any_append]
    by_cases hia : i < a
    · rw [h.has i hia]
      have : ¬ (a : Int) ≤ (i : Int) := by omega
      simp [this]
    · have h1 : (a : Int) ≤ (i : Int) := by omega
      have h2 : (i : Int) < (b : Int) := by omega
      rw [hyes i (by omega) hi]
      simp [h1, h2]
  · have := h.few
    simp only [List.length_append, List.length_cons, List.length_nil]
    omega

/-- What has been seen of a mask ahead of p: all spans that end there or sooner. -/
structure Seen (f : Nat → Bool) (p : Nat) (l : List (Int × Int)) : Prop where
  runs : Runs f p l
  same : l = rs f p
  gap : (p = 0 ∧ l = []) ∨ f p = false ∨ p = 1440
theorem Seen.zero (f : Nat → Bool) : Seen f 0 [] := ⟨Runs.zero f, rfl, .inl ⟨rfl, rfl⟩⟩
theorem Seen.next {f : Nat → Bool} {p : Nat} {l : List (Int × Int)} (h : Seen f p l) (a b : Nat) (h1 : p ≤ a) (h2 : a < b) (h3 : b ≤ 1440) (hno : ∀ i, p ≤ i → i < a → f i = false)
    (hyes : ∀ i, a ≤ i → i < b → f i = true) (hb : b < 1440 → f b = false) : Seen f b (l ++ [((a : Int), (b : Int))]) := by
  have hp0 : p = 0 ∨ f p = false := by
    rcases h.gap with ⟨g, _⟩ | g | g
    · exact .inl g
    · exact .inr g
    · omega
  refine ⟨(h.runs.skip a h1 hno).run ?_ b h2 hyes, by rw [h.same, rs_next f p a b h1 h2 hp0 hno hyes], ?_⟩
  · have hl := h.runs.last
    rcases h.gap with ⟨_, g⟩ | g | g
    · subst g; simp [endOf]; omega
    · have : a ≠ p := fun e => by
        have := hyes a (Nat.le_refl _) h2
        rw [e, g] at this; cases this
      omega
    · omega
  · by_cases h : b = 1440
    · exact .inr (.inr h)
    · exact .inr (.inl (hb (by omega)))
theorem Seen.all {f : Nat → Bool} {p : Nat} {l : List (Int × Int)} (h : Seen f p l) (hp : p ≤ 1440) (hno : ∀ i, p ≤ i → i < 1440 → f i = false) : l = rs f 1440 ∧ Runs f 1440 l :=
  ⟨by rw [h.same, rs_end f p 1440 hp hno], h.runs.skip 1440 hp hno⟩

end Msk

/- The flow law, as the later texts have it. -/

/- What masks.visitRuns comes to, whatever function it is handed. -/
namespace Go.Proofs.YtllcpoibnmhghaaGreatDoor
open Go.RowKit Msk

/-- Masks in blocks from B on are as they were; no block has gone. -/
def Above (B : Nat) (w w' : World) : Prop := w.heap.size ≤ w'.heap.size ∧ ∀ k c, B ≤ k → w.heap[k]? = some (.cells c 29 (0, 0)) → w'.heap[k]? = some (.cells c 29 (0, 0))

theorem inl_day : mv (inl [((0 : Int), (1440 : Int))]) = mv fun i => decide (i < 1440) := mv_ext fun i _ => by
  have : ((i : Int) < 1440) = (i < 1440) := by apply propext; omega
  simp [inl, this]

theorem row_at {W : World} {g : Nat} {x y : Int} {t : TypeId} (hb : W.heap[g]? = some (.cells #[.int .i64 x, .int .i64 y] t (0, 0))) : Row W (.slice (some ⟨g, 0, none⟩) 1 1) [(x, y)] := by
  refine .inr ⟨_, 0, 1, rfl, by simp, fun j hj => ?_⟩
  have : j = 0 := by simpa using hj
  subst this
  exact ⟨by rw [cell_of_row _ _ _ _ _ _ hb]; rfl, by rw [cell_of_row _ _ _ _ _ _ hb]; rfl⟩
theorem row_new (W : World) (g : Nat) (hg : g = W.heap.size) (x y : Int) (t : TypeId) : Row (W.alloc (.cells #[.int .i64 x, .int .i64 y] t)).drew (.slice (some ⟨g, 0, none⟩) 1 1) [(x, y)] := by
  subst hg
  refine .inr ⟨_, 0, 1, rfl, by simp, fun j hj => ?_⟩
  have : j = 0 := by simpa using hj
  subst this
  have hb : (W.alloc (.cells #[.int .i64 x, .int .i64 y] t)).drew.heap[W.heap.size]? = some (.cells #[.int .i64 x, .int .i64 y] t (0, 0)) := heap_alloc_new W _
  exact ⟨by rw [cell_of_row _ _ _ _ _ _ hb]; rfl, by rw [cell_of_row _ _ _ _ _ _ hb]; rfl⟩
/-- What each operation of the region yields. -/
def vsp (B : Nat) (f : Nat → Bool) (i : Nat) (v : Value) (W : World) : Prop := match i with
  | 0 => v = .agg #[.int .i64 0, .int .i64 1440]
  | 1 => ∃ g, v = .slice (some ⟨g, 0, none⟩) 1 1 ∧ W.heap[g]? = some (.cells #[.int .i64 0, .int .i64 1440] 56 (0, 0))
  | 2 => v = .agg (mv fun i => decide (i < 1440))
  | 3 => v = .agg (mv f)
  | 4 => v = .agg (mv fun i => (decide (i < 1440) && !f i) && decide (i < 1440))
  | 5 => ∃ g c, v = .pointer (some ⟨g, 0, none⟩) ∧ B < g ∧ W.heap[g]? = some (.cells (mv c) 29 (0, 0))
  | _ => True
theorem vsp_mono {B : Nat} {f : Nat → Bool} {W W' : World} (hb : Below W.heap.size W W') (i : Nat) (v : Value) (h : vsp B f i v W) : vsp B f i v W' := by
  unfold vsp at *
  split at h
  · exact h
  · obtain ⟨g, h1, h2⟩ := h
    exact ⟨g, h1, (hb.block g (lt_of_block h2)).trans h2⟩
  · exact h
  · exact h
  · exact h
  · obtain ⟨g, c, h1, h2, h3⟩ := h
    exact ⟨g, c, h1, h2, (hb.block g (lt_of_block h3)).trans h3⟩
  · trivial
/-- What is said of the world. -/
structure VJ (B : Nat) (f : Nat → Bool) (W0 : World) (L : Nat → Bool) (a : Act) (W : World) : Prop where
  bel : Below (B + 1) W0 W
  last : L 6 = true → ∀ k, k < 6 → L k = true
  done : L 6 = true → ∃ g, a.tmps.getD 4 undef = .pointer (some ⟨g, 0, none⟩) ∧ B < g ∧ W.heap[g]? = some (.cells (mv fun i => (decide (i < 1440) && !f i) && decide (i < 1440)) 29 (0, 0))

end Go.Proofs.YtllcpoibnmhghaaGreatDoor
