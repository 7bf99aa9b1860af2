/- What slotref2.Next comes to, and that the first place is told one way alone. -/
import Derived.Test.YtemdkpjdbciemaaDoorRefCount
namespace Go.Proofs.YtemdkpjdbciemaaDoor
open Go.RowKit Msk

theorem hold_iff (f : Nat → Bool) (k n : Nat) : holdB f (k : Int) ((k : Int) + (n : Int)) = true ↔ Hold f k n := by
  constructor
  · intro h
    obtain ⟨_, h1, _, h3⟩ := hold_spec h
    exact ⟨by omega, fun i a b => h3 i (by omega) (by omega)⟩
  · intro ⟨h1, h2⟩
    exact hold_true (by omega) (by omega) (by omega) fun i a b => h2 i (by omega) (by omega)
theorem next_one {f : Nat → Bool} {x n v v' : Int} {ok ok' : Bool} (h : NextTells f x n v ok) (h' : NextTells f x n v' ok') : v = v' ∧ ok = ok' := by
  rcases h with ⟨a, rfl, rfl⟩ | ⟨a, a2, rfl, rfl⟩ | ⟨a1, a2, a3, a4⟩
  · rcases h' with ⟨_, rfl, rfl⟩ | ⟨b, b2, b3, b4⟩ | ⟨b1, b2, b3, b4⟩
    · exact ⟨rfl, rfl⟩
    · clear b4; omega
    · clear b4; omega
  · rcases h' with ⟨b, b2, b3⟩ | ⟨_, _, rfl, rfl⟩ | ⟨b1, b2, b3, b4⟩
    · clear b3; omega
    · exact ⟨rfl, rfl⟩
    · clear b4; omega
  · rcases h' with ⟨b, b2, b3⟩ | ⟨b, b2, b3, b4⟩ | ⟨_, _, _, b4⟩
    · clear a4 b3; omega
    · clear a4 b4; omega
    · rcases a4 with ⟨rfl, rfl, a6⟩ | ⟨rfl, q, rfl, c1, c2, c3⟩
      · rcases b4 with ⟨rfl, rfl, _⟩ | ⟨_, q, _, d1, d2, _⟩
        · exact ⟨rfl, rfl⟩
        · exact absurd d2 (a6 q d1 (by have := d2.1; omega))
      · rcases b4 with ⟨_, _, b6⟩ | ⟨rfl, q', rfl, d1, d2, d3⟩
        · exact absurd c2 (b6 q c1 (by have := c2.1; omega))
        · rcases Nat.lt_trichotomy q q' with g | g | g
          · exact absurd c2 (d3 q c1 g)
          · subst g; exact ⟨rfl, rfl⟩
          · exact absurd d2 (c3 q' d1 g)
theorem next_yes {f : Nat → Bool} {x : Int} {m k k0 : Nat} (hk0 : (k0 : Int) = max x 0) (hk : k0 ≤ k) (hm : m ≤ 1440) (hkm : (k : Int) ≤ 1440 - (m : Int)) (hh : Hold f k m) (hn : ∀ q : Nat, x ≤ (q : Int) → q < k → ¬ Hold f q m) : NextTells f x (m : Int) (k : Int) true := by
  by_cases h0 : m = 0
  · subst h0
    have : k = k0 := by
      rcases Nat.lt_or_ge k0 k with g | g
      · exact absurd ⟨by omega, fun i a b => by omega⟩ (hn k0 (by omega) g)
      · omega
    refine .inr (.inl ⟨rfl, by omega, by omega, rfl⟩)
  · refine .inr (.inr ⟨by omega, by omega, by omega, .inr ⟨rfl, k, rfl, by omega, by simpa using hh, ?_⟩⟩)
    intro q hx hq
    simpa using hn q hx hq
theorem next_no {f : Nat → Bool} {x : Int} {m k k0 : Nat} (hk0 : (k0 : Int) = max x 0) (hk : k0 ≤ k) (hm : m ≤ 1440) (hkm : ¬ (k : Int) ≤ 1440 - (m : Int)) (hn : ∀ q : Nat, x ≤ (q : Int) → q < k → ¬ Hold f q m) : NextTells f x (m : Int) 0 false := by
  by_cases hx : 1440 < x
  · exact .inl ⟨.inr (.inr hx), rfl, rfl⟩
  · by_cases h0 : m = 0
    · subst h0
      exact absurd ⟨by omega, fun i a b => by omega⟩ (hn k0 (by omega) (by omega))
    · refine .inr (.inr ⟨by omega, by omega, by omega, .inl ⟨rfl, rfl, ?_⟩⟩)
      intro q h1 h2
      rcases Nat.lt_or_ge q k with g | g
      · simpa using hn q h1 g
      · intro hh
        have := hh.1
        simp at this
        omega

set_option maxRecDepth 10000 in
set_option maxHeartbeats 1000000 in
theorem next_ref (f : Nat → Bool) (x n : Int) (w : World) (hx0 : -9223372036854775808 ≤ x) (hx1 : x ≤ 9223372036854775807) :
    Calls Tryd.prog 21 #[.agg (mv f), .int .i64 x, .int .i64 n] w fun e w' => (∃ v ok, e = .returned (.tuple #[.int .i64 v, .bool ok]) ∧ NextTells f x n v ok) ∧ Below w.heap.size w w' := by
  have hb0 : Below w.heap.size w (w.alloc (.cells (mv f) 37)) := (Below.refl _ _).alloc (Nat.le_refl _) _
  have h1 : (w.alloc (.cells (mv f) 37)).heap[w.heap.size]? = some (.cells (mv f) 37 (0, 0)) := by (repeat (first | refine blk_old _ _ _ (by simp only [size_alloc]; omega) ?_ | exact blk_new _ _ _ (by first | rfl | simp only [size_alloc])))
  by_cases hn : n < 0 ∨ 1440 < n
  · rcases (show n < 0 ∨ (0 ≤ n ∧ 1440 < n) from by omega) with j1 | ⟨j1, j2⟩
    all_goals
      go_enter Tryd.func21, Tryd.ntmps21
      go_wp2
      go_ret2
      exact ⟨⟨0, false, rfl, .inl ⟨by omega, rfl, rfl⟩⟩, hb0⟩
  · obtain ⟨m, rfl⟩ : ∃ m : Nat, n = m := ⟨n.toNat, by omega⟩
    have hm : m ≤ 1440 := by omega
    have i1 : ¬ (m : Int) < 0 := by omega
    have i2 : ¬ 1440 < (m : Int) := by omega
    clear hn
    obtain ⟨k0, hk0⟩ : ∃ k0 : Nat, (k0 : Int) = max x 0 := ⟨(max x 0).toNat, by omega⟩
    have HK : Hid ((k0 : Int) = max x 0) := hk0
    have q1 : IntKind.i64.wrap (1440 - (m : Int)) = 1440 - (m : Int) := by rw [IntKind.wrap_i64]; omega
    rcases (show (x < 0 ∧ k0 = 0) ∨ (0 ≤ x ∧ x = (k0 : Int)) from by omega) with ⟨j1, rfl⟩ | ⟨j1, j2⟩
    all_goals
      clear hk0
      go_enter Tryd.func21, Tryd.ntmps21
      go_wp2
    · go_loopw [8] (fun i wr => ∃ k : Nat, i = .int .i64 k ∧ (k : Int) ≤ 9223372036854775807 ∧ (∀ q : Nat, x ≤ (q : Int) → q < k → ¬ Hold f q m) ∧ wr.heap[w.heap.size]? = some (.cells (mv f) 37 (0, 0)) ∧ Below w.heap.size w wr) (fun i _ => (1442 - intOf i).toNat)
      case atStart => exact ⟨0, rfl, by omega, fun q a b => by omega, h1, hb0⟩
      case round =>
        obtain ⟨k, rfl, hkb, hno, hg, hbel⟩ := hrel
        have HN : Hid (∀ q : Nat, x ≤ (q : Int) → q < k → ¬ Hold f q m) := hno
        clear hno h1 hb0
        by_cases hle : (k : Int) ≤ 1440 - (m : Int)
        · have q2 : IntKind.i64.wrap ((k : Int) + (m : Int)) = (k : Int) + (m : Int) := by rw [IntKind.wrap_i64]; omega
          have hc := fun w => holds_ref f (k : Int) ((k : Int) + (m : Int)) w
          have hi := hold_iff f k m
          cases hb : holdB f (k : Int) ((k : Int) + (m : Int)) with
          | true =>
            rw [hb] at hc hi
            have HH : Hid (Hold f k m) := hi.1 rfl
            clear hi hb
            go_wp2_with (first
              | (refine wpList_load_row rfl 37 _ rfl _ rfl _ _ _ _ hg maskType rfl (maskSize _) ?_)
              | (go_at_call 38; refine (hc _).mono ?_; rintro e w1 ⟨rfl, hb1⟩; have hbel1 := hbel.trans (hb1.mono hbel.size)))
            go_ret2
            exact ⟨⟨k, true, rfl, next_yes HK.out (Nat.zero_le _) hm hle HH.out HN.out⟩, hbel1⟩
          | false =>
            rw [hb] at hc hi
            have HH : Hid (¬ Hold f k m) := fun h => by cases hi.2 h
            clear hi hb
            go_wp2_with (first
              | (refine wpList_load_row rfl 37 _ rfl _ rfl _ _ _ _ hg maskType rfl (maskSize _) ?_)
              | (go_at_call 38; refine (hc _).mono ?_; rintro e w1 ⟨rfl, hb1⟩; have hg1 := (hb1.block _ (lt_of_block hg)).trans hg; have hbel1 := hbel.trans (hb1.mono hbel.size)))
            go_roundw
            case rel =>
              refine ⟨k + 1, by go_num, by omega, fun q a b => ?_, hg1, hbel1⟩
              by_cases e : q = k
              · subst e; exact HH.out
              · exact HN.out q a (by omega)
            case measure => simp [intOf]; omega
        · have HH : Hid (NextTells f x (m : Int) 0 false) := next_no HK.out (Nat.zero_le _) hm hle HN.out
          go_wp2
          go_ret2
          exact ⟨⟨0, .inl ⟨rfl, HH.out⟩⟩, hbel⟩
    · subst j2
      go_loopw [8] (fun i wr => ∃ k : Nat, i = .int .i64 k ∧ k0 ≤ k ∧ (k : Int) ≤ 9223372036854775807 ∧ (∀ q : Nat, (k0 : Int) ≤ (q : Int) → q < k → ¬ Hold f q m) ∧ wr.heap[w.heap.size]? = some (.cells (mv f) 37 (0, 0)) ∧ Below w.heap.size w wr) (fun i _ => (1442 - intOf i).toNat)
      case atStart => exact ⟨k0, rfl, Nat.le_refl _, by omega, fun q a b => by omega, h1, hb0⟩
      case round =>
        obtain ⟨k, rfl, hkk, hkb, hno, hg, hbel⟩ := hrel
        have HN : Hid (∀ q : Nat, (k0 : Int) ≤ (q : Int) → q < k → ¬ Hold f q m) := hno
        clear hno h1 hb0
        by_cases hle : (k : Int) ≤ 1440 - (m : Int)
        · have q2 : IntKind.i64.wrap ((k : Int) + (m : Int)) = (k : Int) + (m : Int) := by rw [IntKind.wrap_i64]; omega
          have hc := fun w => holds_ref f (k : Int) ((k : Int) + (m : Int)) w
          have hi := hold_iff f k m
          cases hb : holdB f (k : Int) ((k : Int) + (m : Int)) with
          | true =>
            rw [hb] at hc hi
            have HH : Hid (Hold f k m) := hi.1 rfl
            clear hi hb
            go_wp2_with (first
              | (refine wpList_load_row rfl 37 _ rfl _ rfl _ _ _ _ hg maskType rfl (maskSize _) ?_)
              | (go_at_call 38; refine (hc _).mono ?_; rintro e w1 ⟨rfl, hb1⟩; have hbel1 := hbel.trans (hb1.mono hbel.size)))
            go_ret2
            exact ⟨⟨k, true, rfl, next_yes HK.out hkk hm hle HH.out HN.out⟩, hbel1⟩
          | false =>
            rw [hb] at hc hi
            have HH : Hid (¬ Hold f k m) := fun h => by cases hi.2 h
            clear hi hb
            go_wp2_with (first
              | (refine wpList_load_row rfl 37 _ rfl _ rfl _ _ _ _ hg maskType rfl (maskSize _) ?_)
              | (go_at_call 38; refine (hc _).mono ?_; rintro e w1 ⟨rfl, hb1⟩; have hg1 := (hb1.block _ (lt_of_block hg)).trans hg; have hbel1 := hbel.trans (hb1.mono hbel.size)))
            go_roundw
            case rel =>
              refine ⟨k + 1, by go_num, by omega, by omega, fun q a b => ?_, hg1, hbel1⟩
              by_cases e : q = k
              · subst e; exact HH.out
              · exact HN.out q a (by omega)
            case measure => simp [intOf]; omega
        · have HH : Hid (NextTells f (k0 : Int) (m : Int) 0 false) := next_no HK.out hkk hm hle HN.out
          go_wp2
          go_ret2
          exact ⟨⟨0, .inl ⟨rfl, HH.out⟩⟩, hbel⟩
end Go.Proofs.YtemdkpjdbciemaaDoor
