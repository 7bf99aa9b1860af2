/- The law MaskNext, walked out of the contracts. -/
import Derived.Test.YtlpnkljcgkfnkabDoorAliveA
namespace Go.Proofs.YtlpnkljcgkfnkabDoor
open Go.RowKit Msk

theorem none_hold {f : Nat → Bool} {x n : Int} {p : Nat} (h : NoneTo f x n.toNat p) (h1 : 1 ≤ n) (k : Nat) (hk : x ≤ (k : Int)) (hp : k < p) : holdB f (k : Int) ((k : Int) + n) = false := by
  cases e : holdB f (k : Int) ((k : Int) + n) with
  | false => rfl
  | true =>
    obtain ⟨_, h2, _, h3⟩ := hold_spec e
    exact absurd ⟨by omega, fun i a b => h3 i (by omega) (by omega)⟩ (h k hk hp)
theorem hold_hold {f : Nat → Bool} {n : Int} {q : Nat} (h : Hold f q n.toNat) (h1 : 1 ≤ n) : holdB f (q : Int) ((q : Int) + n) = true :=
  hold_true (by omega) (by have := h.1; omega) (by omega) fun i a b => h.2 i (by omega) (by omega)

set_option maxRecDepth 10000 in
set_option maxHeartbeats 2000000 in
theorem next_walk (f : Nat → Bool) (x n : Int) (w : World) (hT : Tab w) :
    Calls Tryd.prog 5 #[.agg (mv f), .int .i64 x, .int .i64 n] w fun e w' => e = .returned (.bool true) ∧ Below w.heap.size w w' := by
  have hb0 : Below w.heap.size w (w.alloc (.cells (mv f) 24)) := (Below.refl _ _).alloc (Nat.le_refl _) _
  have h0 : (w.alloc (.cells (mv f) 24)).heap[w.heap.size]? = some (.cells (mv f) 24 (0, 0)) := by (repeat (first | refine blk_old _ _ _ (by simp only [size_alloc]; omega) ?_ | exact blk_new _ _ _ (by first | rfl | simp only [size_alloc])))
  have cA := alive_any _ (hT.later hb0)
  by_cases h1 : x < 0 ∨ n < 1 ∨ 1440 < n
  · rcases (show (x < 0) ∨ (0 ≤ x ∧ n < 1) ∨ (0 ≤ x ∧ 1 ≤ n ∧ 1440 < n) from by omega) with h | ⟨h, h'⟩ | ⟨h, h', h''⟩
    all_goals
      clear h1
      go_enter Tryd.func5, Tryd.ntmps5
      go_wp2_with (go_at_call 7; refine cA.mono ?_; rintro e w1 ⟨rfl, hb1⟩)
      go_ret
      exact ⟨rfl, hb0.trans (hb1.mono hb0.size)⟩
  · obtain ⟨k0, rfl⟩ : ∃ k0 : Nat, x = k0 := ⟨x.toNat, by omega⟩
    have h2 : 1 ≤ n := by omega
    have h3 : n ≤ 1440 := by omega
    clear h1
    go_enter Tryd.func5, Tryd.ntmps5
    go_wp2_with (first
      | (go_at_call 7; refine cA.mono ?_; rintro e w1 ⟨rfl, hb1⟩; have hm1 := (hb1.block _ (lt_of_block h0)).trans h0; have hbw1 := hb0.trans (hb1.mono hb0.size); clear cA hb1 h0 hb0)
      | (refine load_g (by rfl) _ (by rfl) _ (by rfl) f (by assumption) ?_)
      | (go_at_call 15; refine (next_any f _ _ _ (hT.later hbw1)).mono ?_; rintro e w2 ⟨⟨v, ok, rfl, hn⟩, hb2⟩; have hm2 := (hb2.block _ (lt_of_block hm1)).trans hm1; have hbw2 := hbw1.trans (hb2.mono hbw1.size); have HN : Hid (NextTells f (k0 : Int) n v ok) := hn; clear hn hb2 hm1 hbw1; cases ok))
    · have HA : Hid (1440 < k0 ∨ NoneTo f (k0 : Int) n.toNat 1440) := by
        rcases HN.out with ⟨h, _, _⟩ | ⟨h, _⟩ | ⟨_, _, _, ⟨_, _, h⟩ | ⟨h, _⟩⟩
        · exact .inl (by omega)
        · omega
        · exact .inr h
        · cases h
      clear HN
      go_loopw [10] (fun i wr => ∃ k : Nat, k0 ≤ k ∧ i = .int .i64 k ∧ wr.heap[w.heap.size]? = some (.cells (mv f) 24 (0, 0)) ∧ Below w.heap.size w wr) (fun i _ => (1440 - intOf i).toNat)
      case atStart => exact ⟨k0, Nat.le_refl _, rfl, hm2, hbw2⟩
      case round =>
        obtain ⟨k, hk, rfl, hm3, hbw3⟩ := hrel
        clear hm2 hbw2
        by_cases hlt : k < 1440
        · have hno : holdB f (k : Int) ((k : Int) + n) = false := by
            rcases HA.out with h | h
            · omega
            · exact none_hold h h2 k (by omega) hlt
          have cH := fun w => holds_any f (k : Int) ((k : Int) + n) w
          rw [hno] at cH
          clear hno
          go_wp2_with (first
            | (refine load_g (by rfl) _ (by rfl) _ (by rfl) f (by assumption) ?_)
            | (go_at_call 16; refine (cH _).mono ?_; rintro e w4 ⟨rfl, hb4⟩))
          go_roundw
          case rel => exact ⟨k + 1, by omega, by go_num, (hb4.block _ (lt_of_block hm3)).trans hm3, hbw3.trans (hb4.mono hbw3.size)⟩
          case measure => simp [intOf]; omega
        · have hge : (1440 : Int) ≤ (k : Int) := by omega
          clear hlt
          go_wp2
          go_ret
          exact ⟨rfl, hbw3⟩
    · obtain ⟨q, hv, hq1, hq2, hq3⟩ : ∃ q : Nat, v = q ∧ (k0 : Int) ≤ (q : Int) ∧ Hold f q n.toNat ∧ NoneTo f (k0 : Int) n.toNat q := by
        rcases HN.out with ⟨_, _, h⟩ | ⟨h, _⟩ | ⟨_, _, _, ⟨_, h, _⟩ | ⟨_, h⟩⟩
        · cases h
        · omega
        · cases h
        · exact h
      subst hv
      have hq4 : q + n.toNat ≤ 1440 := hq2.1
      have hyes := hold_hold hq2 h2
      have HQ : Hid (NoneTo f (k0 : Int) n.toNat q) := hq3
      have cH1 := fun w => holds_any f (q : Int) ((q : Int) + n) w
      rw [hyes] at cH1
      clear HN hq2 hq3 hyes
      go_loopw [10] (fun i wr => ∃ k : Nat, k0 ≤ k ∧ k ≤ q ∧ i = .int .i64 k ∧ wr.heap[w.heap.size]? = some (.cells (mv f) 24 (0, 0)) ∧ Below w.heap.size w wr) (fun i _ => (1440 - intOf i).toNat)
      case atStart => exact ⟨k0, Nat.le_refl _, by omega, rfl, hm2, hbw2⟩
      case round =>
        obtain ⟨k, hk, hkq, rfl, hm3, hbw3⟩ := hrel
        clear hm2 hbw2
        by_cases hlt : k < q
        · have hno := none_hold HQ.out h2 k (by omega) hlt
          have cH := fun w => holds_any f (k : Int) ((k : Int) + n) w
          rw [hno] at cH
          clear hno
          go_wp2_with (first
            | (refine load_g (by rfl) _ (by rfl) _ (by rfl) f (by assumption) ?_)
            | (go_at_call 16; refine (cH _).mono ?_; rintro e w4 ⟨rfl, hb4⟩))
          go_roundw
          case rel => exact ⟨k + 1, by omega, by omega, by go_num, (hb4.block _ (lt_of_block hm3)).trans hm3, hbw3.trans (hb4.mono hbw3.size)⟩
          case measure => simp [intOf]; omega
        · have hge : (q : Int) ≤ (k : Int) := by omega
          clear hlt
          go_wp2_with (first
            | (refine load_g (by rfl) _ (by rfl) _ (by rfl) f (by assumption) ?_)
            | (go_at_call 16; refine (cH1 _).mono ?_; rintro e w4 ⟨rfl, hb4⟩))
          go_ret
          exact ⟨rfl, hbw3.trans (hb4.mono hbw3.size)⟩
end Go.Proofs.YtlpnkljcgkfnkabDoor
