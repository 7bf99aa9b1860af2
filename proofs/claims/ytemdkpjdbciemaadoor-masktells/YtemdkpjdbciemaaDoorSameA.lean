/- What slotref2.Same comes to at two rows of the same spans: true. -/
import Derived.Test.YtemdkpjdbciemaaDoorOfA
import Derived.Laws.StructEq
namespace Go.Proofs.YtemdkpjdbciemaaDoor
open Go.RowKit Msk

theorem eqSpan (a b a' b' : Int) (w : World) : (Op.equalIn 10000 39 (.agg #[.int .i64 a, .int .i64 b]) (.agg #[.int .i64 a', .int .i64 b'])).run Tryd.prog w = .ok (a == a' && b == b') w := by
  rw [run_equalIn_struct w 9999 39 _ _ (by kernel_rfl) (by kernel_rfl)]
  simp [Program.fieldsOf, Tryd.underlying39, Op.eqFields]
  go_simp
  by_cases h1 : a = a' <;> by_cases h2 : b = b' <;> simp [h1, h2]
theorem neqSpan (a b : Int) (w : World) : (binOp .neq 39 (.agg #[.int .i64 a, .int .i64 b]) (.agg #[.int .i64 a, .int .i64 b])).run Tryd.prog w = .ok (.bool false) w := by
  rw [run_neq_struct, eqSpan]; simp [Result.andThen]
attribute [local go_sem] neqSpan

theorem Row.form {w : World} {v : Value} {l : List (Int × Int)} (h : Row w v l) : ∃ p c, v = .slice p l.length c := by
  rcases h with ⟨c, h, rfl⟩ | ⟨g, o, c, h, _⟩
  · exact ⟨none, c, h⟩
  · exact ⟨_, c, h⟩

set_option maxHeartbeats 1000000 in
theorem same_true (v v' : Value) (l : List (Int × Int)) (w : World) (h : Row w v l) (h' : Row w v' l) :
    Calls Tryd.prog 24 #[v, v'] w fun e w' => e = .returned (.bool true) ∧ Below w.heap.size w w' := by
  by_cases hl : l = []
  · subst hl
    obtain ⟨p, c, rfl⟩ := h.form
    obtain ⟨p', c', rfl⟩ := h'.form
    clear h h'
    go_enter Tryd.func24, Tryd.ntmps24
    go_wp2
    refine wp_loop_rounds 1 ?_
    rw [rounds_succ]
    go_wp2
    go_ret
    exact ⟨rfl, Below.refl _ _⟩
  · rcases h with ⟨_, _, h⟩ | ⟨g, o, c, rfl, hlen, hc⟩
    · exact absurd h hl
    rcases h' with ⟨_, _, h⟩ | ⟨g', o', c', rfl, _, hc'⟩
    · exact absurd h hl
    have HC : Hid (∀ j, j < l.length → w.cell? ⟨g, o + j * 2, none⟩ = some (.int .i64 (l.getD j (0, 0)).1) ∧ w.cell? ⟨g, o + j * 2 + 1, none⟩ = some (.int .i64 (l.getD j (0, 0)).2)) := hc
    have HC' : Hid (∀ j, j < l.length → w.cell? ⟨g', o' + j * 2, none⟩ = some (.int .i64 (l.getD j (0, 0)).1) ∧ w.cell? ⟨g', o' + j * 2 + 1, none⟩ = some (.int .i64 (l.getD j (0, 0)).2)) := hc'
    clear hc hc' hl
    go_enter Tryd.func24, Tryd.ntmps24
    go_wp2
    go_loopw [13] (fun i wr => ∃ k : Nat, k ≤ l.length ∧ i = .int .i64 k ∧ Below w.heap.size w wr) (fun i _ => l.length - (intOf i).toNat)
    case atStart => exact ⟨0, Nat.zero_le _, rfl, Below.refl _ _⟩
    case round =>
      obtain ⟨k, hk, rfl, hbel⟩ := hrel
      by_cases hlt : k < l.length
      · obtain ⟨c1, c2⟩ := HC.out k hlt
        obtain ⟨c3, c4⟩ := HC'.out k hlt
        have d1 := (hbel.cell (block_lt_of_cell c1)).trans c1
        have d2 := (hbel.cell (block_lt_of_cell c2)).trans c2
        have d3 := (hbel.cell (block_lt_of_cell c3)).trans c3
        have d4 := (hbel.cell (block_lt_of_cell c4)).trans c4
        generalize l.getD k (0, 0) = s at d1 d2 d3 d4
        obtain ⟨x, y⟩ := s
        dsimp only at d1 d2 d3 d4
        have hi0 : (0 : Int) ≤ (k : Int) := by omega
        have hi1 : (k : Int) < (l.length : Int) := by omega
        clear c1 c2 c3 c4
        go_wp2
        go_quiet (fail)
        go_wp2
        go_roundw
        case rel => exact ⟨k + 1, by omega, by go_num, below_drewN hbel _⟩
        case measure => simp [intOf]; omega
      · have hkl : k = l.length := by omega
        subst hkl
        go_wp2
        go_ret
        exact ⟨rfl, hbel⟩
end Go.Proofs.YtemdkpjdbciemaaDoor
