/- What slotref3.Same comes to at two rows of the same tokens: true. -/
import Derived.Test.YtkineofpclneaabDoorLexU
import Derived.Laws.StructEq
namespace Go.Proofs.YtkineofpclneaabDoor
open Go.RowKit Lx

/-- A row of tokens in memory. -/
def TRow (w : World) (v : Value) (ts : List (T1 × Nat)) : Prop :=
  (∃ c, v = .slice none 0 c ∧ ts = []) ∨ ∃ g o c : Nat, v = .slice (some ⟨g, o, none⟩) ts.length c ∧ ts.length < 9223372036854775808 ∧ ∀ (j : Nat) (t : T1) (k : Nat), ts[j]? = some (t, k) →
    w.cell? ⟨g, o + j * 4, none⟩ = some (.int .i64 t.kind) ∧ w.cell? ⟨g, o + j * 4 + 1, none⟩ = some (.int .i64 t.n) ∧ w.cell? ⟨g, o + j * 4 + 2, none⟩ = some (.int .i64 (k : Int)) ∧ w.cell? ⟨g, o + j * 4 + 3, none⟩ = some (.string ⟨t.text.toArray⟩)
theorem TRow.form {w : World} {v : Value} {l : List (T1 × Nat)} (h : TRow w v l) : ∃ p c, v = .slice p l.length c := by
  rcases h with ⟨c, h, rfl⟩ | ⟨g, o, c, h, _⟩
  · exact ⟨none, c, h⟩
  · exact ⟨_, c, h⟩
theorem eqTok (a b c : Int) (s : ByteArray) (w : World) : (Op.equalIn 10000 54 (.agg #[.int .i64 a, .int .i64 b, .int .i64 c, .string s]) (.agg #[.int .i64 a, .int .i64 b, .int .i64 c, .string s])).run Tryd.prog w = .ok true w := by
  rw [run_equalIn_struct w 9999 54 _ _ (by kernel_rfl) (by kernel_rfl)]
  simp [Program.fieldsOf, Tryd.underlying54, Op.eqFields]
  go_simp
theorem neqTok (a b c : Int) (s : ByteArray) (w : World) : (binOp .neq 54 (.agg #[.int .i64 a, .int .i64 b, .int .i64 c, .string s]) (.agg #[.int .i64 a, .int .i64 b, .int .i64 c, .string s])).run Tryd.prog w = .ok (.bool false) w := by
  rw [run_neq_struct, eqTok]; simp [Result.andThen]
attribute [local go_sem] neqTok

set_option maxRecDepth 10000 in
set_option maxHeartbeats 1000000 in
theorem sameT_true (v v' : Value) (l : List (T1 × Nat)) (w : World) (h : TRow w v l) (h' : TRow w v' l) :
    Calls Tryd.prog 23 #[v, v'] w fun e w' => e = .returned (.bool true) ∧ Below w.heap.size w w' := by
  by_cases hl : l = []
  · subst hl
    obtain ⟨p, c, rfl⟩ := h.form
    obtain ⟨p', c', rfl⟩ := h'.form
    clear h h'
    go_enter Tryd.func23, Tryd.ntmps23
    go_wp2
    refine wp_loop_rounds 1 ?_
    rw [rounds_succ]
    go_wp2
    go_ret
    exact ⟨rfl, Below.refl _ _⟩
  · rcases h with ⟨_, _, h⟩ | ⟨g, o, c, rfl, hlen, hc⟩
    · exact absurd h hl
    rcases h' with ⟨_, _, h⟩ | ⟨g', o', c', rfl, _, hc'⟩
    · exact absurd h hl
    have HC : Hid (∀ (j : Nat) (t : T1) (k : Nat), l[j]? = some (t, k) → w.cell? ⟨g, o + j * 4, none⟩ = some (.int .i64 t.kind) ∧ w.cell? ⟨g, o + j * 4 + 1, none⟩ = some (.int .i64 t.n) ∧ w.cell? ⟨g, o + j * 4 + 2, none⟩ = some (.int .i64 (k : Int)) ∧ w.cell? ⟨g, o + j * 4 + 3, none⟩ = some (.string ⟨t.text.toArray⟩)) := hc
    have HC' : Hid (∀ (j : Nat) (t : T1) (k : Nat), l[j]? = some (t, k) → w.cell? ⟨g', o' + j * 4, none⟩ = some (.int .i64 t.kind) ∧ w.cell? ⟨g', o' + j * 4 + 1, none⟩ = some (.int .i64 t.n) ∧ w.cell? ⟨g', o' + j * 4 + 2, none⟩ = some (.int .i64 (k : Int)) ∧ w.cell? ⟨g', o' + j * 4 + 3, none⟩ = some (.string ⟨t.text.toArray⟩)) := hc'
    clear hc hc' hl
    go_enter Tryd.func23, Tryd.ntmps23
    go_wp2
    go_loopw [13] (fun i wr => ∃ k : Nat, k ≤ l.length ∧ i = .int .i64 k ∧ Below w.heap.size w wr) (fun i _ => l.length - (intOf i).toNat)
    case atStart => exact ⟨0, Nat.zero_le _, rfl, Below.refl _ _⟩
    case round =>
      obtain ⟨j, hk, rfl, hbel⟩ := hrel
      by_cases hlt : j < l.length
      · obtain ⟨⟨t, k⟩, htk⟩ : ∃ q, l[j]? = some q := ⟨l[j], List.getElem?_eq_getElem hlt⟩
        obtain ⟨c1, c2, c3, c4⟩ := HC.out j t k htk
        obtain ⟨c5, c6, c7, c8⟩ := HC'.out j t k htk
        have d1 := (hbel.cell (block_lt_of_cell c1)).trans c1
        have d2 := (hbel.cell (block_lt_of_cell c2)).trans c2
        have d3 := (hbel.cell (block_lt_of_cell c3)).trans c3
        have d4 := (hbel.cell (block_lt_of_cell c4)).trans c4
        have d5 := (hbel.cell (block_lt_of_cell c5)).trans c5
        have d6 := (hbel.cell (block_lt_of_cell c6)).trans c6
        have d7 := (hbel.cell (block_lt_of_cell c7)).trans c7
        have d8 := (hbel.cell (block_lt_of_cell c8)).trans c8
        generalize (⟨t.text.toArray⟩ : ByteArray) = x at *
        have hi0 : (0 : Int) ≤ (j : Int) := by omega
        have hi1 : (j : Int) < (l.length : Int) := by omega
        clear c1 c2 c3 c4 c5 c6 c7 c8 HC HC' htk
        go_wp2
        go_quiet (fail)
        go_wp2
        go_roundw
        case rel => exact ⟨j + 1, by omega, by go_num, below_drewN hbel _⟩
        case measure => simp [intOf]; omega
      · have hkl : j = l.length := by omega
        subst hkl
        go_wp2
        go_ret
        exact ⟨rfl, hbel⟩
end Go.Proofs.YtkineofpclneaabDoor
