/- How asks that came in read. -/
import Derived.Test.YtaeengpppehlfaaCx15
import Derived.Test.YtaeengpppehlfaaCx17
namespace Go.Proofs.Ytaeengpppehlfaa
open Go.ChangeShapes Go.WideShapes Go.ChangeAt Go.WideMaps Go.WideElems Go.RowKit Go.Joins Vx
variable {H : Type} {enc : TypeId × Value → H} {W : World}

theorem cA9 : Try.prog.cellsOf 47 = 3 := by kernel_rfl
set_option maxRecDepth 100000 in
theorem open_ask9 (fuel : Nat) (cs : List Value) (y : DataW H × List MemPlace) (h : DataW.trod enc Try.prog W 0 (fun _ => true) true fuel 47 cs = some y) : ∃ u : Aq, cs.length = 3 ∧ (fun k => cs[k]?) 0 = some (.int .i64 u.r) ∧ (fun k => cs[k]?) 1 = some (.int .i64 u.d) ∧ (fun k => cs[k]?) 2 = some (.int .i64 u.v) := by
  obtain ⟨xs, m, hf, _, hl, hx, hall⟩ := DataW.trod_struct Try.underlying47 h
  rw [cA9] at hl
  have hx3 : xs.length = 3 := hx
  obtain ⟨c0, c1, c2, rfl⟩ := three9 hl
  obtain ⟨x0, x1, x2, rfl⟩ := three9 hx3
  have h0 : DataW.trod enc Try.prog W 0 (fun _ => true) true m 3 (([c0, c1, c2].drop 0).take (Try.prog.cellsOf 3)) = some x0 := hall 0 _ rfl
  have h1 : DataW.trod enc Try.prog W 0 (fun _ => true) true m 3 (([c0, c1, c2].drop 1).take (Try.prog.cellsOf 3)) = some x1 := hall 1 _ rfl
  have h2 : DataW.trod enc Try.prog W 0 (fun _ => true) true m 3 (([c0, c1, c2].drop 2).take (Try.prog.cellsOf 3)) = some x2 := hall 2 _ rfl
  rw [cN9] at h0 h1 h2
  obtain ⟨a, e0, _⟩ := DataW.trod_int Try.underlying3 h0
  obtain ⟨b, e1, _⟩ := DataW.trod_int Try.underlying3 h1
  obtain ⟨c, e2, _⟩ := DataW.trod_int Try.underlying3 h2
  simp at e0 e1 e2
  subst e0 e1 e2
  exact ⟨⟨a, b, c⟩, rfl, rfl, rfl, rfl⟩
set_option maxRecDepth 100000 in
/-- Asks that came in. -/
theorem open_asks {r : Reach} {b0 : Nat} {v : Value} {d : DataW H} {q : List MemPlace} (hv : Value.okWide Try.prog W r b0 45 v) (h : DataW.Trod enc Try.prog W 0 (fun _ => true) true 45 v d q) : ∃ l, ARow W v l := by
  obtain ⟨ao, k0, c0, rfl⟩ := okWide_slice Try.underlying45 hv
  obtain ⟨fuel, hf⟩ := h
  obtain ⟨p, len, cap, us, e, hl, hn, hall⟩ := open_row (⟨0, 0, 0⟩ : Aq) (Q := fun c u => c 0 = some (.int .i64 u.r) ∧ c 1 = some (.int .i64 u.d) ∧ c 2 = some (.int .i64 u.v)) Try.underlying45 cA9 (by decide) open_ask9 hf
  have e' : Value.slice ao k0 c0 = .slice p len cap := by simpa [Value.cells] using e
  rw [e']
  refine ⟨us, p, cap, by rw [hl], by rw [hl]; exact hn, fun j u hj => ?_⟩
  obtain ⟨g, o, hp, c, _, hcc, q0, q1, q2⟩ := hall j u hj
  exact ⟨g, o, hp, by simpa using hcc 0 _ q0, hcc 1 _ q1, hcc 2 _ q2⟩
set_option maxRecDepth 100000 in
theorem asks_stay {W' : World} {v : Value} {d : DataW H} {p : List MemPlace} (h : DataW.Trod enc Try.prog W 0 (fun _ => true) true 45 v d p) (hb : Below W.heap.size W W') (hlt : ∀ x ∈ p, x.block < W.heap.size) :
    DataW.Trod enc Try.prog W' 0 (fun b => decide (b < W.heap.size)) true 45 v d p :=
  Below.trod (by kernel_rfl) (by kernel_rfl) (of_decide_eq_true (by kernel_rfl)) h hb hlt
end Go.Proofs.Ytaeengpppehlfaa
