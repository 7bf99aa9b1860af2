/- How a slice of spans that came in reads, and a span. -/
import Derived.Test.YtemdkpjdbciemaaDoorFrame
namespace Go.Proofs.YtemdkpjdbciemaaDoor
open Go.ChangeShapes Go.WideShapes Go.ChangeAt Go.WideMaps Go.WideElems Go.RowKit Go.Joins Msk

theorem cSpan : Tryd.prog.cellsOf 39 = 2 := by kernel_rfl
theorem cInt : Tryd.prog.cellsOf 3 = 1 := by kernel_rfl
theorem add_at (g o n : Nat) : (⟨g, o, none⟩ : Addr).add n = ⟨g, o + n, none⟩ := by
  by_cases h : n = 0
  · subst h; simp [Addr.add]
  · simp [Addr.add, h]
/-- The two numbers of a span. -/
theorem span_parts {H : Type} {enc : TypeId × Value → H} {W : World} {n : Nat} {cs : List Value} {y : DataW H × List MemPlace} (h : DataW.trod enc Tryd.prog W 0 (fun _ => true) true n 39 cs = some y) :
    ∃ x z : Int, cs = [.int .i64 x, .int .i64 z] ∧ y.2 = [] := by
  obtain ⟨y0, y1, m, rfl, hl, h0, h1⟩ := trod_struct2 Tryd.underlying39 h
  rw [cSpan] at hl
  dsimp only at h0 h1
  rw [cInt] at h0 h1
  obtain ⟨x, e0, rfl, _⟩ := DataW.trod_int Tryd.underlying3 h0
  obtain ⟨z, e1, rfl, _⟩ := DataW.trod_int Tryd.underlying3 h1
  match cs, hl with
  | [c0, c1], _ =>
    simp at e0 e1
    exact ⟨x, z, by rw [e0, e1], rfl⟩
theorem open_spans {H : Type} {enc : TypeId × Value → H} {W : World} {r : Reach} {b0 : Nat} {v : Value} {d : DataW H} {p : List MemPlace}
    (hv : Value.okWide Tryd.prog W r b0 34 v) (h : DataW.Trod enc Tryd.prog W 0 (fun _ => true) true 34 v d p) : ∃ l, Row W v l := by
  obtain ⟨ao, k, c, rfl⟩ := okWide_slice Tryd.underlying34 hv
  obtain ⟨fuel, hf⟩ := h
  rcases DataW.trod_slice Tryd.underlying34 hf with ⟨e, _⟩ | ⟨a, len, cap, elems, rest, m, _, e, _, _, hl, hm, hlen, hel, _⟩
  · have e' : Value.slice ao k c = .slice none 0 0 := by simpa [Value.cells] using e
    exact ⟨[], .inl ⟨0, e', rfl⟩⟩
  · have e' : Value.slice ao k c = .slice (some a) len cap := by simpa [Value.cells] using e
    rw [e'] at hv ⊢
    have hspot : a.spot = none := by
      simp only [Value.okWide, Tryd.underlying34, Cell.okWide, Cell.ok] at hv
      exact hv.2.2.2.1
    obtain ⟨g, o, s⟩ := a
    dsimp only at hspot
    subst hspot
    have each : ∀ i, i < len → ∃ x z : Int, W.cell? ⟨g, o + i * 2, none⟩ = some (.int .i64 x) ∧ W.cell? ⟨g, o + i * 2 + 1, none⟩ = some (.int .i64 z) := by
      intro i hi
      have h1 := hel i hi
      rw [cSpan] at h1
      have hy : elems[i]? = some (elems[i]'(by omega)) := List.getElem?_eq_getElem _
      rw [hy, Option.bind_eq_some_iff] at h1
      obtain ⟨cs, hc, ht⟩ := h1
      obtain ⟨x, z, rfl, _⟩ := span_parts ht
      have q := (World.cells?_some hc).2.2
      rw [add_at] at q
      exact ⟨x, z, by simpa [add_at] using q 0 (by omega), by simpa [add_at] using q 1 (by omega)⟩
    refine ⟨(List.range len).map fun i => ((match W.cell? ⟨g, o + i * 2, none⟩ with | some (.int _ x) => x | _ => 0), (match W.cell? ⟨g, o + i * 2 + 1, none⟩ with | some (.int _ z) => z | _ => 0)), .inr ⟨g, o, cap, by simp, ?_, fun j hj => ?_⟩⟩
    · have := hm
      simp only [maxLen] at this
      simp
      omega
    · have hj' : j < len := by simpa using hj
      obtain ⟨x, z, e1, e2⟩ := each j hj'
      simp [List.getD, hj', e1, e2]
theorem spans_stay {H : Type} {enc : TypeId × Value → H} {W W' : World} {v : Value} {d : DataW H} {p : List MemPlace} (h : DataW.Trod enc Tryd.prog W 0 (fun _ => true) true 34 v d p) (hb : Below W.heap.size W W') (hlt : ∀ x ∈ p, x.block < W.heap.size) :
    DataW.Trod enc Tryd.prog W' 0 (fun b => decide (b < W.heap.size)) true 34 v d p :=
  Below.trod (by kernel_rfl) (by kernel_rfl) (of_decide_eq_true (by kernel_rfl)) h hb hlt
/-- A span that came in by value. -/
theorem open_span {H : Type} {enc : TypeId × Value → H} {W : World} {r : Reach} {b0 : Nat} {v : Value} {d : DataW H} {p : List MemPlace}
    (hv : Value.okWide Tryd.prog W r b0 39 v) (h : DataW.Trod enc Tryd.prog W 0 (fun _ => true) true 39 v d p) : ∃ x z : Int, v = .agg #[.int .i64 x, .int .i64 z] ∧ p = [] := by
  simp only [Value.okWide, Tryd.underlying39] at hv
  obtain ⟨cs, rfl, _, _⟩ := hv
  obtain ⟨fuel, hf⟩ := h
  obtain ⟨x, z, e, hp⟩ := span_parts hf
  refine ⟨x, z, ?_, hp⟩
  congr 1
  apply Array.ext'
  simpa [Value.cells] using e
theorem span_stays {H : Type} {enc : TypeId × Value → H} {W W' : World} {v : Value} {d : DataW H} (h : DataW.Trod enc Tryd.prog W 0 (fun _ => true) true 39 v d []) (hb : Below W.heap.size W W') :
    DataW.Trod enc Tryd.prog W' 0 (fun b => decide (b < W.heap.size)) true 39 v d [] :=
  Below.trod (by kernel_rfl) (by kernel_rfl) (of_decide_eq_true (by kernel_rfl)) h hb (fun x hx => by cases hx)
end Go.Proofs.YtemdkpjdbciemaaDoor
