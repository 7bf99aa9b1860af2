/- How code that came in reads: the rows of instructions, and of rules' code, in memory as it is. -/
import Derived.Test.YtdpfhhmfamiboaaCr04
import Derived.Lib.SmallJoins
import Derived.OpenShut
import Derived.Test.YtdpfhhmfamiboaaCr15
namespace Go.Proofs.Ytdpfhhmfamiboaa
open Go.ChangeShapes Go.WideShapes Go.ChangeAt Go.WideMaps Go.WideElems Go.RowKit Go.Joins Vx
variable {H : Type} {enc : TypeId × Value → H} {W : World}

theorem cI9 : Try.prog.cellsOf 65 = 5 := by kernel_rfl
theorem cC9 : Try.prog.cellsOf 36 = 3 := by kernel_rfl
theorem cS9 : Try.prog.cellsOf 97 = 2 := by kernel_rfl
theorem cN9 : Try.prog.cellsOf 3 = 1 := by kernel_rfl
theorem cL9 : Try.prog.cellsOf 63 = 1 := by kernel_rfl
theorem cK9 : Try.prog.cellsOf 34 = 1 := by kernel_rfl
theorem add9 (g o n : Nat) : (⟨g, o, none⟩ : Addr).add n = ⟨g, o + n, none⟩ := by
  by_cases h : n = 0
  · subst h; simp [Addr.add]
  · simp [Addr.add, h]
theorem two9 {α : Type} {l : List α} (h : l.length = 2) : ∃ a b, l = [a, b] := by
  match l, h with
  | [a, b], _ => exact ⟨a, b, rfl⟩
theorem three9 {α : Type} {l : List α} (h : l.length = 3) : ∃ a b c, l = [a, b, c] := by
  match l, h with
  | [a, b, c], _ => exact ⟨a, b, c, rfl⟩
theorem five9 {α : Type} {l : List α} (h : l.length = 5) : ∃ a b c d e, l = [a, b, c, d, e] := by
  match l, h with
  | [a, b, c, d, e], _ => exact ⟨a, b, c, d, e, rfl⟩
/-- A row whose elements are read one by one. -/
theorem open_row {α : Type} (d0 : α) {size : Nat} {t e : TypeId} (ht : Try.prog.underlying t = some (.slice e)) (hsz : Try.prog.cellsOf e = size) (h0 : 0 < size) (Q : (Nat → Option Value) → α → Prop)
    (hel : ∀ (fuel : Nat) (cs : List Value) (y : DataW H × List MemPlace), DataW.trod enc Try.prog W 0 (fun _ => true) true fuel e cs = some y → ∃ u : α, cs.length = size ∧ Q (fun k => cs[k]?) u) {fuel : Nat} {cs : List Value} {x : DataW H × List MemPlace}
    (h : DataW.trod enc Try.prog W 0 (fun _ => true) true fuel t cs = some x) :
    ∃ (p : Option Addr) (len cap : Nat) (us : List α), cs = [.slice p len cap] ∧ us.length = len ∧ len < 9223372036854775808 ∧ ∀ (j : Nat) (u : α), us[j]? = some u → ∃ g o : Nat, p = some ⟨g, o, none⟩ ∧ ∃ c : List Value, c.length = size ∧ (∀ k v, c[k]? = some v → W.cell? ⟨g, o + j * size + k, none⟩ = some v) ∧ Q (fun k => c[k]?) u := by
  rcases DataW.trod_slice ht h with ⟨e1, _⟩ | ⟨a, len, cap, elems, rest, m, hf, e1, _, _, hlc, hm, hlen, hall, _⟩
  · exact ⟨none, 0, 0, [], e1, rfl, by decide, fun j u hj => by simp at hj⟩
  · have hl2 : len < 9223372036854775808 := by unfold maxLen at hm; omega
    have each : ∀ i, i < len → ∃ u : α, ∃ g o : Nat, a = ⟨g, o, none⟩ ∧ ∃ c : List Value, c.length = size ∧ (∀ k v, c[k]? = some v → W.cell? ⟨g, o + i * size + k, none⟩ = some v) ∧ Q (fun k => c[k]?) u := by
      intro i hi
      have h1 := hall i hi
      rw [hsz] at h1
      have hy : elems[i]? = some (elems[i]'(by omega)) := List.getElem?_eq_getElem _
      rw [hy, Option.bind_eq_some_iff] at h1
      obtain ⟨c, hc, htr⟩ := h1
      obtain ⟨u, hcl, hq⟩ := hel _ _ _ htr
      have spot : a.spot = none := by
        have h2 := hall 0 (by omega)
        rw [hsz] at h2
        have hy0 : elems[0]? = some (elems[0]'(by omega)) := List.getElem?_eq_getElem _
        rw [hy0, Option.bind_eq_some_iff] at h2
        obtain ⟨c', hc', htr'⟩ := h2
        obtain ⟨_, hcl', _⟩ := hel _ _ _ htr'
        have e0 : c'[0]? = some (c'[0]'(by omega)) := List.getElem?_eq_getElem _
        have q0 := (World.cells?_some hc').2.2 0 (by omega)
        rw [e0] at q0
        have q' := World.cell?_spot q0
        simpa [Addr.add] using q'
      obtain ⟨g, o, s⟩ := a
      have q := (World.cells?_some hc).2.2
      dsimp only at spot
      subst spot
      refine ⟨u, g, o, rfl, c, hcl, fun k v hk => ?_, hq⟩
      have hk' : k < c.length := (List.getElem?_eq_some_iff.1 hk).1
      have qk := q k (by omega)
      rw [add9, add9, hk] at qk
      exact qk
    let pick : Nat → α := fun i => if h : i < len then Classical.choose (each i h) else d0
    have hpick : ∀ i (h : i < len), pick i = Classical.choose (each i h) := fun i h => by simp only [pick, h, dif_pos]
    refine ⟨some a, len, cap, (List.range len).map pick, e1, by simp, hl2, fun j u hj => ?_⟩
    have hjl : j < len := by
      have := (List.getElem?_eq_some_iff.1 hj).1
      simpa using this
    rw [List.getElem?_map, List.getElem?_range hjl] at hj
    have hu : u = Classical.choose (each j hjl) := (Option.some.inj hj).symm.trans (hpick j hjl)
    rw [hu]
    obtain ⟨g, o, ea, c, h1, h2, h3⟩ := Classical.choose_spec (each j hjl)
    exact ⟨g, o, by rw [ea], c, h1, h2, h3⟩
theorem open_span9 (fuel : Nat) (cs : List Value) (y : DataW H × List MemPlace) (h : DataW.trod enc Try.prog W 0 (fun _ => true) true fuel 97 cs = some y) : ∃ u : Int × Int, cs.length = 2 ∧ (fun k => cs[k]?) 0 = some (.int .i64 u.1) ∧ (fun k => cs[k]?) 1 = some (.int .i64 u.2) := by
  obtain ⟨y0, y1, m, rfl, hl, h0, h1⟩ := trod_struct2 Try.underlying97 h
  rw [cS9] at hl
  dsimp only at h0 h1
  rw [cN9] at h0 h1
  obtain ⟨x, e0, _⟩ := DataW.trod_int Try.underlying3 h0
  obtain ⟨z, e1, _⟩ := DataW.trod_int Try.underlying3 h1
  obtain ⟨c0, c1, rfl⟩ := two9 hl
  simp at e0 e1
  subst e0 e1
  exact ⟨(x, z), rfl, rfl, rfl⟩
/-- A row of spans that came in. -/
theorem open_spans9 {fuel : Nat} {cs : List Value} {x : DataW H × List MemPlace} (h : DataW.trod enc Try.prog W 0 (fun _ => true) true fuel 63 cs = some x) : ∃ (sl : Value) (l : List (Int × Int)), cs = [sl] ∧ RowV W sl l := by
  obtain ⟨p, len, cap, us, e, hl, hn, hall⟩ := open_row ((0, 0) : Int × Int) (Q := fun c u => c 0 = some (.int .i64 u.1) ∧ c 1 = some (.int .i64 u.2)) Try.underlying63 cS9 (by decide) open_span9 h
  refine ⟨_, us, e, ?_⟩
  cases us with
  | nil =>
    left
    simp at hl
    subst hl
    exact ⟨rfl, p, cap, rfl⟩
  | cons u0 us' =>
    right
    right
    obtain ⟨g, o, hp, _⟩ := hall 0 u0 rfl
    refine ⟨g, o, cap, by rw [hp, hl], by rw [hl]; exact hn, fun j hj => ?_⟩
    obtain ⟨u, hu⟩ : ∃ u, (u0 :: us')[j]? = some u := ⟨_, List.getElem?_eq_getElem hj⟩
    obtain ⟨g', o', hp', c, hcl, hcc, q0, q1⟩ := hall j u hu
    rw [hp] at hp'
    cases hp'
    have e : (u0 :: us').getD j (0, 0) = u := by simp [List.getD, hu]
    rw [e]
    exact ⟨by simpa using hcc 0 _ q0, hcc 1 _ q1⟩
set_option maxRecDepth 100000 in
theorem open_ins9 (fuel : Nat) (cs : List Value) (y : DataW H × List MemPlace) (h : DataW.trod enc Try.prog W 0 (fun _ => true) true fuel 65 cs = some y) : ∃ u : In × Value, cs.length = 5 ∧ RowV W u.2 u.1.sp ∧ (fun k => cs[k]?) 0 = some (.int .i64 u.1.op) ∧ (fun k => cs[k]?) 1 = some (.int .i64 u.1.a) ∧ (fun k => cs[k]?) 2 = some (.int .i64 u.1.b) ∧ (fun k => cs[k]?) 3 = some (.int .i64 u.1.to) ∧ (fun k => cs[k]?) 4 = some u.2 := by
  obtain ⟨xs, m, hf, _, hl, hx, hall⟩ := DataW.trod_struct Try.underlying65 h
  rw [cI9] at hl
  have hx5 : xs.length = 5 := hx
  obtain ⟨c0, c1, c2, c3, c4, rfl⟩ := five9 hl
  obtain ⟨x0, x1, x2, x3, x4, rfl⟩ := five9 hx5
  have h0 : DataW.trod enc Try.prog W 0 (fun _ => true) true m 3 (([c0, c1, c2, c3, c4].drop 0).take (Try.prog.cellsOf 3)) = some x0 := hall 0 _ rfl
  have h1 : DataW.trod enc Try.prog W 0 (fun _ => true) true m 3 (([c0, c1, c2, c3, c4].drop 1).take (Try.prog.cellsOf 3)) = some x1 := hall 1 _ rfl
  have h2 : DataW.trod enc Try.prog W 0 (fun _ => true) true m 3 (([c0, c1, c2, c3, c4].drop 2).take (Try.prog.cellsOf 3)) = some x2 := hall 2 _ rfl
  have h3 : DataW.trod enc Try.prog W 0 (fun _ => true) true m 3 (([c0, c1, c2, c3, c4].drop 3).take (Try.prog.cellsOf 3)) = some x3 := hall 3 _ rfl
  have h4 : DataW.trod enc Try.prog W 0 (fun _ => true) true m 63 (([c0, c1, c2, c3, c4].drop 4).take (Try.prog.cellsOf 63)) = some x4 := hall 4 _ rfl
  rw [cN9] at h0 h1 h2 h3
  rw [cL9] at h4
  obtain ⟨k, e0, _⟩ := DataW.trod_int Try.underlying3 h0
  obtain ⟨a, e1, _⟩ := DataW.trod_int Try.underlying3 h1
  obtain ⟨b, e2, _⟩ := DataW.trod_int Try.underlying3 h2
  obtain ⟨t, e3, _⟩ := DataW.trod_int Try.underlying3 h3
  obtain ⟨sl, l, e4, hr⟩ := open_spans9 h4
  simp at e0 e1 e2 e3 e4
  subst e0 e1 e2 e3 e4
  exact ⟨(⟨k, a, b, t, l⟩, c4), rfl, hr, rfl, rfl, rfl, rfl, rfl⟩
theorem open_inss9 {fuel : Nat} {cs : List Value} {x : DataW H × List MemPlace} (h : DataW.trod enc Try.prog W 0 (fun _ => true) true fuel 34 cs = some x) : ∃ (sl : Value) (l : List In), cs = [sl] ∧ InsOf W sl l := by
  obtain ⟨p, len, cap, us, e, hl, hn, hall⟩ := open_row ((in0, .slice none 0 0) : In × Value) (Q := fun c u => RowV W u.2 u.1.sp ∧ c 0 = some (.int .i64 u.1.op) ∧ c 1 = some (.int .i64 u.1.a) ∧ c 2 = some (.int .i64 u.1.b) ∧ c 3 = some (.int .i64 u.1.to) ∧ c 4 = some u.2) Try.underlying34 cI9 (by decide) open_ins9 h
  refine ⟨_, us.map (fun u => u.1), e, us, ⟨p, cap, by rw [hl], by rw [hl]; exact hn, fun j u hj => ?_⟩, rfl⟩
  obtain ⟨g, o, hp, c, _, hcc, q0, q1, q2, q3, q4, q5⟩ := hall j u hj
  exact ⟨q0, g, o, hp, by simpa using hcc 0 _ q1, hcc 1 _ q2, hcc 2 _ q3, hcc 3 _ q4, hcc 4 _ q5⟩
set_option maxRecDepth 100000 in
theorem open_code9 (fuel : Nat) (cs : List Value) (y : DataW H × List MemPlace) (h : DataW.trod enc Try.prog W 0 (fun _ => true) true fuel 36 cs = some y) : ∃ u : Cd × Value, cs.length = 3 ∧ InsOf W u.2 u.1.ins ∧ (fun k => cs[k]?) 0 = some u.2 ∧ (fun k => cs[k]?) 1 = some (.int .i64 u.1.high) ∧ (fun k => cs[k]?) 2 = some (.int .i64 u.1.steps) := by
  obtain ⟨xs, m, hf, _, hl, hx, hall⟩ := DataW.trod_struct Try.underlying36 h
  rw [cC9] at hl
  have hx3 : xs.length = 3 := hx
  obtain ⟨c0, c1, c2, rfl⟩ := three9 hl
  obtain ⟨x0, x1, x2, rfl⟩ := three9 hx3
  have h0 : DataW.trod enc Try.prog W 0 (fun _ => true) true m 34 (([c0, c1, c2].drop 0).take (Try.prog.cellsOf 34)) = some x0 := hall 0 _ rfl
  have h1 : DataW.trod enc Try.prog W 0 (fun _ => true) true m 3 (([c0, c1, c2].drop 1).take (Try.prog.cellsOf 3)) = some x1 := hall 1 _ rfl
  have h2 : DataW.trod enc Try.prog W 0 (fun _ => true) true m 3 (([c0, c1, c2].drop 2).take (Try.prog.cellsOf 3)) = some x2 := hall 2 _ rfl
  rw [cN9] at h1 h2
  rw [cK9] at h0
  obtain ⟨a, e1, _⟩ := DataW.trod_int Try.underlying3 h1
  obtain ⟨b, e2, _⟩ := DataW.trod_int Try.underlying3 h2
  obtain ⟨sl, l, e0, hr⟩ := open_inss9 h0
  simp at e0 e1 e2
  subst e0 e1 e2
  exact ⟨(⟨l, a, b⟩, c0), rfl, hr, rfl, rfl, rfl⟩
set_option maxRecDepth 100000 in
/-- Code that came in. -/
theorem open_codes {r : Reach} {b0 : Nat} {v : Value} {d : DataW H} {q : List MemPlace} (hv : Value.okWide Try.prog W r b0 22 v) (h : DataW.Trod enc Try.prog W 0 (fun _ => true) true 22 v d q) : ∃ cs, InV W v cs := by
  obtain ⟨ao, k0, c0, rfl⟩ := okWide_slice Try.underlying22 hv
  obtain ⟨fuel, hf⟩ := h
  obtain ⟨p, len, cap, us, e, hl, hn, hall⟩ := open_row ((cd0, .slice none 0 0) : Cd × Value) (Q := fun c u => InsOf W u.2 u.1.ins ∧ c 0 = some u.2 ∧ c 1 = some (.int .i64 u.1.high) ∧ c 2 = some (.int .i64 u.1.steps)) Try.underlying22 cC9 (by decide) open_code9 hf
  have e' : Value.slice ao k0 c0 = .slice p len cap := by simpa [Value.cells] using e
  rw [e']
  refine ⟨us.map (fun u => u.1), us, ⟨p, cap, by rw [hl], by rw [hl]; exact hn, fun j u hj => ?_⟩, rfl⟩
  obtain ⟨g, o, hp, c, _, hcc, q0, q1, q2, q3⟩ := hall j u hj
  exact ⟨q0, g, o, hp, by simpa using hcc 0 _ q1, hcc 1 _ q2, hcc 2 _ q3⟩
set_option maxRecDepth 100000 in
theorem codes_stay {W' : World} {v : Value} {d : DataW H} {p : List MemPlace} (h : DataW.Trod enc Try.prog W 0 (fun _ => true) true 22 v d p) (hb : Below W.heap.size W W') (hlt : ∀ x ∈ p, x.block < W.heap.size) :
    DataW.Trod enc Try.prog W' 0 (fun b => decide (b < W.heap.size)) true 22 v d p :=
  Below.trod (by kernel_rfl) (by kernel_rfl) (of_decide_eq_true (by kernel_rfl)) h hb hlt
end Go.Proofs.Ytdpfhhmfamiboaa

/- How asks that came in read. -/
namespace Go.Proofs.Ytdpfhhmfamiboaa
open Go.ChangeShapes Go.WideShapes Go.ChangeAt Go.WideMaps Go.WideElems Go.RowKit Go.Joins Vx
variable {H : Type} {enc : TypeId × Value → H} {W : World}

theorem cA9 : Try.prog.cellsOf 47 = 3 := by kernel_rfl
set_option maxRecDepth 100000 in
theorem open_ask9 (fuel : Nat) (cs : List Value) (y : DataW H × List MemPlace) (h : DataW.trod enc Try.prog W 0 (fun _ => true) true fuel 47 cs = some y) : ∃ u : Aq, cs.length = 3 ∧ (fun k => cs[k]?) 0 = some (.int .i64 u.r) ∧ (fun k => cs[k]?) 1 = some (.int .i64 u.d) ∧ (fun k => cs[k]?) 2 = some (.int .i64 u.v) := by
  obtain ⟨xs, m, hf, _, hl, hx, hall⟩ := DataW.trod_struct Try.underlying47 h
  rw [cA9] at hl
  have hx3 : xs.length = 3 := hx
  obtain ⟨c0, c1, c2, rfl⟩ := three9 hl
  obtain ⟨x0, x1, x2, rfl⟩ := three9 hx3
  have h0 : DataW.trod enc Try.prog W 0 (fun _ => true) true m 3 (([c0, c1, c2].drop 0).take (Try.prog.cellsOf 3)) = some x0 := hall 0 _ rfl
  have h1 : DataW.trod enc Try.prog W 0 (fun _ => true) true m 3 (([c0, c1, c2].drop 1).take (Try.prog.cellsOf 3)) = some x1 := hall 1 _ rfl
  have h2 : DataW.trod enc Try.prog W 0 (fun _ => true) true m 3 (([c0, c1, c2].drop 2).take (Try.prog.cellsOf 3)) = some x2 := hall 2 _ rfl
  rw [cN9] at h0 h1 h2
  obtain ⟨a, e0, _⟩ := DataW.trod_int Try.underlying3 h0
  obtain ⟨b, e1, _⟩ := DataW.trod_int Try.underlying3 h1
  obtain ⟨c, e2, _⟩ := DataW.trod_int Try.underlying3 h2
  simp at e0 e1 e2
  subst e0 e1 e2
  exact ⟨⟨a, b, c⟩, rfl, rfl, rfl, rfl⟩
set_option maxRecDepth 100000 in
/-- Asks that came in. -/
theorem open_asks {r : Reach} {b0 : Nat} {v : Value} {d : DataW H} {q : List MemPlace} (hv : Value.okWide Try.prog W r b0 45 v) (h : DataW.Trod enc Try.prog W 0 (fun _ => true) true 45 v d q) : ∃ l, ARow W v l := by
  obtain ⟨ao, k0, c0, rfl⟩ := okWide_slice Try.underlying45 hv
  obtain ⟨fuel, hf⟩ := h
  obtain ⟨p, len, cap, us, e, hl, hn, hall⟩ := open_row (⟨0, 0, 0⟩ : Aq) (Q := fun c u => c 0 = some (.int .i64 u.r) ∧ c 1 = some (.int .i64 u.d) ∧ c 2 = some (.int .i64 u.v)) Try.underlying45 cA9 (by decide) open_ask9 hf
  have e' : Value.slice ao k0 c0 = .slice p len cap := by simpa [Value.cells] using e
  rw [e']
  refine ⟨us, p, cap, by rw [hl], by rw [hl]; exact hn, fun j u hj => ?_⟩
  obtain ⟨g, o, hp, c, _, hcc, q0, q1, q2⟩ := hall j u hj
  exact ⟨g, o, hp, by simpa using hcc 0 _ q0, hcc 1 _ q1, hcc 2 _ q2⟩
set_option maxRecDepth 100000 in
theorem asks_stay {W' : World} {v : Value} {d : DataW H} {p : List MemPlace} (h : DataW.Trod enc Try.prog W 0 (fun _ => true) true 45 v d p) (hb : Below W.heap.size W W') (hlt : ∀ x ∈ p, x.block < W.heap.size) :
    DataW.Trod enc Try.prog W' 0 (fun b => decide (b < W.heap.size)) true 45 v d p :=
  Below.trod (by kernel_rfl) (by kernel_rfl) (of_decide_eq_true (by kernel_rfl)) h hb hlt
end Go.Proofs.Ytdpfhhmfamiboaa
