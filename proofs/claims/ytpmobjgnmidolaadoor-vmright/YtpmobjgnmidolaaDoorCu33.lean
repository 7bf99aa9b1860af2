/- How rules that came in read: a tree of expressions for each, in memory as it is. -/
import Derived.Test.YtpmobjgnmidolaaDoorCu21
import Derived.Lib.SmallJoins
import Derived.OpenShut
namespace Go.Proofs.YtpmobjgnmidolaaDoor
open Go.ChangeShapes Go.WideShapes Go.ChangeAt Go.WideMaps Go.WideElems Go.RowKit Go.Joins Lx
variable {H : Type} {enc : TypeId × Value → H} {W : World}

theorem inE : Tryd.prog.cellsOf 50 = 5 := by kernel_rfl
theorem inR : Tryd.prog.cellsOf 52 = 6 := by kernel_rfl
theorem inI : Tryd.prog.cellsOf 3 = 1 := by kernel_rfl
theorem inS : Tryd.prog.cellsOf 9 = 1 := by kernel_rfl
theorem inL : Tryd.prog.cellsOf 48 = 1 := by kernel_rfl
theorem in_add (g o n : Nat) : (⟨g, o, none⟩ : Addr).add n = ⟨g, o + n, none⟩ := by
  by_cases h : n = 0
  · subst h; simp [Addr.add]
  · simp [Addr.add, h]
theorem KidsB.up {B : Nat → Prop} : ∀ {d : Nat} {w : World} {sl : Value} {ks : List Ex}, KidsB B d w sl ks → KidsB B (d + 1) w sl ks
  | 0, _, _, _, h => .inl h
  | d + 1, w, sl, ks, h => by
    rcases h with h | ⟨g, o, c, hB, hs, hl, hk⟩
    · exact .inl h
    · refine .inr ⟨g, o, c, hB, hs, hl, fun j k hj => ?_⟩
      obtain ⟨hn, sk, c0, c1, c2, c3, c4, r⟩ := hk j k hj
      exact ⟨hn, sk, c0, c1, c2, c3, c4, KidsB.up r⟩
theorem KidsB.nil (B : Nat → Prop) (d : Nat) (w : World) (p : Option Addr) (c : Nat) : KidsB B d w (.slice p 0 c) [] := by
  cases d with
  | zero => exact ⟨rfl, p, c, rfl⟩
  | succ d => exact .inl ⟨rfl, p, c, rfl⟩
theorem five {α : Type} {l : List α} (h : l.length = 5) : ∃ a b c d e, l = [a, b, c, d, e] := by
  match l, h with
  | [a, b, c, d, e], _ => exact ⟨a, b, c, d, e, rfl⟩
set_option maxRecDepth 100000 in
/-- The five parts of an expression. -/
theorem expr_parts {fuel : Nat} {cs : List Value} {y : DataW H × List MemPlace} (h : DataW.trod enc Tryd.prog W 0 (fun _ => true) true fuel 50 cs = some y) :
    ∃ (k a b : Int) (s : ByteArray) (sl : Value) (m : Nat) (z : DataW H × List MemPlace), fuel = m + 1 ∧ cs = [.int .i64 k, .int .i64 a, .int .i64 b, .string s, sl] ∧ s.size ≤ maxLen ∧ DataW.trod enc Tryd.prog W 0 (fun _ => true) true m 48 [sl] = some z := by
  obtain ⟨xs, m, hf, _, hl, hx, hall⟩ := DataW.trod_struct Tryd.underlying50 h
  rw [inE] at hl
  have hx5 : xs.length = 5 := hx
  obtain ⟨c0, c1, c2, c3, c4, rfl⟩ := five hl
  obtain ⟨x0, x1, x2, x3, x4, rfl⟩ := five hx5
  have h0 : DataW.trod enc Tryd.prog W 0 (fun _ => true) true m 3 (([c0, c1, c2, c3, c4].drop 0).take (Tryd.prog.cellsOf 3)) = some x0 := hall 0 _ rfl
  have h1 : DataW.trod enc Tryd.prog W 0 (fun _ => true) true m 3 (([c0, c1, c2, c3, c4].drop 1).take (Tryd.prog.cellsOf 3)) = some x1 := hall 1 _ rfl
  have h2 : DataW.trod enc Tryd.prog W 0 (fun _ => true) true m 3 (([c0, c1, c2, c3, c4].drop 2).take (Tryd.prog.cellsOf 3)) = some x2 := hall 2 _ rfl
  have h3 : DataW.trod enc Tryd.prog W 0 (fun _ => true) true m 9 (([c0, c1, c2, c3, c4].drop 3).take (Tryd.prog.cellsOf 9)) = some x3 := hall 3 _ rfl
  have h4 : DataW.trod enc Tryd.prog W 0 (fun _ => true) true m 48 (([c0, c1, c2, c3, c4].drop 4).take (Tryd.prog.cellsOf 48)) = some x4 := hall 4 _ rfl
  rw [inI] at h0 h1 h2
  rw [inS] at h3
  rw [inL] at h4
  obtain ⟨k, e0, _⟩ := DataW.trod_int Tryd.underlying3 h0
  obtain ⟨a, e1, _⟩ := DataW.trod_int Tryd.underlying3 h1
  obtain ⟨b, e2, _⟩ := DataW.trod_int Tryd.underlying3 h2
  obtain ⟨s, e3, _, hs⟩ := DataW.trod_string Tryd.underlying9 h3
  simp at e0 e1 e2 e3
  subst e0 e1 e2 e3
  exact ⟨k, a, b, s, c4, m, x4, hf, rfl, hs, h4⟩
theorem str_list (s : ByteArray) : (⟨(s.data.toList).toArray⟩ : ByteArray) = s := by simp
set_option maxRecDepth 100000 in
/-- A row of expressions that came in. -/
theorem open_kids : ∀ (fuel : Nat) (cs : List Value) (x : DataW H × List MemPlace), DataW.trod enc Tryd.prog W 0 (fun _ => true) true fuel 48 cs = some x →
    ∃ (sl : Value) (ks : List Ex), cs = [sl] ∧ KidsB (fun k => k < W.heap.size) fuel W sl ks := by
  intro fuel
  induction fuel using Nat.strongRecOn with
  | ind fuel ih =>
    intro cs x h
    rcases DataW.trod_slice Tryd.underlying48 h with ⟨e, _⟩ | ⟨a, len, cap, elems, rest, m, hf, e, _, _, hlc, hm, hlen, hel, _⟩
    · exact ⟨_, [], e, KidsB.nil _ _ _ _ _⟩
    · by_cases hz : len = 0
      · subst hz
        exact ⟨_, [], e, KidsB.nil _ _ _ _ _⟩
      · obtain ⟨g, o, s⟩ := a
        have each : ∀ i, i < len → ∃ (k : Ex) (sk : Value), s = none ∧ g < W.heap.size ∧ k.name.length ≤ 9223372036854775807 ∧
            W.cell? ⟨g, o + i * 5, none⟩ = some (.int .i64 k.kind) ∧ W.cell? ⟨g, o + i * 5 + 1, none⟩ = some (.int .i64 k.a) ∧ W.cell? ⟨g, o + i * 5 + 2, none⟩ = some (.int .i64 k.b) ∧
            W.cell? ⟨g, o + i * 5 + 3, none⟩ = some (.string ⟨k.name.toArray⟩) ∧ W.cell? ⟨g, o + i * 5 + 4, none⟩ = some sk ∧ KidsB (fun k => k < W.heap.size) m W sk k.kids := by
          have spot : s = none := by
            have h1 := hel 0 (by omega)
            rw [inE] at h1
            have hy : elems[0]? = some (elems[0]'(by omega)) := List.getElem?_eq_getElem _
            rw [hy, Option.bind_eq_some_iff] at h1
            obtain ⟨cs', hc, ht⟩ := h1
            have q := (World.cells?_some hc).2.2 0 (by omega)
            have hl' := (World.cells?_some hc).2.1
            have e0 : cs'[0]? = some (cs'[0]'(by omega)) := List.getElem?_eq_getElem _
            rw [e0] at q
            have q' := World.cell?_spot q
            simpa [Addr.add] using q'
          subst spot
          intro i hi
          have h1 := hel i hi
          rw [inE] at h1
          have hy : elems[i]? = some (elems[i]'(by omega)) := List.getElem?_eq_getElem _
          rw [hy, Option.bind_eq_some_iff] at h1
          obtain ⟨cs', hc, ht⟩ := h1
          obtain ⟨k, a, b, nm, sl, m', z, hm', hcs, hs, htk⟩ := expr_parts ht
          subst hcs
          have q := (World.cells?_some hc).2.2
          rw [in_add] at q
          have q0 := q 0 (by omega)
          have q1 := q 1 (by omega)
          have q2 := q 2 (by omega)
          have q3 := q 3 (by omega)
          have q4 := q 4 (by omega)
          simp only [in_add, Nat.add_zero] at q0 q1 q2 q3 q4
          obtain ⟨sl', ks, esl, hkk⟩ := ih m' (by omega) [sl] z htk
          have esl' : sl = sl' := by simpa using esl
          subst esl'
          subst hm'
          refine ⟨⟨k, a, b, nm.data.toList, ks⟩, sl, rfl, ?_, ?_, ?_, ?_, ?_, ?_, ?_, hkk.up⟩
          · exact block_lt_of_cell (a := ⟨g, o + i * 5, none⟩) (by simpa using q0)
          · rw [← Lib.size_eq]; unfold maxLen at hs; exact hs
          · simpa using q0
          · simpa using q1
          · simpa using q2
          · rw [str_list]; simpa using q3
          · simpa using q4
        have hs0 : s = none := by obtain ⟨_, _, h, _⟩ := each 0 (by omega); exact h
        have hg0 : g < W.heap.size := by obtain ⟨_, _, _, h, _⟩ := each 0 (by omega); exact h
        subst hs0
        let pick : Nat → Ex := fun i => if h : i < len then Classical.choose (each i h) else ex0
        have hpick : ∀ i (h : i < len), pick i = Classical.choose (each i h) := fun i h => by simp only [pick, h, dif_pos]
        refine ⟨.slice (some ⟨g, o, none⟩) len cap, (List.range len).map pick, e, ?_⟩
        subst hf
        refine .inr ⟨g, o, cap, hg0, by simp, by simp; unfold maxLen at hm; omega, fun j k hj => ?_⟩
        have hjl : j < len := by
          have := (List.getElem?_eq_some_iff.1 hj).1
          simpa using this
        have hk : k = pick j := by
          rw [List.getElem?_map, List.getElem?_range hjl] at hj
          exact (Option.some.inj hj).symm
        rw [hk, hpick j hjl]
        obtain ⟨sk, _, _, h3, h4⟩ := Classical.choose_spec (each j hjl)
        exact ⟨h3, sk, h4⟩
end Go.Proofs.YtpmobjgnmidolaaDoor

/- How rules that came in read: the row of rules. -/
namespace Go.Proofs.YtpmobjgnmidolaaDoor
open Go.ChangeShapes Go.WideShapes Go.ChangeAt Go.WideMaps Go.WideElems Go.RowKit Go.Joins Lx
variable {H : Type} {enc : TypeId × Value → H} {W : World}

theorem six {α : Type} {l : List α} (h : l.length = 6) : ∃ a b c d e f, l = [a, b, c, d, e, f] := by
  match l, h with
  | [a, b, c, d, e, f], _ => exact ⟨a, b, c, d, e, f, rfl⟩
theorem pair2 {α : Type} {l : List α} (h : l.length = 2) : ∃ a b, l = [a, b] := by
  match l, h with
  | [a, b], _ => exact ⟨a, b, rfl⟩
set_option maxRecDepth 100000 in
/-- The parts of a rule. -/
theorem rule_parts {fuel : Nat} {cs : List Value} {y : DataW H × List MemPlace} (h : DataW.trod enc Tryd.prog W 0 (fun _ => true) true fuel 52 cs = some y) :
    ∃ (nm : ByteArray) (k a b : Int) (s : ByteArray) (sl : Value) (m : Nat) (z : DataW H × List MemPlace), cs = [.string nm, .int .i64 k, .int .i64 a, .int .i64 b, .string s, sl] ∧ nm.size ≤ maxLen ∧ s.size ≤ maxLen ∧ DataW.trod enc Tryd.prog W 0 (fun _ => true) true m 48 [sl] = some z := by
  obtain ⟨xs, m, hf, _, hl, hx, hall⟩ := DataW.trod_struct Tryd.underlying52 h
  rw [inR] at hl
  have hx2 : xs.length = 2 := hx
  obtain ⟨c0, c1, c2, c3, c4, c5, rfl⟩ := six hl
  obtain ⟨x0, x1, rfl⟩ := pair2 hx2
  have h0 : DataW.trod enc Tryd.prog W 0 (fun _ => true) true m 9 (([c0, c1, c2, c3, c4, c5].drop 0).take (Tryd.prog.cellsOf 9)) = some x0 := hall 0 _ rfl
  have h1 : DataW.trod enc Tryd.prog W 0 (fun _ => true) true m 50 (([c0, c1, c2, c3, c4, c5].drop 1).take (Tryd.prog.cellsOf 50)) = some x1 := hall 1 _ rfl
  rw [inS] at h0
  rw [inE] at h1
  obtain ⟨nm, e0, _, hn⟩ := DataW.trod_string Tryd.underlying9 h0
  obtain ⟨k, a, b, s, sl, m', z, _, e1, hs, ht⟩ := expr_parts h1
  simp at e0 e1
  obtain ⟨q1, q2, q3, q4, q5⟩ := e1
  subst e0 q1 q2 q3 q4 q5
  exact ⟨nm, k, a, b, s, c5, m', z, rfl, hn, hs, ht⟩
set_option maxRecDepth 100000 in
/-- A row of rules that came in. -/
theorem open_rules {r : Reach} {b0 : Nat} {v : Value} {d : DataW H} {p : List MemPlace}
    (hv : Value.okWide Tryd.prog W r b0 22 v) (h : DataW.Trod enc Tryd.prog W 0 (fun _ => true) true 22 v d p) : ∃ us, InR W v us := by
  obtain ⟨ao, k0, c0, rfl⟩ := okWide_slice Tryd.underlying22 hv
  obtain ⟨fuel, hf⟩ := h
  have zero : ∀ (q : Option Addr) (c : Nat), ∃ us, InR W (.slice q 0 c) us := fun q c => ⟨[], .inl ⟨rfl, q, c, rfl⟩, by decide, fun p hp => by cases hp⟩
  rcases DataW.trod_slice Tryd.underlying22 hf with ⟨e, _⟩ | ⟨a, len, cap, elems, rest, m, _, e, _, _, hlc, hm, hlen, hel, _⟩
  · have e' : Value.slice ao k0 c0 = .slice none 0 0 := by simpa [Value.cells] using e
    rw [e']; exact zero _ _
  · have e' : Value.slice ao k0 c0 = .slice (some a) len cap := by simpa [Value.cells] using e
    rw [e']
    by_cases hz : len = 0
    · subst hz; exact zero _ _
    obtain ⟨g, o, s⟩ := a
    have spot : s = none := by
      have h1 := hel 0 (by omega)
      rw [inR] at h1
      have hy : elems[0]? = some (elems[0]'(by omega)) := List.getElem?_eq_getElem _
      rw [hy, Option.bind_eq_some_iff] at h1
      obtain ⟨cs', hc, ht⟩ := h1
      have q := (World.cells?_some hc).2.2 0 (by omega)
      have hl' := (World.cells?_some hc).2.1
      have e0 : cs'[0]? = some (cs'[0]'(by omega)) := List.getElem?_eq_getElem _
      rw [e0] at q
      have q' := World.cell?_spot q
      simpa [Addr.add] using q'
    subst spot
    have each : ∀ i, i < len → ∃ u : Ru × Value, RuleIn W u ∧
        W.cell? ⟨g, o + i * 6, none⟩ = some (.string ⟨u.1.1.toArray⟩) ∧ W.cell? ⟨g, o + i * 6 + 1, none⟩ = some (.int .i64 u.1.2.kind) ∧ W.cell? ⟨g, o + i * 6 + 2, none⟩ = some (.int .i64 u.1.2.a) ∧ W.cell? ⟨g, o + i * 6 + 3, none⟩ = some (.int .i64 u.1.2.b) ∧
        W.cell? ⟨g, o + i * 6 + 4, none⟩ = some (.string ⟨u.1.2.name.toArray⟩) ∧ W.cell? ⟨g, o + i * 6 + 5, none⟩ = some u.2 := by
      intro i hi
      have h1 := hel i hi
      rw [inR] at h1
      have hy : elems[i]? = some (elems[i]'(by omega)) := List.getElem?_eq_getElem _
      rw [hy, Option.bind_eq_some_iff] at h1
      obtain ⟨cs', hc, ht⟩ := h1
      obtain ⟨nm, k, a, b, x, sl, m', z, hcs, hn, hs, htk⟩ := rule_parts ht
      subst hcs
      have q := (World.cells?_some hc).2.2
      rw [in_add] at q
      have q0 := q 0 (by omega)
      have q1 := q 1 (by omega)
      have q2 := q 2 (by omega)
      have q3 := q 3 (by omega)
      have q4 := q 4 (by omega)
      have q5 := q 5 (by omega)
      simp only [in_add, Nat.add_zero] at q0 q1 q2 q3 q4 q5
      obtain ⟨sl', ks, esl, hkk⟩ := open_kids m' [sl] z htk
      have esl' : sl = sl' := by simpa using esl
      subst esl'
      refine ⟨((nm.data.toList, ⟨k, a, b, x.data.toList, ks⟩), sl), ⟨?_, ?_, m', hkk⟩, ?_, ?_, ?_, ?_, ?_, ?_⟩
      · show nm.data.toList.length ≤ _; rw [← Lib.size_eq]; unfold maxLen at hn; exact hn
      · show x.data.toList.length ≤ _; rw [← Lib.size_eq]; unfold maxLen at hs; exact hs
      · rw [str_list]; simpa using q0
      · simpa using q1
      · simpa using q2
      · simpa using q3
      · rw [str_list]; simpa using q4
      · simpa using q5
    let pick : Nat → Ru × Value := fun i => if h : i < len then Classical.choose (each i h) else (([], ex0), .slice none 0 0)
    have hpick : ∀ i (h : i < len), pick i = Classical.choose (each i h) := fun i h => by simp only [pick, h, dif_pos]
    have hat : ∀ (j : Nat) (u : Ru × Value), ((List.range len).map pick)[j]? = some u → ∃ h : j < len, u = Classical.choose (each j h) := fun j u hj => by
      have hjl : j < len := by
        have := (List.getElem?_eq_some_iff.1 hj).1
        simpa using this
      rw [List.getElem?_map, List.getElem?_range hjl] at hj
      exact ⟨hjl, (Option.some.inj hj).symm.trans (hpick j hjl)⟩
    have hl2 : len < 9223372036854775808 := by unfold maxLen at hm; omega
    refine ⟨(List.range len).map pick, .inr ⟨g, o, cap, by simp, by simpa using hl2, fun j u hj => ?_⟩, by simpa using hl2, fun u hu => ?_⟩
    · obtain ⟨hjl, e1⟩ := hat j u hj
      rw [e1]
      exact (Classical.choose_spec (each j hjl)).2
    · obtain ⟨j, hj⟩ := List.getElem?_of_mem hu
      obtain ⟨hjl, e1⟩ := hat j u hj
      rw [e1]
      exact (Classical.choose_spec (each j hjl)).1
end Go.Proofs.YtpmobjgnmidolaaDoor
