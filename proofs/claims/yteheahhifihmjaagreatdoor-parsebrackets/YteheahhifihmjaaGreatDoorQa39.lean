/- What the law ParseTurns comes to. -/
import Derived.Test.YteheahhifihmjaaGreatDoorQa36
import Derived.Test.YteheahhifihmjaaGreatDoorQa38
import Derived.Test.YteheahhifihmjaaGreatDoorQa29
import Derived.Lib.SmallJoins
import Derived.OpenShut
import Derived.Test.YteheahhifihmjaaGreatDoorQa35
namespace Go.Proofs.YteheahhifihmjaaGreatDoor
open Go.RowKit Lx

theorem printP_bad {l : List Ru} (h : (printP l).2.1 ≠ 0) : (printP l).1 = [] := by
  unfold printP at *
  split
  · rfl
  · split
    · rfl
    · rename_i h1 h2
      rw [if_neg h1, if_neg h2] at h
      exact absurd rfl h
theorem printP_good {l : List Ru} (h : (printP l).2.1 = 0) : wrongR l = (0, 0) ∧ ¬ 6000 < (rulesT l).length := by
  unfold printP at h
  split at h
  · rename_i h1; exact absurd h h1
  · rename_i h1
    split at h
    · cases h
    · rename_i h2
      obtain ⟨w1, w2⟩ := wrongR_each (by simpa using h1)
      exact ⟨wrongR_none w1 w2, h2⟩
set_option maxRecDepth 100000 in
set_option maxHeartbeats 4000000 in
theorem pturns_walk (us : List (Ru × Value)) (v : Value) (w : World) (h : InR w v us) (hPT : PTb w.heap.size w) :
    Calls Tryz.prog 3 #[v] w fun e w' => e = .returned (.bool true) ∧ Below w.heap.size w w' := by
  have c0 := alive4_any w hPT
  have hform : ∃ p c, v = .slice p us.length c := by
    rcases h.row with ⟨rfl, p, c, hv⟩ | ⟨g, o, c, hv, _⟩
    · exact ⟨p, c, hv⟩
    · exact ⟨_, c, hv⟩
  obtain ⟨pv, cv, rfl⟩ := hform
  go_enter Tryz.func3, Tryz.ntmps3
  go_wp2_with fail
  refine c0.mono ?_
  rintro e w0 ⟨rfl, hb0⟩
  have i0 := h.below hb0
  have hP0 : PTb w0.heap.size w0 := fun w' hw => hPT w' (hb0.trans (hw.mono hb0.size))
  clear c0
  by_cases hE : (printP (us.map (fun p => p.1))).2.1 = 0
  · obtain ⟨hw0, h6⟩ := printP_good hE
    have c1 := print_fine i0 hP0 hw0 h6
    obtain ⟨h40, hr0⟩ := wrongR_each (l := us.map (fun p => p.1)) (by rw [hw0])
    have h40' : us.length ≤ 40 := by simpa using h40
    have hA : ∀ p ∈ us, allA p.1.2 = true := fun p hp => (ruleP_ok (hr0 p.1 (List.mem_map.2 ⟨p, hp, rfl⟩))).2.1
    have Hw0 := hid_of hw0
    have H6 := hid_of h6
    clear hE i0 hP0 hr0 h40 hw0 h6
    go_wp2_with fail
    refine c1.mono ?_
    rintro e w1 ⟨rfl, hb1⟩
    have hb1w := hb0.trans (hb1.mono hb0.size)
    have hba := hb1w.alloc hb1w.size (.cells #[.int .i64 0, .int .i64 0] 26)
    have hfa := heap_alloc_new w1 (.cells #[.int .i64 0, .int .i64 0] 26)
    have hwg : w.heap.size ≤ w1.heap.size := hb1w.size
    have c2 := parse_any ⟨(rulesT (us.map (fun p => p.1))).toArray⟩ _ rfl (by have := H6.out; simp; omega) (w1.alloc (.cells #[.int .i64 0, .int .i64 0] 26)) (hPT _ hba).1 (hPT _ hba).2.1
    have hgl := lt_of_block hfa
    clear c1 hb1 hb0 hb1w
    go_wp2_with fail
    refine c2.mono ?_
    rintro e w2 ⟨⟨v2, er2, at2, rfl, h2⟩, hb2⟩
    obtain ⟨rfl, us2, r2, h402, hmap⟩ := ptells_turn (by rw [Hw0.out]) (by have := H6.out; omega) h2
    obtain ⟨p2, n2, rfl⟩ := row_form r2.own
    have hf2 := (hb2.block _ (lt_of_block hfa)).trans hfa
    have hb2w := hba.trans (hb2.mono hba.size)
    have hbT := below_setRow hb2w hwg #[.int .i64 0, .int .i64 at2]
    have hfT := setRow_heap w2 w1.heap.size _ #[.int .i64 0, .int .i64 at2] _ _ hf2
    have r2T := r2.later (w' := w2.setRow w1.heap.size #[.int .i64 0, .int .i64 at2]) (fun k hk => setRow_other _ _ _ _ (by omega)) (Nat.le_refl _)
    clear c2 h2 hb2 hba hb2w r2 hfa
    generalize hWT : w2.setRow w1.heap.size #[.int .i64 0, .int .i64 at2] = W at *
    have a0 := (cell_of_row _ _ 0 _ _ _ hfT).trans rfl
    have c3 := lbare_any us _ W (h.below hbT) hA h40'
    go_wp2_with (first
      | (refine wpList_store_row rfl 26 _ _ rfl _ _ rfl rfl _ _ hf2 (by kernel_rfl) (by simp) (by simp [Value.oneCell']) ?_; rw [hWT]))
    refine c3.mono ?_
    rintro e w3 ⟨v3, us3, rfl, r3, hmap3, hb3⟩
    have hb3w := hbT.trans (hb3.mono hbT.size)
    obtain ⟨x1, x2⟩ := rowR_below r2T hb3 h402
    have h403 : us3.length ≤ 40 := by
      have := congrArg List.length hmap3
      simp at this
      omega
    obtain ⟨y1, y2⟩ := rowR_below r3 (Below.refl _ _) h403
    have c4 := same_any _ _ us2 us3 _ _ w3 x1 y1 x2 y2 (by rw [hmap, hmap3])
    obtain ⟨p3, n3, rfl⟩ := row_form r3.own
    clear c3 x1 x2 y1 y2 r2T r3 hb3 hfT a0 hbT
    go_wp2_with fail
    refine c4.mono ?_
    rintro e w4 ⟨rfl, hb4⟩
    have hb4w := hb3w.trans (hb4.mono hb3w.size)
    clear c4 hb4
    go_wp2_with fail
    go_ret
    exact ⟨rfl, hb4w⟩
  · have c1 := print_any us _ w0 i0 hP0
    unfold OutP at c1
    rw [printP_bad hE] at c1
    have hne : ((printP (us.map (fun p => p.1))).2.1 != 0) = true := by simpa using hE
    generalize (printP (us.map (fun p => p.1))).2.1 = E at *
    generalize (((printP (us.map (fun p => p.1))).2.2 : Nat) : Int) = F at *
    clear h i0 hP0 hPT hE
    go_wp2_with fail
    refine c1.mono ?_
    rintro e w1 ⟨rfl, hb1⟩
    have hb1w := hb0.trans (hb1.mono hb0.size)
    have hba := hb1w.alloc hb1w.size (.cells #[.int .i64 E, .int .i64 F] 26)
    clear c1
    go_wp2_with fail
    go_ret
    exact ⟨rfl, hba⟩
end Go.Proofs.YteheahhifihmjaaGreatDoor

/- How rules that came in read: a tree of expressions for each, in memory as it is. -/
namespace Go.Proofs.YteheahhifihmjaaGreatDoor
open Go.ChangeShapes Go.WideShapes Go.ChangeAt Go.WideMaps Go.WideElems Go.RowKit Go.Joins Lx
variable {H : Type} {enc : TypeId × Value → H} {W : World}

theorem inE : Tryz.prog.cellsOf 38 = 5 := by kernel_rfl
theorem inR : Tryz.prog.cellsOf 40 = 6 := by kernel_rfl
theorem inI : Tryz.prog.cellsOf 3 = 1 := by kernel_rfl
theorem inS : Tryz.prog.cellsOf 9 = 1 := by kernel_rfl
theorem inL : Tryz.prog.cellsOf 36 = 1 := by kernel_rfl
theorem in_add (g o n : Nat) : (⟨g, o, none⟩ : Addr).add n = ⟨g, o + n, none⟩ := by
  by_cases h : n = 0
  · subst h; simp [Addr.add]
  · simp [Addr.add, h]
theorem KidsB.up {B : Nat → Prop} : ∀ {d : Nat} {w : World} {sl : Value} {ks : List Ex}, KidsB B d w sl ks → KidsB B (d + 1) w sl ks
  | 0, _, _, _, h => .inl h
  | d + 1, w, sl, ks, h => by
    rcases h with h | ⟨g, o, c, hB, hs, hl, hk⟩
    · exact .inl h
    · refine .inr ⟨g, o, c, hB, hs, hl, fun j k hj => ?_⟩
      obtain ⟨hn, sk, c0, c1, c2, c3, c4, r⟩ := hk j k hj
      exact ⟨hn, sk, c0, c1, c2, c3, c4, KidsB.up r⟩
theorem KidsB.nil (B : Nat → Prop) (d : Nat) (w : World) (p : Option Addr) (c : Nat) : KidsB B d w (.slice p 0 c) [] := by
  cases d with
  | zero => exact ⟨rfl, p, c, rfl⟩
  | succ d => exact .inl ⟨rfl, p, c, rfl⟩
theorem five {α : Type} {l : List α} (h : l.length = 5) : ∃ a b c d e, l = [a, b, c, d, e] := by
  match l, h with
  | [a, b, c, d, e], _ => exact ⟨a, b, c, d, e, rfl⟩
set_option maxRecDepth 100000 in
/-- The five parts of an expression. -/
theorem expr_parts {fuel : Nat} {cs : List Value} {y : DataW H × List MemPlace} (h : DataW.trod enc Tryz.prog W 0 (fun _ => true) true fuel 38 cs = some y) :
    ∃ (k a b : Int) (s : ByteArray) (sl : Value) (m : Nat) (z : DataW H × List MemPlace), fuel = m + 1 ∧ cs = [.int .i64 k, .int .i64 a, .int .i64 b, .string s, sl] ∧ s.size ≤ maxLen ∧ DataW.trod enc Tryz.prog W 0 (fun _ => true) true m 36 [sl] = some z := by
  obtain ⟨xs, m, hf, _, hl, hx, hall⟩ := DataW.trod_struct Tryz.underlying38 h
  rw [inE] at hl
  have hx5 : xs.length = 5 := hx
  obtain ⟨c0, c1, c2, c3, c4, rfl⟩ := five hl
  obtain ⟨x0, x1, x2, x3, x4, rfl⟩ := five hx5
  have h0 : DataW.trod enc Tryz.prog W 0 (fun _ => true) true m 3 (([c0, c1, c2, c3, c4].drop 0).take (Tryz.prog.cellsOf 3)) = some x0 := hall 0 _ rfl
  have h1 : DataW.trod enc Tryz.prog W 0 (fun _ => true) true m 3 (([c0, c1, c2, c3, c4].drop 1).take (Tryz.prog.cellsOf 3)) = some x1 := hall 1 _ rfl
  have h2 : DataW.trod enc Tryz.prog W 0 (fun _ => true) true m 3 (([c0, c1, c2, c3, c4].drop 2).take (Tryz.prog.cellsOf 3)) = some x2 := hall 2 _ rfl
  have h3 : DataW.trod enc Tryz.prog W 0 (fun _ => true) true m 9 (([c0, c1, c2, c3, c4].drop 3).take (Tryz.prog.cellsOf 9)) = some x3 := hall 3 _ rfl
  have h4 : DataW.trod enc Tryz.prog W 0 (fun _ => true) true m 36 (([c0, c1, c2, c3, c4].drop 4).take (Tryz.prog.cellsOf 36)) = some x4 := hall 4 _ rfl
  rw [inI] at h0 h1 h2
  rw [inS] at h3
  rw [inL] at h4
  obtain ⟨k, e0, _⟩ := DataW.trod_int Tryz.underlying3 h0
  obtain ⟨a, e1, _⟩ := DataW.trod_int Tryz.underlying3 h1
  obtain ⟨b, e2, _⟩ := DataW.trod_int Tryz.underlying3 h2
  obtain ⟨s, e3, _, hs⟩ := DataW.trod_string Tryz.underlying9 h3
  simp at e0 e1 e2 e3
  subst e0 e1 e2 e3
  exact ⟨k, a, b, s, c4, m, x4, hf, rfl, hs, h4⟩
theorem str_list (s : ByteArray) : (⟨(s.data.toList).toArray⟩ : ByteArray) = s := by simp
set_option maxRecDepth 100000 in
/-- A row of expressions that came in. -/
theorem open_kids : ∀ (fuel : Nat) (cs : List Value) (x : DataW H × List MemPlace), DataW.trod enc Tryz.prog W 0 (fun _ => true) true fuel 36 cs = some x →
    ∃ (sl : Value) (ks : List Ex), cs = [sl] ∧ KidsB (fun k => k < W.heap.size) fuel W sl ks := by
  intro fuel
  induction fuel using Nat.strongRecOn with
  | ind fuel ih =>
    intro cs x h
    rcases DataW.trod_slice Tryz.underlying36 h with ⟨e, _⟩ | ⟨a, len, cap, elems, rest, m, hf, e, _, _, hlc, hm, hlen, hel, _⟩
    · exact ⟨_, [], e, KidsB.nil _ _ _ _ _⟩
    · by_cases hz : len = 0
      · subst hz
        exact ⟨_, [], e, KidsB.nil _ _ _ _ _⟩
      · obtain ⟨g, o, s⟩ := a
        have each : ∀ i, i < len → ∃ (k : Ex) (sk : Value), s = none ∧ g < W.heap.size ∧ k.name.length ≤ 9223372036854775807 ∧
            W.cell? ⟨g, o + i * 5, none⟩ = some (.int .i64 k.kind) ∧ W.cell? ⟨g, o + i * 5 + 1, none⟩ = some (.int .i64 k.a) ∧ W.cell? ⟨g, o + i * 5 + 2, none⟩ = some (.int .i64 k.b) ∧
            W.cell? ⟨g, o + i * 5 + 3, none⟩ = some (.string ⟨k.name.toArray⟩) ∧ W.cell? ⟨g, o + i * 5 + 4, none⟩ = some sk ∧ KidsB (fun k => k < W.heap.size) m W sk k.kids := by
          have spot : s = none := by
            have h1 := hel 0 (by omega)
            rw [inE] at h1
            have hy : elems[0]? = some (elems[0]'(by omega)) := List.getElem?_eq_getElem _
            rw [hy, Option.bind_eq_some_iff] at h1
            obtain ⟨cs', hc, ht⟩ := h1
            have q := (World.cells?_some hc).2.2 0 (by omega)
            have hl' := (World.cells?_some hc).2.1
            have e0 : cs'[0]? = some (cs'[0]'(by omega)) := List.getElem?_eq_getElem _
            rw [e0] at q
            have q' := World.cell?_spot q
            simpa [Addr.add] using q'
          subst spot
          intro i hi
          have h1 := hel i hi
          rw [inE] at h1
          have hy : elems[i]? = some (elems[i]'(by omega)) := List.getElem?_eq_getElem _
          rw [hy, Option.bind_eq_some_iff] at h1
          obtain ⟨cs', hc, ht⟩ := h1
          obtain ⟨k, a, b, nm, sl, m', z, hm', hcs, hs, htk⟩ := expr_parts ht
          subst hcs
          have q := (World.cells?_some hc).2.2
          rw [in_add] at q
          have q0 := q 0 (by omega)
          have q1 := q 1 (by omega)
          have q2 := q 2 (by omega)
          have q3 := q 3 (by omega)
          have q4 := q 4 (by omega)
          simp only [in_add, Nat.add_zero] at q0 q1 q2 q3 q4
          obtain ⟨sl', ks, esl, hkk⟩ := ih m' (by omega) [sl] z htk
          have esl' : sl = sl' := by simpa using esl
          subst esl'
          subst hm'
          refine ⟨⟨k, a, b, nm.data.toList, ks⟩, sl, rfl, ?_, ?_, ?_, ?_, ?_, ?_, ?_, hkk.up⟩
          · exact block_lt_of_cell (a := ⟨g, o + i * 5, none⟩) (by simpa using q0)
          · rw [← Lib.size_eq]; unfold maxLen at hs; exact hs
          · simpa using q0
          · simpa using q1
          · simpa using q2
          · rw [str_list]; simpa using q3
          · simpa using q4
        have hs0 : s = none := by obtain ⟨_, _, h, _⟩ := each 0 (by omega); exact h
        have hg0 : g < W.heap.size := by obtain ⟨_, _, _, h, _⟩ := each 0 (by omega); exact h
        subst hs0
        let pick : Nat → Ex := fun i => if h : i < len then Classical.choose (each i h) else ex0
        have hpick : ∀ i (h : i < len), pick i = Classical.choose (each i h) := fun i h => by simp only [pick, h, dif_pos]
        refine ⟨.slice (some ⟨g, o, none⟩) len cap, (List.range len).map pick, e, ?_⟩
        subst hf
        refine .inr ⟨g, o, cap, hg0, by simp, by simp; unfold maxLen at hm; omega, fun j k hj => ?_⟩
        have hjl : j < len := by
          have := (List.getElem?_eq_some_iff.1 hj).1
          simpa using this
        have hk : k = pick j := by
          rw [List.getElem?_map, List.getElem?_range hjl] at hj
          exact (Option.some.inj hj).symm
        rw [hk, hpick j hjl]
        obtain ⟨sk, _, _, h3, h4⟩ := Classical.choose_spec (each j hjl)
        exact ⟨h3, sk, h4⟩
end Go.Proofs.YteheahhifihmjaaGreatDoor

/- How rules that came in read: the row of rules. -/
namespace Go.Proofs.YteheahhifihmjaaGreatDoor
open Go.ChangeShapes Go.WideShapes Go.ChangeAt Go.WideMaps Go.WideElems Go.RowKit Go.Joins Lx
variable {H : Type} {enc : TypeId × Value → H} {W : World}

theorem six {α : Type} {l : List α} (h : l.length = 6) : ∃ a b c d e f, l = [a, b, c, d, e, f] := by
  match l, h with
  | [a, b, c, d, e, f], _ => exact ⟨a, b, c, d, e, f, rfl⟩
theorem pair2 {α : Type} {l : List α} (h : l.length = 2) : ∃ a b, l = [a, b] := by
  match l, h with
  | [a, b], _ => exact ⟨a, b, rfl⟩
set_option maxRecDepth 100000 in
/-- The parts of a rule. -/
theorem rule_parts {fuel : Nat} {cs : List Value} {y : DataW H × List MemPlace} (h : DataW.trod enc Tryz.prog W 0 (fun _ => true) true fuel 40 cs = some y) :
    ∃ (nm : ByteArray) (k a b : Int) (s : ByteArray) (sl : Value) (m : Nat) (z : DataW H × List MemPlace), cs = [.string nm, .int .i64 k, .int .i64 a, .int .i64 b, .string s, sl] ∧ nm.size ≤ maxLen ∧ s.size ≤ maxLen ∧ DataW.trod enc Tryz.prog W 0 (fun _ => true) true m 36 [sl] = some z := by
  obtain ⟨xs, m, hf, _, hl, hx, hall⟩ := DataW.trod_struct Tryz.underlying40 h
  rw [inR] at hl
  have hx2 : xs.length = 2 := hx
  obtain ⟨c0, c1, c2, c3, c4, c5, rfl⟩ := six hl
  obtain ⟨x0, x1, rfl⟩ := pair2 hx2
  have h0 : DataW.trod enc Tryz.prog W 0 (fun _ => true) true m 9 (([c0, c1, c2, c3, c4, c5].drop 0).take (Tryz.prog.cellsOf 9)) = some x0 := hall 0 _ rfl
  have h1 : DataW.trod enc Tryz.prog W 0 (fun _ => true) true m 38 (([c0, c1, c2, c3, c4, c5].drop 1).take (Tryz.prog.cellsOf 38)) = some x1 := hall 1 _ rfl
  rw [inS] at h0
  rw [inE] at h1
  obtain ⟨nm, e0, _, hn⟩ := DataW.trod_string Tryz.underlying9 h0
  obtain ⟨k, a, b, s, sl, m', z, _, e1, hs, ht⟩ := expr_parts h1
  simp at e0 e1
  obtain ⟨q1, q2, q3, q4, q5⟩ := e1
  subst e0 q1 q2 q3 q4 q5
  exact ⟨nm, k, a, b, s, c5, m', z, rfl, hn, hs, ht⟩
set_option maxRecDepth 100000 in
/-- A row of rules that came in. -/
theorem open_rules {r : Reach} {b0 : Nat} {v : Value} {d : DataW H} {p : List MemPlace}
    (hv : Value.okWide Tryz.prog W r b0 22 v) (h : DataW.Trod enc Tryz.prog W 0 (fun _ => true) true 22 v d p) : ∃ us, InR W v us := by
  obtain ⟨ao, k0, c0, rfl⟩ := okWide_slice Tryz.underlying22 hv
  obtain ⟨fuel, hf⟩ := h
  have zero : ∀ (q : Option Addr) (c : Nat), ∃ us, InR W (.slice q 0 c) us := fun q c => ⟨[], .inl ⟨rfl, q, c, rfl⟩, by decide, fun p hp => by cases hp⟩
  rcases DataW.trod_slice Tryz.underlying22 hf with ⟨e, _⟩ | ⟨a, len, cap, elems, rest, m, _, e, _, _, hlc, hm, hlen, hel, _⟩
  · have e' : Value.slice ao k0 c0 = .slice none 0 0 := by simpa [Value.cells] using e
    rw [e']; exact zero _ _
  · have e' : Value.slice ao k0 c0 = .slice (some a) len cap := by simpa [Value.cells] using e
    rw [e']
    by_cases hz : len = 0
    · subst hz; exact zero _ _
    obtain ⟨g, o, s⟩ := a
    have spot : s = none := by
      have h1 := hel 0 (by omega)
      rw [inR] at h1
      have hy : elems[0]? = some (elems[0]'(by omega)) := List.getElem?_eq_getElem _
      rw [hy, Option.bind_eq_some_iff] at h1
      obtain ⟨cs', hc, ht⟩ := h1
      have q := (World.cells?_some hc).2.2 0 (by omega)
      have hl' := (World.cells?_some hc).2.1
      have e0 : cs'[0]? = some (cs'[0]'(by omega)) := List.getElem?_eq_getElem _
      rw [e0] at q
      have q' := World.cell?_spot q
      simpa [Addr.add] using q'
    subst spot
    have each : ∀ i, i < len → ∃ u : Ru × Value, RuleIn W u ∧
        W.cell? ⟨g, o + i * 6, none⟩ = some (.string ⟨u.1.1.toArray⟩) ∧ W.cell? ⟨g, o + i * 6 + 1, none⟩ = some (.int .i64 u.1.2.kind) ∧ W.cell? ⟨g, o + i * 6 + 2, none⟩ = some (.int .i64 u.1.2.a) ∧ W.cell? ⟨g, o + i * 6 + 3, none⟩ = some (.int .i64 u.1.2.b) ∧
        W.cell? ⟨g, o + i * 6 + 4, none⟩ = some (.string ⟨u.1.2.name.toArray⟩) ∧ W.cell? ⟨g, o + i * 6 + 5, none⟩ = some u.2 := by
      intro i hi
      have h1 := hel i hi
      rw [inR] at h1
      have hy : elems[i]? = some (elems[i]'(by omega)) := List.getElem?_eq_getElem _
      rw [hy, Option.bind_eq_some_iff] at h1
      obtain ⟨cs', hc, ht⟩ := h1
      obtain ⟨nm, k, a, b, x, sl, m', z, hcs, hn, hs, htk⟩ := rule_parts ht
      subst hcs
      have q := (World.cells?_some hc).2.2
      rw [in_add] at q
      have q0 := q 0 (by omega)
      have q1 := q 1 (by omega)
      have q2 := q 2 (by omega)
      have q3 := q 3 (by omega)
      have q4 := q 4 (by omega)
      have q5 := q 5 (by omega)
      simp only [in_add, Nat.add_zero] at q0 q1 q2 q3 q4 q5
      obtain ⟨sl', ks, esl, hkk⟩ := open_kids m' [sl] z htk
      have esl' : sl = sl' := by simpa using esl
      subst esl'
      refine ⟨((nm.data.toList, ⟨k, a, b, x.data.toList, ks⟩), sl), ⟨?_, ?_, m', hkk⟩, ?_, ?_, ?_, ?_, ?_, ?_⟩
      · show nm.data.toList.length ≤ _; rw [← Lib.size_eq]; unfold maxLen at hn; exact hn
      · show x.data.toList.length ≤ _; rw [← Lib.size_eq]; unfold maxLen at hs; exact hs
      · rw [str_list]; simpa using q0
      · simpa using q1
      · simpa using q2
      · simpa using q3
      · rw [str_list]; simpa using q4
      · simpa using q5
    let pick : Nat → Ru × Value := fun i => if h : i < len then Classical.choose (each i h) else (([], ex0), .slice none 0 0)
    have hpick : ∀ i (h : i < len), pick i = Classical.choose (each i h) := fun i h => by simp only [pick, h, dif_pos]
    have hat : ∀ (j : Nat) (u : Ru × Value), ((List.range len).map pick)[j]? = some u → ∃ h : j < len, u = Classical.choose (each j h) := fun j u hj => by
      have hjl : j < len := by
        have := (List.getElem?_eq_some_iff.1 hj).1
        simpa using this
      rw [List.getElem?_map, List.getElem?_range hjl] at hj
      exact ⟨hjl, (Option.some.inj hj).symm.trans (hpick j hjl)⟩
    have hl2 : len < 9223372036854775808 := by unfold maxLen at hm; omega
    refine ⟨(List.range len).map pick, .inr ⟨g, o, cap, by simp, by simpa using hl2, fun j u hj => ?_⟩, by simpa using hl2, fun u hu => ?_⟩
    · obtain ⟨hjl, e1⟩ := hat j u hj
      rw [e1]
      exact (Classical.choose_spec (each j hjl)).2
    · obtain ⟨j, hj⟩ := List.getElem?_of_mem hu
      obtain ⟨hjl, e1⟩ := hat j u hj
      rw [e1]
      exact (Classical.choose_spec (each j hjl)).1
end Go.Proofs.YteheahhifihmjaaGreatDoor

/- A rule whose expression stands in brackets: plain. -/
namespace Go.Proofs.YteheahhifihmjaaGreatDoor
open Go.RowKit Lx

/-- The text of an expression in so many brackets. -/
def bodyT (e : Ex) : Nat → List UInt8
  | 0 => textE e 0
  | t + 1 => [40] ++ bodyT e t ++ [41]
theorem body_len (e : Ex) : ∀ t, (bodyT e t).length = (textE e 0).length + 2 * t
  | 0 => by simp [bodyT]
  | t + 1 => by
    have := body_len e t
    simp [bodyT]
    omega
theorem body_all {e : Ex} (h : allA e = true) : ∀ t, ∃ ts, (∀ r, Ends r → Goes ts (bodyT e t ++ r) (skp r)) ∧ Starts (bodyT e t) ∧ K0 e ts (41 - t)
  | 0 => by
    obtain ⟨ts, g, s, k, _⟩ := txt0 h
    exact ⟨ts, g, s, k rfl⟩
  | t + 1 => by
    obtain ⟨ts, g, s, k⟩ := body_all h t
    refine ⟨sgT 40 :: (ts ++ [sgT 41]), fun r _ => goes_brackets g s r, st_sign (by decide), ?_⟩
    have := (k.brackets (by omega)).k2.k1.k0
    rw [show 41 - (t + 1) = 41 - t - 1 by omega]
    exact this
/-- The text of a rule of that name whose expression stands in so many brackets. -/
def brackT (e : Ex) (t : Nat) : List UInt8 := [114, 117, 108, 101, 32, 97, 32, 61, 32] ++ bodyT e t ++ [59]
theorem brack_plain {e : Ex} (hr : ruleP ([97], e) = 0) (t : Nat) : ∃ us k, Lexed (brackT e t) us k ∧ ¬ k < (brackT e t).length ∧ (rulesR (brackT e t).length (us.length + 1) [] us = .ok [([97], bareE e)] ∨ ∃ at_, rulesR (brackT e t).length (us.length + 1) [] us = .error (4, at_)) := by
  obtain ⟨h1, h2, h3, h4⟩ := ruleP_ok hr
  obtain ⟨ts, g, s, k⟩ := body_all h2 t
  have a := goes_rule (x := [97]) h1 g s []
  rw [skp_nil] at a
  have et : brackT e t = wRule ++ 32 :: ([97] ++ 32 :: 61 :: 32 :: (bodyT e t ++ 59 :: [])) := by
    unfold brackT wRule
    simp
  have hs : skp (brackT e t) = brackT e t := by
    rw [et]
    exact skp_starts ((Starts.word (x := wRule) (by decide) (by decide)).app _)
  rw [← et, ← hs] at a
  obtain ⟨us, kk, l1, l2, l3⟩ := goes_all a
  refine ⟨us, kk, l1, l3, ?_⟩
  obtain ⟨r, b1, b2⟩ := rs_of_map (us := []) (show us.map (fun p => p.1) = (wdT wRule :: ruTk [97] ts) ++ [] by rw [l2]; simp)
  have hr0 : r = [] := by simpa using b2
  subst hr0
  obtain ⟨p, q1, rfl, b3⟩ := b1.cons
  rw [List.length_cons, rulesR, if_neg (by simp), if_pos (show isT wRule ((wdT wRule, p) :: q1) = true from rfl), if_neg (by simp)]
  have ht : ((wdT wRule, p) :: q1).tail = q1 := rfl
  rw [ht]
  rcases ruleR_or (E := (brackT e t).length) h3 h4 k b3 with H | ⟨_, at_, H⟩
  · rw [H]
    left
    dsimp only
    rw [rulesR]
    simp
  · rw [H]
    exact .inr ⟨at_, rfl⟩
theorem ptells_brack {e : Ex} (hr : ruleP ([97], e) = 0) {t : Nat} {w0 w : World} {v : Value} {er at_ : Int} (h : PTells (brackT e t) w0 w v er at_) :
    er = 4 ∨ (er = 0 ∧ ∃ us : List (Ru × Value), RowR w0 w v us ∧ us.length ≤ 40 ∧ us.map (fun p => p.1) = [([97], bareE e)]) := by
  by_cases h6 : (brackT e t).length ≤ 6000
  · obtain ⟨us, k, l1, l2, l3⟩ := brack_plain hr t
    rcases ptells_of h6 l1 l2 h with ⟨er', at', g1, g2⟩ | ⟨g1, us', g2, g3, g4⟩
    · rcases l3 with l3 | ⟨at2, l3⟩
      · rw [l3] at g1; cases g1
      · rw [l3] at g1
        cases g1
        exact .inl g2
    · rcases l3 with l3 | ⟨at2, l3⟩
      · rw [l3] at g4
        exact .inr ⟨g1, us', g2, g3, (Except.ok.inj g4).symm⟩
      · rw [l3] at g4; cases g4
  · rcases h with ⟨_, _, h, _⟩ | ⟨_, _, h, _⟩ | ⟨_, _, _, _, h, _⟩ | ⟨_, _, _, h, _⟩
    · exact .inl h
    · omega
    · omega
    · omega
theorem rulesT_one (e : Ex) : rulesT [([97], e)] = [114, 117, 108, 101, 32, 97, 32, 61, 32] ++ textE e 0 ++ [59, 10] := by
  simp [rulesT, ruleT]
end Go.Proofs.YteheahhifihmjaaGreatDoor
