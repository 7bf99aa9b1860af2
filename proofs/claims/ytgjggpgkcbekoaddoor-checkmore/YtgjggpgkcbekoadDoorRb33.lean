/- What the condition on the two listed tables (months, names of days) gives the walks, and the start that meets it. -/
import Derived.Test.YtgjggpgkcbekoadDoorRb09
import Derived.Test.YtgjggpgkcbekoadDoorRb05
import Derived.Test.YtgjggpgkcbekoadDoorCards
import Derived.Test.YtgjggpgkcbekoadDoorTie
import Derived.ProofKit
import Derived.LaidMore
import Derived.OpenShut
import Derived.Stop.Joined
import Derived.SevenTiedAt
import Derived.Lib.SmallJoins
import Derived.Lib.LaidTab
import Derived.Test.YtgjggpgkcbekoadDoorRb22
import Derived.Test.YtgjggpgkcbekoadDoorRb30
import Derived.Test.YtgjggpgkcbekoadDoorRb23
import Derived.Test.YtgjggpgkcbekoadDoorRb08
import Derived.Laws.AppendOwnNone
namespace Go.Proofs.YtgjggpgkcbekoadDoor
open Go.ChangeShapes Go.WideShapes Go.ChangeAt Go.WideMaps Go.WideElems Go.RowKit Go.Joins Lx

/-- The listed variables. -/
abbrev laid2 : List (String × DataW Unit) := Rows.checkUsesRow.laid
def lenName : String := (Rows.checkUsesRow.named.headD default)
def dayName : String := (Rows.checkUsesRow.named.getD 1 default)
theorem own : ownKnob Tryd.prog.godebug = none := by kernel_rfl
theorem gLen : Tryd.prog.globalNamed lenName = some 0 := by kernel_rfl
theorem tLen : (Tryd.prog.globals[0]?).map (·.type) = some 101 := by kernel_rfl
theorem gDay : Tryd.prog.globalNamed dayName = some 2 := by kernel_rfl
theorem tDay : (Tryd.prog.globals[2]?).map (·.type) = some 108 := by kernel_rfl
theorem c3 : Tryd.prog.cellsOf 3 = 1 := by kernel_rfl
theorem c34 : Tryd.prog.cellsOf 101 = 12 := by kernel_rfl
theorem cStr : Tryd.prog.cellsOf 9 = 1 := by kernel_rfl
theorem cDay : Tryd.prog.cellsOf 108 = 7 := by kernel_rfl
theorem door_met (os : Os) (args : Array Value) : laidMetH Tryd.prog laid2 ((World.doorLaid Tryd.prog 400 os).forCall (fun _ _ => 0) ⟨#[], args, []⟩).memory :=
  laidMetH_of_parts3 (fuel := 8) (laidMet_of_run' 8 (by kernel_rfl) (by kernel_rfl)) (by kernel_rfl) (by kernel_rfl)
theorem ctab_of_laid {W : World} (h : laidMetH Tryd.prog laid2 W) : CTab W := by
  rw [MakeChecks.laidMetH_plain _ _ _ (by kernel_rfl)] at h
  have t : Lib.TabIs Tryd.prog W lenName .i64 tab := Lib.tabIs_of_head (name := lenName) (rest := Rows.checkUsesRow.laid.tail) gLen tLen Tryd.underlying101 Tryd.underlying3 c3 c34 h
  intro i hi
  exact t.cell gLen i (by simpa [tab] using hi)
/-- A cell of an array of strings, where the array reads as these texts. -/
theorem str_cell {H : Type} {enc : TypeId × Value → H} {P : Program} {w : World} {base : Nat} {sp : Nat → Bool} {held : Bool} {t e : TypeId} {n : Nat} {cs : List Value} {zs : List (List UInt8)} {p : List MemPlace} (ht : P.underlying t = some (.array n e)) (he : P.underlying e = some .string) (hce : P.cellsOf e = 1) (hct : P.cellsOf t = n) :
    ∀ fuel, DataW.trod enc P w base sp held fuel t cs = some (.agg (zs.map fun z => .lit (.string z)), p) → ∀ (i : Nat) (z : List UInt8), zs[i]? = some z → cs[i]? = some (.string ⟨z.toArray⟩)
  | 0, h, _, _, _ => by simp [DataW.trod] at h
  | fuel + 1, h, i, z, hz => by
    simp only [DataW.trod, ht, hce, hct, Nat.mul_one] at h
    split at h
    · obtain ⟨xs, hm, hx⟩ := Option.map_eq_some_iff.1 h
      have h1 : xs.map (fun x => x.1) = zs.map fun z => (DataW.lit (.string z) : DataW H) := by simpa using congrArg Prod.fst hx
      have h2 : (xs.map fun x => x.1)[i]? = some (DataW.lit (.string z) : DataW H) := by rw [h1, List.getElem?_map, hz]; rfl
      rw [List.getElem?_map] at h2
      obtain ⟨x, hx1, hx2⟩ := Option.map_eq_some_iff.1 h2
      have hin : i < n := by
        have a := (List.getElem?_eq_some_iff.1 hx1).1
        have b := Lib.mapM_length hm
        simp at b; omega
      obtain ⟨b, hb, hf⟩ := Lib.mapM_at hm i i (by simp [hin])
      obtain ⟨s, hc, rfl, _⟩ := DataW.trod_string he hf
      rw [hb] at hx1
      obtain rfl := Option.some.inj hx1
      have hs : s.data.toList = z := by simpa using hx2
      have h3 := congrArg (fun l : List Value => l[0]?) hc
      have h4 : cs[i]? = some (.string s) := by simpa [List.getElem?_take, List.getElem?_drop] using h3
      rw [h4, ← hs]
    · cases h
theorem dtab_of_laid {W : World} (h : laidMetH Tryd.prog laid2 W) : DTab W := by
  rw [MakeChecks.laidMetH_plain _ _ _ (by kernel_rfl)] at h
  obtain ⟨ps, ⟨_, _, _, _, _, _, _, _, _, _, ⟨g, t, cs, fuel, p, q, hg, ht, hv, hd, _, _⟩, _⟩, _⟩ := h
  obtain rfl := Option.some.inj (gDay.symm.trans hg)
  obtain rfl := Option.some.inj (tDay.symm.trans ht)
  intro j hj
  have hz : wDays[j]? = some (wDays.getD j []) := by
    rw [List.getD_eq_getElem?_getD, List.getElem?_eq_getElem (by exact hj)]; rfl
  have hc := str_cell (zs := wDays) Tryd.underlying108 Tryd.underlying9 cStr cDay fuel hd j _ hz
  have := World.var?_cell gDay hv j
  rw [this]
  simpa using hc
end Go.Proofs.YtgjggpgkcbekoadDoor

/- How rules that came in read: a tree of expressions for each, in memory as it is. -/
namespace Go.Proofs.YtgjggpgkcbekoadDoor
open Go.ChangeShapes Go.WideShapes Go.ChangeAt Go.WideMaps Go.WideElems Go.RowKit Go.Joins Lx
variable {H : Type} {enc : TypeId × Value → H} {W : World}

theorem inE : Tryd.prog.cellsOf 34 = 5 := by kernel_rfl
theorem inR : Tryd.prog.cellsOf 36 = 6 := by kernel_rfl
theorem inI : Tryd.prog.cellsOf 3 = 1 := by kernel_rfl
theorem inS : Tryd.prog.cellsOf 9 = 1 := by kernel_rfl
theorem inL : Tryd.prog.cellsOf 32 = 1 := by kernel_rfl
theorem in_add (g o n : Nat) : (⟨g, o, none⟩ : Addr).add n = ⟨g, o + n, none⟩ := by
  by_cases h : n = 0
  · subst h; simp [Addr.add]
  · simp [Addr.add, h]
theorem KidsB.up {B : Nat → Prop} : ∀ {d : Nat} {w : World} {sl : Value} {ks : List Ex}, KidsB B d w sl ks → KidsB B (d + 1) w sl ks
  | 0, _, _, _, h => .inl h
  | d + 1, w, sl, ks, h => by
    rcases h with h | ⟨g, o, c, hB, hs, hl, hk⟩
    · exact .inl h
    · refine .inr ⟨g, o, c, hB, hs, hl, fun j k hj => ?_⟩
      obtain ⟨hn, sk, c0, c1, c2, c3, c4, r⟩ := hk j k hj
      exact ⟨hn, sk, c0, c1, c2, c3, c4, KidsB.up r⟩
theorem KidsB.nil (B : Nat → Prop) (d : Nat) (w : World) (p : Option Addr) (c : Nat) : KidsB B d w (.slice p 0 c) [] := by
  cases d with
  | zero => exact ⟨rfl, p, c, rfl⟩
  | succ d => exact .inl ⟨rfl, p, c, rfl⟩
theorem five {α : Type} {l : List α} (h : l.length = 5) : ∃ a b c d e, l = [a, b, c, d, e] := by
  match l, h with
  | [a, b, c, d, e], _ => exact ⟨a, b, c, d, e, rfl⟩
set_option maxRecDepth 100000 in
/-- The five parts of an expression. -/
theorem expr_parts {fuel : Nat} {cs : List Value} {y : DataW H × List MemPlace} (h : DataW.trod enc Tryd.prog W 0 (fun _ => true) true fuel 34 cs = some y) :
    ∃ (k a b : Int) (s : ByteArray) (sl : Value) (m : Nat) (z : DataW H × List MemPlace), fuel = m + 1 ∧ cs = [.int .i64 k, .int .i64 a, .int .i64 b, .string s, sl] ∧ s.size ≤ maxLen ∧ DataW.trod enc Tryd.prog W 0 (fun _ => true) true m 32 [sl] = some z := by
  obtain ⟨xs, m, hf, _, hl, hx, hall⟩ := DataW.trod_struct Tryd.underlying34 h
  rw [inE] at hl
  have hx5 : xs.length = 5 := hx
  obtain ⟨c0, c1, c2, c3, c4, rfl⟩ := five hl
  obtain ⟨x0, x1, x2, x3, x4, rfl⟩ := five hx5
  have h0 : DataW.trod enc Tryd.prog W 0 (fun _ => true) true m 3 (([c0, c1, c2, c3, c4].drop 0).take (Tryd.prog.cellsOf 3)) = some x0 := hall 0 _ rfl
  have h1 : DataW.trod enc Tryd.prog W 0 (fun _ => true) true m 3 (([c0, c1, c2, c3, c4].drop 1).take (Tryd.prog.cellsOf 3)) = some x1 := hall 1 _ rfl
  have h2 : DataW.trod enc Tryd.prog W 0 (fun _ => true) true m 3 (([c0, c1, c2, c3, c4].drop 2).take (Tryd.prog.cellsOf 3)) = some x2 := hall 2 _ rfl
  have h3 : DataW.trod enc Tryd.prog W 0 (fun _ => true) true m 9 (([c0, c1, c2, c3, c4].drop 3).take (Tryd.prog.cellsOf 9)) = some x3 := hall 3 _ rfl
  have h4 : DataW.trod enc Tryd.prog W 0 (fun _ => true) true m 32 (([c0, c1, c2, c3, c4].drop 4).take (Tryd.prog.cellsOf 32)) = some x4 := hall 4 _ rfl
  rw [inI] at h0 h1 h2
  rw [inS] at h3
  rw [inL] at h4
  obtain ⟨k, e0, _⟩ := DataW.trod_int Tryd.underlying3 h0
  obtain ⟨a, e1, _⟩ := DataW.trod_int Tryd.underlying3 h1
  obtain ⟨b, e2, _⟩ := DataW.trod_int Tryd.underlying3 h2
  obtain ⟨s, e3, _, hs⟩ := DataW.trod_string Tryd.underlying9 h3
  simp at e0 e1 e2 e3
  subst e0 e1 e2 e3
  exact ⟨k, a, b, s, c4, m, x4, hf, rfl, hs, h4⟩
theorem str_list (s : ByteArray) : (⟨(s.data.toList).toArray⟩ : ByteArray) = s := by simp
set_option maxRecDepth 100000 in
/-- A row of expressions that came in. -/
theorem open_kids : ∀ (fuel : Nat) (cs : List Value) (x : DataW H × List MemPlace), DataW.trod enc Tryd.prog W 0 (fun _ => true) true fuel 32 cs = some x →
    ∃ (sl : Value) (ks : List Ex), cs = [sl] ∧ KidsB (fun k => k < W.heap.size) fuel W sl ks := by
  intro fuel
  induction fuel using Nat.strongRecOn with
  | ind fuel ih =>
    intro cs x h
    rcases DataW.trod_slice Tryd.underlying32 h with ⟨e, _⟩ | ⟨a, len, cap, elems, rest, m, hf, e, _, _, hlc, hm, hlen, hel, _⟩
    · exact ⟨_, [], e, KidsB.nil _ _ _ _ _⟩
    · by_cases hz : len = 0
      · subst hz
        exact ⟨_, [], e, KidsB.nil _ _ _ _ _⟩
      · obtain ⟨g, o, s⟩ := a
        have each : ∀ i, i < len → ∃ (k : Ex) (sk : Value), s = none ∧ g < W.heap.size ∧ k.name.length ≤ 9223372036854775807 ∧
            W.cell? ⟨g, o + i * 5, none⟩ = some (.int .i64 k.kind) ∧ W.cell? ⟨g, o + i * 5 + 1, none⟩ = some (.int .i64 k.a) ∧ W.cell? ⟨g, o + i * 5 + 2, none⟩ = some (.int .i64 k.b) ∧
            W.cell? ⟨g, o + i * 5 + 3, none⟩ = some (.string ⟨k.name.toArray⟩) ∧ W.cell? ⟨g, o + i * 5 + 4, none⟩ = some sk ∧ KidsB (fun k => k < W.heap.size) m W sk k.kids := by
          have spot : s = none := by
            have h1 := hel 0 (by omega)
            rw [inE] at h1
            have hy : elems[0]? = some (elems[0]'(by omega)) := List.getElem?_eq_getElem _
            rw [hy, Option.bind_eq_some_iff] at h1
            obtain ⟨cs', hc, ht⟩ := h1
            have q := (World.cells?_some hc).2.2 0 (by omega)
            have hl' := (World.cells?_some hc).2.1
            have e0 : cs'[0]? = some (cs'[0]'(by omega)) := List.getElem?_eq_getElem _
            rw [e0] at q
            have q' := World.cell?_spot q
            simpa [Addr.add] using q'
          subst spot
          intro i hi
          have h1 := hel i hi
          rw [inE] at h1
          have hy : elems[i]? = some (elems[i]'(by omega)) := List.getElem?_eq_getElem _
          rw [hy, Option.bind_eq_some_iff] at h1
          obtain ⟨cs', hc, ht⟩ := h1
          obtain ⟨k, a, b, nm, sl, m', z, hm', hcs, hs, htk⟩ := expr_parts ht
          subst hcs
          have q := (World.cells?_some hc).2.2
          rw [in_add] at q
          have q0 := q 0 (by omega)
          have q1 := q 1 (by omega)
          have q2 := q 2 (by omega)
          have q3 := q 3 (by omega)
          have q4 := q 4 (by omega)
          simp only [in_add, Nat.add_zero] at q0 q1 q2 q3 q4
          obtain ⟨sl', ks, esl, hkk⟩ := ih m' (by omega) [sl] z htk
          have esl' : sl = sl' := by simpa using esl
          subst esl'
          subst hm'
          refine ⟨⟨k, a, b, nm.data.toList, ks⟩, sl, rfl, ?_, ?_, ?_, ?_, ?_, ?_, ?_, hkk.up⟩
          · exact block_lt_of_cell (a := ⟨g, o + i * 5, none⟩) (by simpa using q0)
          · rw [← Lib.size_eq]; unfold maxLen at hs; exact hs
          · simpa using q0
          · simpa using q1
          · simpa using q2
          · rw [str_list]; simpa using q3
          · simpa using q4
        have hs0 : s = none := by obtain ⟨_, _, h, _⟩ := each 0 (by omega); exact h
        have hg0 : g < W.heap.size := by obtain ⟨_, _, _, h, _⟩ := each 0 (by omega); exact h
        subst hs0
        let pick : Nat → Ex := fun i => if h : i < len then Classical.choose (each i h) else ex0
        have hpick : ∀ i (h : i < len), pick i = Classical.choose (each i h) := fun i h => by simp only [pick, h, dif_pos]
        refine ⟨.slice (some ⟨g, o, none⟩) len cap, (List.range len).map pick, e, ?_⟩
        subst hf
        refine .inr ⟨g, o, cap, hg0, by simp, by simp; unfold maxLen at hm; omega, fun j k hj => ?_⟩
        have hjl : j < len := by
          have := (List.getElem?_eq_some_iff.1 hj).1
          simpa using this
        have hk : k = pick j := by
          rw [List.getElem?_map, List.getElem?_range hjl] at hj
          exact (Option.some.inj hj).symm
        rw [hk, hpick j hjl]
        obtain ⟨sk, _, _, h3, h4⟩ := Classical.choose_spec (each j hjl)
        exact ⟨h3, sk, h4⟩
end Go.Proofs.YtgjggpgkcbekoadDoor

/- How rules that came in read: the row of rules. -/
namespace Go.Proofs.YtgjggpgkcbekoadDoor
open Go.ChangeShapes Go.WideShapes Go.ChangeAt Go.WideMaps Go.WideElems Go.RowKit Go.Joins Lx
variable {H : Type} {enc : TypeId × Value → H} {W : World}

theorem six {α : Type} {l : List α} (h : l.length = 6) : ∃ a b c d e f, l = [a, b, c, d, e, f] := by
  match l, h with
  | [a, b, c, d, e, f], _ => exact ⟨a, b, c, d, e, f, rfl⟩
theorem pair2 {α : Type} {l : List α} (h : l.length = 2) : ∃ a b, l = [a, b] := by
  match l, h with
  | [a, b], _ => exact ⟨a, b, rfl⟩
set_option maxRecDepth 100000 in
/-- The parts of a rule. -/
theorem rule_parts {fuel : Nat} {cs : List Value} {y : DataW H × List MemPlace} (h : DataW.trod enc Tryd.prog W 0 (fun _ => true) true fuel 36 cs = some y) :
    ∃ (nm : ByteArray) (k a b : Int) (s : ByteArray) (sl : Value) (m : Nat) (z : DataW H × List MemPlace), cs = [.string nm, .int .i64 k, .int .i64 a, .int .i64 b, .string s, sl] ∧ nm.size ≤ maxLen ∧ s.size ≤ maxLen ∧ DataW.trod enc Tryd.prog W 0 (fun _ => true) true m 32 [sl] = some z := by
  obtain ⟨xs, m, hf, _, hl, hx, hall⟩ := DataW.trod_struct Tryd.underlying36 h
  rw [inR] at hl
  have hx2 : xs.length = 2 := hx
  obtain ⟨c0, c1, c2, c3, c4, c5, rfl⟩ := six hl
  obtain ⟨x0, x1, rfl⟩ := pair2 hx2
  have h0 : DataW.trod enc Tryd.prog W 0 (fun _ => true) true m 9 (([c0, c1, c2, c3, c4, c5].drop 0).take (Tryd.prog.cellsOf 9)) = some x0 := hall 0 _ rfl
  have h1 : DataW.trod enc Tryd.prog W 0 (fun _ => true) true m 34 (([c0, c1, c2, c3, c4, c5].drop 1).take (Tryd.prog.cellsOf 34)) = some x1 := hall 1 _ rfl
  rw [inS] at h0
  rw [inE] at h1
  obtain ⟨nm, e0, _, hn⟩ := DataW.trod_string Tryd.underlying9 h0
  obtain ⟨k, a, b, s, sl, m', z, _, e1, hs, ht⟩ := expr_parts h1
  simp at e0 e1
  obtain ⟨q1, q2, q3, q4, q5⟩ := e1
  subst e0 q1 q2 q3 q4 q5
  exact ⟨nm, k, a, b, s, c5, m', z, rfl, hn, hs, ht⟩
set_option maxRecDepth 100000 in
/-- A row of rules that came in. -/
theorem open_rules {r : Reach} {b0 : Nat} {v : Value} {d : DataW H} {p : List MemPlace}
    (hv : Value.okWide Tryd.prog W r b0 22 v) (h : DataW.Trod enc Tryd.prog W 0 (fun _ => true) true 22 v d p) : ∃ us, InR W v us := by
  obtain ⟨ao, k0, c0, rfl⟩ := okWide_slice Tryd.underlying22 hv
  obtain ⟨fuel, hf⟩ := h
  have zero : ∀ (q : Option Addr) (c : Nat), ∃ us, InR W (.slice q 0 c) us := fun q c => ⟨[], .inl ⟨rfl, q, c, rfl⟩, by decide, fun p hp => by cases hp⟩
  rcases DataW.trod_slice Tryd.underlying22 hf with ⟨e, _⟩ | ⟨a, len, cap, elems, rest, m, _, e, _, _, hlc, hm, hlen, hel, _⟩
  · have e' : Value.slice ao k0 c0 = .slice none 0 0 := by simpa [Value.cells] using e
    rw [e']; exact zero _ _
  · have e' : Value.slice ao k0 c0 = .slice (some a) len cap := by simpa [Value.cells] using e
    rw [e']
    by_cases hz : len = 0
    · subst hz; exact zero _ _
    obtain ⟨g, o, s⟩ := a
    have spot : s = none := by
      have h1 := hel 0 (by omega)
      rw [inR] at h1
      have hy : elems[0]? = some (elems[0]'(by omega)) := List.getElem?_eq_getElem _
      rw [hy, Option.bind_eq_some_iff] at h1
      obtain ⟨cs', hc, ht⟩ := h1
      have q := (World.cells?_some hc).2.2 0 (by omega)
      have hl' := (World.cells?_some hc).2.1
      have e0 : cs'[0]? = some (cs'[0]'(by omega)) := List.getElem?_eq_getElem _
      rw [e0] at q
      have q' := World.cell?_spot q
      simpa [Addr.add] using q'
    subst spot
    have each : ∀ i, i < len → ∃ u : Ru × Value, RuleIn W u ∧
        W.cell? ⟨g, o + i * 6, none⟩ = some (.string ⟨u.1.1.toArray⟩) ∧ W.cell? ⟨g, o + i * 6 + 1, none⟩ = some (.int .i64 u.1.2.kind) ∧ W.cell? ⟨g, o + i * 6 + 2, none⟩ = some (.int .i64 u.1.2.a) ∧ W.cell? ⟨g, o + i * 6 + 3, none⟩ = some (.int .i64 u.1.2.b) ∧
        W.cell? ⟨g, o + i * 6 + 4, none⟩ = some (.string ⟨u.1.2.name.toArray⟩) ∧ W.cell? ⟨g, o + i * 6 + 5, none⟩ = some u.2 := by
      intro i hi
      have h1 := hel i hi
      rw [inR] at h1
      have hy : elems[i]? = some (elems[i]'(by omega)) := List.getElem?_eq_getElem _
      rw [hy, Option.bind_eq_some_iff] at h1
      obtain ⟨cs', hc, ht⟩ := h1
      obtain ⟨nm, k, a, b, x, sl, m', z, hcs, hn, hs, htk⟩ := rule_parts ht
      subst hcs
      have q := (World.cells?_some hc).2.2
      rw [in_add] at q
      have q0 := q 0 (by omega)
      have q1 := q 1 (by omega)
      have q2 := q 2 (by omega)
      have q3 := q 3 (by omega)
      have q4 := q 4 (by omega)
      have q5 := q 5 (by omega)
      simp only [in_add, Nat.add_zero] at q0 q1 q2 q3 q4 q5
      obtain ⟨sl', ks, esl, hkk⟩ := open_kids m' [sl] z htk
      have esl' : sl = sl' := by simpa using esl
      subst esl'
      refine ⟨((nm.data.toList, ⟨k, a, b, x.data.toList, ks⟩), sl), ⟨?_, ?_, m', hkk⟩, ?_, ?_, ?_, ?_, ?_, ?_⟩
      · show nm.data.toList.length ≤ _; rw [← Lib.size_eq]; unfold maxLen at hn; exact hn
      · show x.data.toList.length ≤ _; rw [← Lib.size_eq]; unfold maxLen at hs; exact hs
      · rw [str_list]; simpa using q0
      · simpa using q1
      · simpa using q2
      · simpa using q3
      · rw [str_list]; simpa using q4
      · simpa using q5
    let pick : Nat → Ru × Value := fun i => if h : i < len then Classical.choose (each i h) else (([], ex0), .slice none 0 0)
    have hpick : ∀ i (h : i < len), pick i = Classical.choose (each i h) := fun i h => by simp only [pick, h, dif_pos]
    have hat : ∀ (j : Nat) (u : Ru × Value), ((List.range len).map pick)[j]? = some u → ∃ h : j < len, u = Classical.choose (each j h) := fun j u hj => by
      have hjl : j < len := by
        have := (List.getElem?_eq_some_iff.1 hj).1
        simpa using this
      rw [List.getElem?_map, List.getElem?_range hjl] at hj
      exact ⟨hjl, (Option.some.inj hj).symm.trans (hpick j hjl)⟩
    have hl2 : len < 9223372036854775808 := by unfold maxLen at hm; omega
    refine ⟨(List.range len).map pick, .inr ⟨g, o, cap, by simp, by simpa using hl2, fun j u hj => ?_⟩, by simpa using hl2, fun u hu => ?_⟩
    · obtain ⟨hjl, e1⟩ := hat j u hj
      rw [e1]
      exact (Classical.choose_spec (each j hjl)).2
    · obtain ⟨j, hj⟩ := List.getElem?_of_mem hu
      obtain ⟨hjl, e1⟩ := hat j u hj
      rw [e1]
      exact (Classical.choose_spec (each j hjl)).1
end Go.Proofs.YtgjggpgkcbekoadDoor

/- A rule more that nobody speaks of, of a new name, that speaks of none: plain. -/
namespace Go.Proofs.YtgjggpgkcbekoadDoor
open Go.RowKit Lx

/-- The rule that comes more. -/
def newR (nm : List UInt8) : Ru := (nm, ⟨1, 0, 0, [], []⟩)
theorem new_nms (nm : List UInt8) : nms (newR nm).2 = [] := by simp [newR, nms_eq, nmsL]
theorem atP5_new {l : List Ru} {nm : List UInt8} (hN : ∀ v ∈ l, v.1 ≠ nm) : atP5 l nm = -1 := by
  have hb := atP5_bd l nm
  by_cases h : 0 ≤ atP5 l nm
  · obtain ⟨u, hu, e⟩ := atP5_name (l := l) (x := nm) (k := (atP5 l nm).toNat) (by omega)
    exact absurd e (hN u (List.mem_of_getElem? hu))
  · omega
theorem atP5_more {l : List Ru} {nm x : List UInt8} (hx : x ≠ nm) : atP5 (l ++ [newR nm]) x = atP5 l x := by
  unfold atP5
  rw [atF_snoc]
  split
  · rfl
  · rename_i h
    rw [if_neg (fun e => hx e.symm)]
    have := atF_bd l 0 x
    omega
theorem atP5_self_new {l : List Ru} {nm : List UInt8} (hN : ∀ v ∈ l, v.1 ≠ nm) : atP5 (l ++ [newR nm]) nm = (l.length : Int) := by
  have := atP5_new hN
  unfold atP5 at *
  rw [atF_snoc, if_neg (by omega), if_pos (show (newR nm).1 = nm from rfl), Nat.zero_add]
theorem spoken_same {l l' : List Ru} : ∀ (xs : List (List UInt8)) (acc : List Int), (∀ x ∈ xs, atP5 l x = atP5 l' x) → spoken l acc xs = spoken l' acc xs := by
  intro xs
  induction xs with
  | nil => intro _ _; rfl
  | cons x xs ih =>
    intro acc h
    unfold spoken at ih ⊢
    rw [List.foldl_cons, List.foldl_cons, h x List.mem_cons_self]
    exact ih _ fun y hy => h y (List.mem_cons_of_mem _ hy)
/-- What is asked of the rule that comes more. -/
structure More (l : List Ru) (nm : List UInt8) : Prop where
  right : (wrongR (l ++ [newR nm])).1 = 0
  new : ∀ v ∈ l, v.1 ≠ nm
  unsaid : ∀ v ∈ l, spk v.2 nm = false
theorem More.spks {l : List Ru} {nm : List UInt8} (h : More l nm) {v : Ru} (hv : v ∈ l) : spkR (l ++ [newR nm]) v = spkR l v := by
  unfold spkR
  refine spoken_same _ _ fun x hx => atP5_more fun e => ?_
  subst e
  have hr := right_all h.right v (List.mem_append_left _ hv)
  rw [← spk_iff _ v.2 x (Nat.le_refl _) hr, h.unsaid v hv] at hx
  cases hx
theorem more_at {l : List Ru} {u : Ru} {i : Nat} (h : i < l.length) : (l ++ [u])[i]? = l[i]? := List.getElem?_append_left h
theorem More.lead {l : List Ru} {nm : List UInt8} (h : More l nm) : leadS (l ++ [newR nm]) = leadS l := by
  funext i
  by_cases hi : i < l.length
  · obtain ⟨v, hv⟩ : ∃ v, l[i]? = some v := ⟨l[i], List.getElem?_eq_getElem hi⟩
    rw [leadS_at hv, leadS_at ((more_at hi).trans hv), h.spks (List.mem_of_getElem? hv)]
  · have e : leadS l i = [] := by
      unfold leadS
      rw [List.getElem?_eq_none (by omega)]
    rw [e]
    by_cases hn : i = l.length
    · subst hn
      rw [leadS_at (u := newR nm) (by simp)]
      unfold spkR
      rw [new_nms]
      rfl
    · unfold leadS
      rw [List.getElem?_eq_none (by simp; omega)]
theorem wrongL_front {u : Ru} : ∀ (l : List Ru) (i : Nat), (wrongL (l ++ [u]) i).1 = 0 → (wrongL l i).1 = 0
  | [], _, _ => rfl
  | v :: l, i, h => by
    rw [List.cons_append, wrongL] at h
    rw [wrongL]
    split at h
    · rename_i hv; exact absurd h hv
    · rename_i hv
      rw [if_neg hv]
      exact wrongL_front l _ h
theorem More.wrong {l : List Ru} {nm : List UInt8} (h : More l nm) : (wrongR l).1 = 0 := by
  have hr := h.right
  unfold wrongR at hr ⊢
  split at hr
  · cases hr
  · rename_i h40
    rw [List.length_append] at h40
    rw [if_neg (by simp at h40; omega)]
    exact wrongL_front l 0 hr
theorem frF_snoc {p q : Nat → Bool} : ∀ (k i : Nat), p (i + k) = false → (∀ j, i ≤ j → j < i + k → p j = q j) → frF p i (k + 1) = frF q i k
  | 0, i, h, _ => by
    rw [frF, frF, if_neg (by rw [Nat.add_zero] at h; rw [h]; decide)]
    rfl
  | k + 1, i, h, hs => by
    have ih := frF_snoc (p := p) (q := q) k (i + 1) (by rw [show i + 1 + k = i + (k + 1) by omega]; exact h) fun j a b => hs j (by omega) (by omega)
    rw [frF, ih, hs i (Nat.le_refl _) (by omega)]
    rfl
theorem way_last {E : Nat → Nat → Bool} {i k : Nat} (h : Lx.Way E i k) : ∃ j, E j k = true := by
  cases h with
  | single h => exact ⟨_, h⟩
  | tail _ h => exact ⟨_, h⟩
theorem More.l1 {l : List Ru} {nm : List UInt8} (h : More l nm) {i : Nat} (hi : i < l.length) : lk1 (l ++ [newR nm]) i = lk1 l i := by
  obtain ⟨v, hv⟩ : ∃ v, l[i]? = some v := ⟨l[i], List.getElem?_eq_getElem hi⟩
  unfold lk1
  rw [(more_at hi).trans hv, hv]
  dsimp only
  rw [atP5_more (h.new v (List.mem_of_getElem? hv))]
theorem More.l1n {l : List Ru} {nm : List UInt8} (h : More l nm) : lk1 (l ++ [newR nm]) l.length = false := by
  unfold lk1
  rw [show (l ++ [newR nm])[l.length]? = some (newR nm) by simp]
  dsimp only
  rw [show (newR nm).1 = nm from rfl, atP5_self_new h.new]
  simp
theorem More.l2 {l : List Ru} {nm : List UInt8} (h : More l nm) {i : Nat} (hi : i < l.length) : lk2 (l ++ [newR nm]) i = lk2 l i := by
  obtain ⟨v, hv⟩ : ∃ v, l[i]? = some v := ⟨l[i], List.getElem?_eq_getElem hi⟩
  unfold lk2
  rw [(more_at hi).trans hv, hv]
  dsimp only
  rw [h.spks (List.mem_of_getElem? hv)]
theorem more_lk2n (l : List Ru) (nm : List UInt8) : lk2 (l ++ [newR nm]) l.length = false := by
  unfold lk2
  rw [show (l ++ [newR nm])[l.length]? = some (newR nm) by simp]
  dsimp only
  unfold spkR
  rw [new_nms]
  exact decide_eq_false (by simp [spoken])
theorem More.fols {l : List Ru} {nm : List UInt8} (h : More l nm) (hno : ∀ u ∈ l, -1 ∉ spkR l u) (i k : Nat) : fol (leadS (l ++ [newR nm])) ((l ++ [newR nm]).length + 1) (fun _ => false) i k = fol (leadS l) (l.length + 1) (fun _ => false) i k := by
  rw [h.lead]
  have h1 := fol_way (n := l.length) (f := (l ++ [newR nm]).length + 1) (r := i) (v := k) (leadS_lt hno) (by simp)
  have h2 := fol_way (n := l.length) (f := l.length + 1) (r := i) (v := k) (leadS_lt hno) (Nat.le_refl _)
  cases e1 : fol (leadS l) ((l ++ [newR nm]).length + 1) (fun _ => false) i k with
  | true => exact (h2.2 (h1.1 e1)).symm
  | false =>
    cases e2 : fol (leadS l) (l.length + 1) (fun _ => false) i k with
    | false => rfl
    | true => rw [h1.2 (h2.1 e2)] at e1; cases e1
theorem fol_out {l : List Ru} (hno : ∀ u ∈ l, -1 ∉ spkR l u) {i : Nat} (k : Nat) (hi : l.length ≤ i) : fol (leadS l) (l.length + 1) (fun _ => false) i k = false := by
  cases e : fol (leadS l) (l.length + 1) (fun _ => false) i k with
  | false => rfl
  | true =>
    have e0 : leadS l i = [] := by
      unfold leadS
      rw [List.getElem?_eq_none hi]
    have hw := (fol_way (leadS_lt hno) (Nat.le_refl _)).1 e
    rcases way_step.1 hw with h | ⟨j, h, _⟩
    · rw [e0] at h; cases h
    · rw [e0] at h; cases h
theorem fol_never {l : List Ru} (hno : ∀ u ∈ l, -1 ∉ spkR l u) {k : Nat} (i : Nat) (hk : l.length ≤ k) : fol (leadS l) (l.length + 1) (fun _ => false) i k = false := by
  cases e : fol (leadS l) (l.length + 1) (fun _ => false) i k with
  | false => rfl
  | true =>
    obtain ⟨j, hj⟩ := way_last ((fol_way (leadS_lt hno) (Nat.le_refl _)).1 e)
    have := leadS_lt hno j k (by simpa using hj)
    omega
theorem More.chk {l : List Ru} {nm : List UInt8} (h : More l nm) : chkW (l ++ [newR nm]) = chkW l := by
  have hlen : (l ++ [newR nm]).length = l.length + 1 := by simp
  unfold chkW
  rw [if_neg (by simpa using h.right), if_neg (by simpa using h.wrong), hlen, frF_snoc (q := lk1 l) l.length 0 (by rw [Nat.zero_add]; exact h.l1n) fun j _ hj => h.l1 (by omega)]
  cases frF (lk1 l) 0 l.length with
  | some i => rfl
  | none =>
    dsimp only
    rw [frF_snoc (q := lk2 l) l.length 0 (by rw [Nat.zero_add]; exact more_lk2n l nm) fun j _ hj => h.l2 (by omega)]
    cases h2 : frF (lk2 l) 0 l.length with
    | some i => rfl
    | none =>
      dsimp only
      have hno := lk2_no h2
      rw [frF_snoc (q := lk3 l) l.length 0 (by
        rw [Nat.zero_add]
        unfold lk3
        rw [h.fols hno]
        exact fol_out hno _ (Nat.le_refl _)) fun j _ hj => by
          unfold lk3
          exact h.fols hno j j]
theorem mkL_none {m : Nat → Bool} (h : ∀ k, m k = false) : ∀ n, mkL m n = []
  | 0 => rfl
  | n + 1 => by rw [mkL_succ, if_neg (by rw [h n]; decide), mkL_none h n]
theorem More.uses {l : List Ru} {nm : List UInt8} (h : More l nm) {i : Nat} (hi : i < l.length) : usesL (l ++ [newR nm]) (i : Int) = usesL l (i : Int) := by
  have hlen : (l ++ [newR nm]).length = l.length + 1 := by simp
  by_cases h0 : (chkW l).1 = 0
  · obtain ⟨_, hno⟩ := chk_lk2 h0
    have e1 : usesL l (i : Int) = mkL (fol (leadS l) (l.length + 1) (fun _ => false) i) l.length := by
      unfold usesL
      rw [if_neg (by omega)]
      rfl
    have e2 : usesL (l ++ [newR nm]) (i : Int) = mkL (fol (leadS (l ++ [newR nm])) ((l ++ [newR nm]).length + 1) (fun _ => false) i) (l ++ [newR nm]).length := by
      unfold usesL
      rw [h.chk, if_neg (by rw [hlen]; omega)]
      rfl
    have e3 : mkL (fol (leadS (l ++ [newR nm])) ((l ++ [newR nm]).length + 1) (fun _ => false) i) (l.length + 1) = mkL (fol (leadS (l ++ [newR nm])) ((l ++ [newR nm]).length + 1) (fun _ => false) i) l.length := by
      rw [mkL_succ, if_neg (by rw [h.fols hno, fol_never hno _ (Nat.le_refl _)]; decide)]
    rw [e1, e2]
    exact ((congrArg (mkL _) hlen).trans e3).trans (mkL_same fun k _ => h.fols hno i k)
  · have e1 : usesL l (i : Int) = [] := if_pos (.inr (.inr h0))
    have e2 : usesL (l ++ [newR nm]) (i : Int) = [] := if_pos (.inr (.inr (by rw [h.chk]; exact h0)))
    rw [e1, e2]
theorem More.none {l : List Ru} {nm : List UInt8} (h : More l nm) : usesL (l ++ [newR nm]) (l.length : Int) = [] := by
  by_cases h0 : (chkW l).1 = 0
  · obtain ⟨_, hno⟩ := chk_lk2 h0
    unfold usesL
    split
    · rfl
    · exact mkL_none (fun k => by
        rw [show ((l.length : Int)).toNat = l.length from rfl, h.fols hno]
        exact fol_out hno k (Nat.le_refl _)) _
  · exact if_pos (.inr (.inr (by rw [h.chk]; exact h0)))
end Go.Proofs.YtgjggpgkcbekoadDoor

/- An operation whose guard is met, as one without a guard; rows appended to a row. It speaks of no program. -/
namespace Go.Proofs.YtgjggpgkcbekoadDoor
open Go.RowKit

theorem wpList_free {P : Program} {w : World} {ops : Array Oper} {rest : List Oper} {o : Oper} {a : Act} {Q : Exit → Act → World → Prop} (hw : Region.wanted o (yielded ops a.tmps) = true) (h : wpList P ops Q ({ o with guard := none } :: rest) a w) : wpList P ops Q (o :: rest) a w := by
  have e : ({ o with guard := none } : Oper).wp P a w (wpList P ops Q rest) Q = o.wp P a w (wpList P ops Q rest) Q := by cases o; rfl
  have e2 : ({ o with guard := none } : Oper).asks P a w = o.asks P a w := by cases o; rfl
  rw [wpList] at h ⊢
  rw [if_pos hw]
  rw [if_pos (by rfl), e, e2] at h
  exact h
/-- A row appended to a row of the call's own, under a guard that is met. -/
theorem wpList_append_rows_g {P : Program} {w : World} {ops : Array Oper} {rest : List Oper} {o : Oper} {a : Act} {Q : Exit → Act → World → Prop} (hw : Region.wanted o (yielded ops a.tmps) = true) (s x : Operand) (t : TypeId)
    (ho : o.op = .call { callee := .builtin .append, args := #[s, x], argTypes := #[t, t] })
    (base base' : Nat) (e : TypeId) (i : TypeInfo) (z : Value) (size bytes : Nat) (ht : P.underlying t = some (.slice e)) (hi : P.info? e = some i) (hz : i.zero = some z)
    (hsize : i.size = size) (hby : i.bytes = bytes) (hzs : z.cells.size = size) (hsz : 0 < size)
    (v : Value) (n : Nat) (xs : List Value) (hs : a.eval s = v) (hown : w.ownsRow base e size v n xs)
    (vx : Value) (m : Nat) (news : List Value) (hx : a.eval x = vx) (hox : w.ownsRow base' e size vx m news) (h1 : ∀ u ∈ news, u.oneCell' = true)
    (h63 : n + m ≤ maxLen) (hbytes : (n + m) * bytes ≤ 140737488355328) (hbase : base ≤ w.heap.size)
    (h : ∀ v' w', w'.ownsRow base e size v' (n + m) (xs ++ news) → w.grownBy w' v.ownBlock → wpList P ops Q rest (a.put o.dst v') w') : wpList P ops Q (o :: rest) a w := by
  refine wpList_free hw ?_
  have hox' := hox
  obtain ⟨hl, h2⟩ := hox
  rcases h2 with ⟨rfl, rfl⟩ | ⟨g, cap, cur, rfl, hb, hh, r1, r2, r3, r4⟩
  · have e0 : news = [] := List.length_eq_zero_iff.1 (by omega)
    subst e0
    refine wpList_append_own_none rfl s x t ho base e i size ht hi v n xs hs hown hx (h v w (by rw [List.append_nil]; exact hown) ⟨rfl, rfl, rfl, Nat.le_refl _, fun _ _ _ => rfl⟩)
  · refine wpList_append_own w rfl s x t ho base e i z size bytes ht hi hz hsize hby hzs hsz v n xs hs hown ⟨g, 0, none⟩ m cap news hx hl (hox'.cells rfl) h1 h63 hbytes hbase fun v' w' h2 h3 _ => h v' w' h2 h3
end Go.Proofs.YtgjggpgkcbekoadDoor
