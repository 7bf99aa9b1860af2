/- What the condition on the two listed tables (months, names of days) gives the walks, and the start that meets it. -/
import Derived.Test.YtgfjbcdjpkcbkaaGreatDoorDh07
import Derived.Test.YtgfjbcdjpkcbkaaGreatDoorDh02
import Derived.Test.YtgfjbcdjpkcbkaaGreatDoorCards
import Derived.Test.YtgfjbcdjpkcbkaaGreatDoorTie
import Derived.ProofKit
import Derived.LaidMore
import Derived.OpenShut
import Derived.Stop.Joined
import Derived.SevenTiedAt
import Derived.Lib.SmallJoins
import Derived.Lib.LaidTab
import Derived.Test.YtgfjbcdjpkcbkaaGreatDoorDh20
namespace Go.Proofs.YtgfjbcdjpkcbkaaGreatDoor
open Go.ChangeShapes Go.WideShapes Go.ChangeAt Go.WideMaps Go.WideElems Go.RowKit Go.Joins Lx
abbrev laid2 : List (String × DataW Unit) := Rows.meanShiftRow.laid
def lenName : String := (Rows.meanShiftRow.named.headD default)
def dayName : String := (Rows.meanShiftRow.named.getD 1 default)
theorem own : ownKnob Tryz.prog.godebug = none := by kernel_rfl
theorem gLen : Tryz.prog.globalNamed lenName = some 0 := by kernel_rfl
theorem tLen : (Tryz.prog.globals[0]?).map (·.type) = some 128 := by kernel_rfl
theorem gDay : Tryz.prog.globalNamed dayName = some 2 := by kernel_rfl
theorem tDay : (Tryz.prog.globals[2]?).map (·.type) = some 135 := by kernel_rfl
theorem c3 : Tryz.prog.cellsOf 3 = 1 := by kernel_rfl
theorem c34 : Tryz.prog.cellsOf 128 = 12 := by kernel_rfl
theorem cStr : Tryz.prog.cellsOf 9 = 1 := by kernel_rfl
theorem cDay : Tryz.prog.cellsOf 135 = 7 := by kernel_rfl
theorem door_met (os : Os) (args : Array Value) : laidMetH Tryz.prog laid2 ((World.doorLaid Tryz.prog 400 os).forCall (fun _ _ => 0) ⟨#[], args, []⟩).memory :=
  laidMetH_of_parts3 (fuel := 8) (laidMet_of_run' 8 (by kernel_rfl) (by kernel_rfl)) (by kernel_rfl) (by kernel_rfl)
theorem ctab_of_laid {W : World} (h : laidMetH Tryz.prog laid2 W) : CTab W := by
  rw [MakeChecks.laidMetH_plain _ _ _ (by kernel_rfl)] at h
  have t : Lib.TabIs Tryz.prog W lenName .i64 tab := Lib.tabIs_of_head (name := lenName) (rest := Rows.meanShiftRow.laid.tail) gLen tLen Tryz.underlying128 Tryz.underlying3 c3 c34 h
  intro i hi
  exact t.cell gLen i (by simpa [tab] using hi)
theorem str_cell {H : Type} {enc : TypeId × Value → H} {P : Program} {w : World} {base : Nat} {sp : Nat → Bool} {held : Bool} {t e : TypeId} {n : Nat} {cs : List Value} {zs : List (List UInt8)} {p : List MemPlace} (ht : P.underlying t = some (.array n e)) (he : P.underlying e = some .string) (hce : P.cellsOf e = 1) (hct : P.cellsOf t = n) :
    ∀ fuel, DataW.trod enc P w base sp held fuel t cs = some (.agg (zs.map fun z => .lit (.string z)), p) → ∀ (i : Nat) (z : List UInt8), zs[i]? = some z → cs[i]? = some (.string ⟨z.toArray⟩)
  | 0, h, _, _, _ => by simp [DataW.trod] at h
  | fuel + 1, h, i, z, hz => by
    simp only [DataW.trod, ht, hce, hct, Nat.mul_one] at h
    split at h
    · obtain ⟨xs, hm, hx⟩ := Option.map_eq_some_iff.1 h
      have h1 : xs.map (fun x => x.1) = zs.map fun z => (DataW.lit (.string z) : DataW H) := by simpa using congrArg Prod.fst hx
      have h2 : (xs.map fun x => x.1)[i]? = some (DataW.lit (.string z) : DataW H) := by rw [h1, List.getElem?_map, hz]; rfl
      rw [List.getElem?_map] at h2
      obtain ⟨x, hx1, hx2⟩ := Option.map_eq_some_iff.1 h2
      have hin : i < n := by
        have a := (List.getElem?_eq_some_iff.1 hx1).1
        have b := Lib.mapM_length hm
        simp at b; omega
      obtain ⟨b, hb, hf⟩ := Lib.mapM_at hm i i (by simp [hin])
      obtain ⟨s, hc, rfl, _⟩ := DataW.trod_string he hf
      rw [hb] at hx1
      obtain rfl := Option.some.inj hx1
      have hs : s.data.toList = z := by simpa using hx2
      have h3 := congrArg (fun l : List Value => l[0]?) hc
      have h4 : cs[i]? = some (.string s) := by simpa [List.getElem?_take, List.getElem?_drop] using h3
      rw [h4, ← hs]
    · cases h
theorem dtab_of_laid {W : World} (h : laidMetH Tryz.prog laid2 W) : DTab W := by
  rw [MakeChecks.laidMetH_plain _ _ _ (by kernel_rfl)] at h
  obtain ⟨ps, ⟨_, _, _, _, _, _, _, _, _, _, ⟨g, t, cs, fuel, p, q, hg, ht, hv, hd, _, _⟩, _⟩, _⟩ := h
  obtain rfl := Option.some.inj (gDay.symm.trans hg)
  obtain rfl := Option.some.inj (tDay.symm.trans ht)
  intro j hj
  have hz : wDays[j]? = some (wDays.getD j []) := by
    rw [List.getD_eq_getElem?_getD, List.getElem?_eq_getElem (by exact hj)]; rfl
  have hc := str_cell (zs := wDays) Tryz.underlying135 Tryz.underlying9 cStr cDay fuel hd j _ hz
  have := World.var?_cell gDay hv j
  rw [this]
  simpa using hc
end Go.Proofs.YtgfjbcdjpkcbkaaGreatDoor

/- How rules that came in read: the row of rules. -/
namespace Go.Proofs.YtgfjbcdjpkcbkaaGreatDoor
open Go.ChangeShapes Go.WideShapes Go.ChangeAt Go.WideMaps Go.WideElems Go.RowKit Go.Joins Lx
variable {H : Type} {enc : TypeId × Value → H} {W : World}
theorem six {α : Type} {l : List α} (h : l.length = 6) : ∃ a b c d e f, l = [a, b, c, d, e, f] := by
  match l, h with
  | [a, b, c, d, e, f], _ => exact ⟨a, b, c, d, e, f, rfl⟩
theorem pair2 {α : Type} {l : List α} (h : l.length = 2) : ∃ a b, l = [a, b] := by
  match l, h with
  | [a, b], _ => exact ⟨a, b, rfl⟩
set_option maxRecDepth 100000 in
theorem rule_parts {fuel : Nat} {cs : List Value} {y : DataW H × List MemPlace} (h : DataW.trod enc Tryz.prog W 0 (fun _ => true) true fuel 33 cs = some y) :
    ∃ (nm : ByteArray) (k a b : Int) (s : ByteArray) (sl : Value) (m : Nat) (z : DataW H × List MemPlace), cs = [.string nm, .int .i64 k, .int .i64 a, .int .i64 b, .string s, sl] ∧ nm.size ≤ maxLen ∧ s.size ≤ maxLen ∧ DataW.trod enc Tryz.prog W 0 (fun _ => true) true m 29 [sl] = some z := by
  obtain ⟨xs, m, hf, _, hl, hx, hall⟩ := DataW.trod_struct Tryz.underlying33 h
  rw [inR] at hl
  have hx2 : xs.length = 2 := hx
  obtain ⟨c0, c1, c2, c3, c4, c5, rfl⟩ := six hl
  obtain ⟨x0, x1, rfl⟩ := pair2 hx2
  have h0 : DataW.trod enc Tryz.prog W 0 (fun _ => true) true m 9 (([c0, c1, c2, c3, c4, c5].drop 0).take (Tryz.prog.cellsOf 9)) = some x0 := hall 0 _ rfl
  have h1 : DataW.trod enc Tryz.prog W 0 (fun _ => true) true m 31 (([c0, c1, c2, c3, c4, c5].drop 1).take (Tryz.prog.cellsOf 31)) = some x1 := hall 1 _ rfl
  rw [inS] at h0
  rw [inE] at h1
  obtain ⟨nm, e0, _, hn⟩ := DataW.trod_string Tryz.underlying9 h0
  obtain ⟨k, a, b, s, sl, m', z, _, e1, hs, ht⟩ := expr_parts h1
  simp at e0 e1
  obtain ⟨q1, q2, q3, q4, q5⟩ := e1
  subst e0 q1 q2 q3 q4 q5
  exact ⟨nm, k, a, b, s, c5, m', z, rfl, hn, hs, ht⟩
set_option maxRecDepth 100000 in
theorem open_rules {r : Reach} {b0 : Nat} {v : Value} {d : DataW H} {p : List MemPlace}
    (hv : Value.okWide Tryz.prog W r b0 22 v) (h : DataW.Trod enc Tryz.prog W 0 (fun _ => true) true 22 v d p) : ∃ us, InR W v us := by
  obtain ⟨ao, k0, c0, rfl⟩ := okWide_slice Tryz.underlying22 hv
  obtain ⟨fuel, hf⟩ := h
  have zero : ∀ (q : Option Addr) (c : Nat), ∃ us, InR W (.slice q 0 c) us := fun q c => ⟨[], .inl ⟨rfl, q, c, rfl⟩, by decide, fun p hp => by cases hp⟩
  rcases DataW.trod_slice Tryz.underlying22 hf with ⟨e, _⟩ | ⟨a, len, cap, elems, rest, m, _, e, _, _, hlc, hm, hlen, hel, _⟩
  · have e' : Value.slice ao k0 c0 = .slice none 0 0 := by simpa [Value.cells] using e
    rw [e']; exact zero _ _
  · have e' : Value.slice ao k0 c0 = .slice (some a) len cap := by simpa [Value.cells] using e
    rw [e']
    by_cases hz : len = 0
    · subst hz; exact zero _ _
    obtain ⟨g, o, s⟩ := a
    have spot : s = none := by
      have h1 := hel 0 (by omega)
      rw [inR] at h1
      have hy : elems[0]? = some (elems[0]'(by omega)) := List.getElem?_eq_getElem _
      rw [hy, Option.bind_eq_some_iff] at h1
      obtain ⟨cs', hc, ht⟩ := h1
      have q := (World.cells?_some hc).2.2 0 (by omega)
      have hl' := (World.cells?_some hc).2.1
      have e0 : cs'[0]? = some (cs'[0]'(by omega)) := List.getElem?_eq_getElem _
      rw [e0] at q
      have q' := World.cell?_spot q
      simpa [Addr.add] using q'
    subst spot
    have each : ∀ i, i < len → ∃ u : Ru × Value, RuleIn W u ∧
        W.cell? ⟨g, o + i * 6, none⟩ = some (.string ⟨u.1.1.toArray⟩) ∧ W.cell? ⟨g, o + i * 6 + 1, none⟩ = some (.int .i64 u.1.2.kind) ∧ W.cell? ⟨g, o + i * 6 + 2, none⟩ = some (.int .i64 u.1.2.a) ∧ W.cell? ⟨g, o + i * 6 + 3, none⟩ = some (.int .i64 u.1.2.b) ∧
        W.cell? ⟨g, o + i * 6 + 4, none⟩ = some (.string ⟨u.1.2.name.toArray⟩) ∧ W.cell? ⟨g, o + i * 6 + 5, none⟩ = some u.2 := by
      intro i hi
      have h1 := hel i hi
      rw [inR] at h1
      have hy : elems[i]? = some (elems[i]'(by omega)) := List.getElem?_eq_getElem _
      rw [hy, Option.bind_eq_some_iff] at h1
      obtain ⟨cs', hc, ht⟩ := h1
      obtain ⟨nm, k, a, b, x, sl, m', z, hcs, hn, hs, htk⟩ := rule_parts ht
      subst hcs
      have q := (World.cells?_some hc).2.2
      rw [in_add] at q
      have q0 := q 0 (by omega)
      have q1 := q 1 (by omega)
      have q2 := q 2 (by omega)
      have q3 := q 3 (by omega)
      have q4 := q 4 (by omega)
      have q5 := q 5 (by omega)
      simp only [in_add, Nat.add_zero] at q0 q1 q2 q3 q4 q5
      obtain ⟨sl', ks, esl, hkk⟩ := open_kids m' [sl] z htk
      have esl' : sl = sl' := by simpa using esl
      subst esl'
      refine ⟨((nm.data.toList, ⟨k, a, b, x.data.toList, ks⟩), sl), ⟨?_, ?_, m', hkk⟩, ?_, ?_, ?_, ?_, ?_, ?_⟩
      · show nm.data.toList.length ≤ _; rw [← Lib.size_eq]; unfold maxLen at hn; exact hn
      · show x.data.toList.length ≤ _; rw [← Lib.size_eq]; unfold maxLen at hs; exact hs
      · rw [str_list]; simpa using q0
      · simpa using q1
      · simpa using q2
      · simpa using q3
      · rw [str_list]; simpa using q4
      · simpa using q5
    let pick : Nat → Ru × Value := fun i => if h : i < len then Classical.choose (each i h) else (([], ex0), .slice none 0 0)
    have hpick : ∀ i (h : i < len), pick i = Classical.choose (each i h) := fun i h => by simp only [pick, h, dif_pos]
    have hat : ∀ (j : Nat) (u : Ru × Value), ((List.range len).map pick)[j]? = some u → ∃ h : j < len, u = Classical.choose (each j h) := fun j u hj => by
      have hjl : j < len := by
        have := (List.getElem?_eq_some_iff.1 hj).1
        simpa using this
      rw [List.getElem?_map, List.getElem?_range hjl] at hj
      exact ⟨hjl, (Option.some.inj hj).symm.trans (hpick j hjl)⟩
    have hl2 : len < 9223372036854775808 := by unfold maxLen at hm; omega
    refine ⟨(List.range len).map pick, .inr ⟨g, o, cap, by simp, by simpa using hl2, fun j u hj => ?_⟩, by simpa using hl2, fun u hu => ?_⟩
    · obtain ⟨hjl, e1⟩ := hat j u hj
      rw [e1]
      exact (Classical.choose_spec (each j hjl)).2
    · obtain ⟨j, hj⟩ := List.getElem?_of_mem hu
      obtain ⟨hjl, e1⟩ := hat j u hj
      rw [e1]
      exact (Classical.choose_spec (each j hjl)).1
end Go.Proofs.YtgfjbcdjpkcbkaaGreatDoor
