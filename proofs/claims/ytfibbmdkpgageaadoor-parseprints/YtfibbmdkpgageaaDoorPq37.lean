/- The map of how many kids a kind has, as the document writes it out, and what is looked up in it. -/
import Derived.Test.YtfibbmdkpgageaaDoorPq36
import Derived.Test.YtfibbmdkpgageaaDoorPq17
namespace Go.Proofs.YtfibbmdkpgageaaDoor
open Go.RowKit Lx
variable {w : World} {r : Nat} {es : Array MapEntry} {c : Nat}

theorem kmapT : Tryd.prog.underlying 94 = some (.map 3 3) := by kernel_rfl
theorem intT : Tryd.prog.underlying 3 = some (.int .i64) := by kernel_rfl
theorem ins_newI (hb : w.heap[r]? = some (.map es c)) (k : Int) (x : Value) (hn : Instr.findNow (.int .i64) (.int .i64 k) es.toList 0 = some none) :
    (Instr.mapUpdate 94 (.map (some r)) (.int .i64 k) x).run Tryd.prog w = .ok () (putB w r (.map (es.push ⟨.int .i64 k, x, c⟩) (c + 1))) := by
  have hc : (Instr.checkKey false 10000 3 (.int .i64 k)).run Tryd.prog w = .ok () w := MapKept.run_checkKey (k := .int .i64 k) intT (by simp [MapKept.IsKey]) false 9999
  simp [Instr.mapUpdate, run_underlying kmapT, MapKept.run_getObj_map hb, hc, MapKept.run_findKey intT hn, MapKept.run_setObj_map _ hb, Result.andThen, putB]
/-- The map, as it stands when all are put. -/
def kindM : Array MapEntry := #[⟨.int .i64 1, .int .i64 0, 0⟩, ⟨.int .i64 2, .int .i64 0, 1⟩, ⟨.int .i64 3, .int .i64 0, 2⟩, ⟨.int .i64 10, .int .i64 0, 3⟩, ⟨.int .i64 4, .int .i64 1, 4⟩, ⟨.int .i64 5, .int .i64 1, 5⟩, ⟨.int .i64 9, .int .i64 1, 6⟩, ⟨.int .i64 6, .int .i64 2, 7⟩, ⟨.int .i64 7, .int .i64 2, 8⟩, ⟨.int .i64 8, .int .i64 2, 9⟩]
theorem kind_find (k : Int) : ∃ a, Instr.findNow (.int .i64) (.int .i64 k) kindM.toList 0 = some a ∧ (match a with | some (_, u) => u = .int .i64 (kidsP k : Int) ∧ (1 ≤ k ∧ k ≤ 10) | none => kidsP k = 0 ∧ ¬ (1 ≤ k ∧ k ≤ 10)) := by
  by_cases c1 : k = 1
  · subst c1
    exact ⟨_, rfl, rfl, by decide⟩
  by_cases c2 : k = 2
  · subst c2
    exact ⟨_, rfl, rfl, by decide⟩
  by_cases c3 : k = 3
  · subst c3
    exact ⟨_, rfl, rfl, by decide⟩
  by_cases c4 : k = 4
  · subst c4
    exact ⟨_, rfl, rfl, by decide⟩
  by_cases c5 : k = 5
  · subst c5
    exact ⟨_, rfl, rfl, by decide⟩
  by_cases c6 : k = 6
  · subst c6
    exact ⟨_, rfl, rfl, by decide⟩
  by_cases c7 : k = 7
  · subst c7
    exact ⟨_, rfl, rfl, by decide⟩
  by_cases c8 : k = 8
  · subst c8
    exact ⟨_, rfl, rfl, by decide⟩
  by_cases c9 : k = 9
  · subst c9
    exact ⟨_, rfl, rfl, by decide⟩
  by_cases c10 : k = 10
  · subst c10
    exact ⟨_, rfl, rfl, by decide⟩
  refine ⟨none, ?_, ?_, by omega⟩
  · unfold kindM
    have e1 : (k == 1) = false := beq_eq_false_iff_ne.2 c1
    have e2 : (k == 2) = false := beq_eq_false_iff_ne.2 c2
    have e3 : (k == 3) = false := beq_eq_false_iff_ne.2 c3
    have e4 : (k == 4) = false := beq_eq_false_iff_ne.2 c4
    have e5 : (k == 5) = false := beq_eq_false_iff_ne.2 c5
    have e6 : (k == 6) = false := beq_eq_false_iff_ne.2 c6
    have e7 : (k == 7) = false := beq_eq_false_iff_ne.2 c7
    have e8 : (k == 8) = false := beq_eq_false_iff_ne.2 c8
    have e9 : (k == 9) = false := beq_eq_false_iff_ne.2 c9
    have e10 : (k == 10) = false := beq_eq_false_iff_ne.2 c10
    simp only [Instr.findNow, Instr.sameNow, ↓reduceIte, e1, e2, e3, e4, e5, e6, e7, e8, e9, e10]
  · unfold kidsP
    rw [if_neg (by omega), if_neg (by omega)]
theorem kind_look (hb : w.heap[r]? = some (.map kindM 10)) (k : Int) :
    (Instr.lookup 94 (.map (some r)) (.int .i64 k) true).run Tryd.prog w = .ok (.tuple #[.int .i64 (kidsP k : Int), .bool (decide (1 ≤ k ∧ k ≤ 10))]) w := by
  have hc : (Instr.checkKey false 10000 3 (.int .i64 k)).run Tryd.prog w = .ok () w := MapKept.run_checkKey (k := .int .i64 k) intT (by simp [MapKept.IsKey]) false 9999
  obtain ⟨a, h1, h2⟩ := kind_find k
  have hz : (zeroValue 3).run Tryd.prog w = .ok (.int .i64 0) w := by kernel_rfl
  have hem : kindM.isEmpty = false := by rfl
  cases a with
  | none =>
    obtain ⟨h3, h4⟩ := h2
    simp [Instr.lookup, run_underlying kmapT, MapKept.run_getObj_map hb, hem, hc, MapKept.run_findKey intT h1, hz, Result.andThen, h3]
    omega
  | some q =>
    obtain ⟨j, u⟩ := q
    obtain ⟨h3, h4⟩ := h2
    simp [Instr.lookup, run_underlying kmapT, MapKept.run_getObj_map hb, hem, hc, MapKept.run_findKey intT h1, Result.andThen, h3, h4]
/-- The map is made. -/
theorem kinds_all (w : World) : ∃ W1 W2 W3 W4 W5 W6 W7 W8 W9 W10 : World,
    (Instr.mapUpdate 94 (.map (some w.heap.size)) (.int .i64 1) (.int .i64 0)).run Tryd.prog (w.alloc (.map #[] 0)) = .ok () W1 ∧
    (Instr.mapUpdate 94 (.map (some w.heap.size)) (.int .i64 2) (.int .i64 0)).run Tryd.prog W1 = .ok () W2 ∧
    (Instr.mapUpdate 94 (.map (some w.heap.size)) (.int .i64 3) (.int .i64 0)).run Tryd.prog W2 = .ok () W3 ∧
    (Instr.mapUpdate 94 (.map (some w.heap.size)) (.int .i64 10) (.int .i64 0)).run Tryd.prog W3 = .ok () W4 ∧
    (Instr.mapUpdate 94 (.map (some w.heap.size)) (.int .i64 4) (.int .i64 1)).run Tryd.prog W4 = .ok () W5 ∧
    (Instr.mapUpdate 94 (.map (some w.heap.size)) (.int .i64 5) (.int .i64 1)).run Tryd.prog W5 = .ok () W6 ∧
    (Instr.mapUpdate 94 (.map (some w.heap.size)) (.int .i64 9) (.int .i64 1)).run Tryd.prog W6 = .ok () W7 ∧
    (Instr.mapUpdate 94 (.map (some w.heap.size)) (.int .i64 6) (.int .i64 2)).run Tryd.prog W7 = .ok () W8 ∧
    (Instr.mapUpdate 94 (.map (some w.heap.size)) (.int .i64 7) (.int .i64 2)).run Tryd.prog W8 = .ok () W9 ∧
    (Instr.mapUpdate 94 (.map (some w.heap.size)) (.int .i64 8) (.int .i64 2)).run Tryd.prog W9 = .ok () W10 ∧
    W10.heap[w.heap.size]? = some (.map kindM 10) ∧ Below w.heap.size w W10 := by
  have m0 := heap_alloc_new w (.map #[] 0)
  have b0 := (Below.refl w.heap.size w).alloc (Nat.le_refl _) (.map #[] 0)
  have i1 := ins_newI m0 1 (.int .i64 0) (by rfl)
  have m1 := putB_same (o' := .map #[⟨.int .i64 1, .int .i64 0, 0⟩] 1) m0
  have b1 := putB_below b0 (Nat.le_refl _) (.map #[⟨.int .i64 1, .int .i64 0, 0⟩] 1)
  have i2 := ins_newI m1 2 (.int .i64 0) (by rfl)
  have m2 := putB_same (o' := .map #[⟨.int .i64 1, .int .i64 0, 0⟩, ⟨.int .i64 2, .int .i64 0, 1⟩] 2) m1
  have b2 := putB_below b1 (Nat.le_refl _) (.map #[⟨.int .i64 1, .int .i64 0, 0⟩, ⟨.int .i64 2, .int .i64 0, 1⟩] 2)
  have i3 := ins_newI m2 3 (.int .i64 0) (by rfl)
  have m3 := putB_same (o' := .map #[⟨.int .i64 1, .int .i64 0, 0⟩, ⟨.int .i64 2, .int .i64 0, 1⟩, ⟨.int .i64 3, .int .i64 0, 2⟩] 3) m2
  have b3 := putB_below b2 (Nat.le_refl _) (.map #[⟨.int .i64 1, .int .i64 0, 0⟩, ⟨.int .i64 2, .int .i64 0, 1⟩, ⟨.int .i64 3, .int .i64 0, 2⟩] 3)
  have i4 := ins_newI m3 10 (.int .i64 0) (by rfl)
  have m4 := putB_same (o' := .map #[⟨.int .i64 1, .int .i64 0, 0⟩, ⟨.int .i64 2, .int .i64 0, 1⟩, ⟨.int .i64 3, .int .i64 0, 2⟩, ⟨.int .i64 10, .int .i64 0, 3⟩] 4) m3
  have b4 := putB_below b3 (Nat.le_refl _) (.map #[⟨.int .i64 1, .int .i64 0, 0⟩, ⟨.int .i64 2, .int .i64 0, 1⟩, ⟨.int .i64 3, .int .i64 0, 2⟩, ⟨.int .i64 10, .int .i64 0, 3⟩] 4)
  have i5 := ins_newI m4 4 (.int .i64 1) (by rfl)
  have m5 := putB_same (o' := .map #[⟨.int .i64 1, .int .i64 0, 0⟩, ⟨.int .i64 2, .int .i64 0, 1⟩, ⟨.int .i64 3, .int .i64 0, 2⟩, ⟨.int .i64 10, .int .i64 0, 3⟩, ⟨.int .i64 4, .int .i64 1, 4⟩] 5) m4
  have b5 := putB_below b4 (Nat.le_refl _) (.map #[⟨.int .i64 1, .int .i64 0, 0⟩, ⟨.int .i64 2, .int .i64 0, 1⟩, ⟨.int .i64 3, .int .i64 0, 2⟩, ⟨.int .i64 10, .int .i64 0, 3⟩, ⟨.int .i64 4, .int .i64 1, 4⟩] 5)
  have i6 := ins_newI m5 5 (.int .i64 1) (by rfl)
  have m6 := putB_same (o' := .map #[⟨.int .i64 1, .int .i64 0, 0⟩, ⟨.int .i64 2, .int .i64 0, 1⟩, ⟨.int .i64 3, .int .i64 0, 2⟩, ⟨.int .i64 10, .int .i64 0, 3⟩, ⟨.int .i64 4, .int .i64 1, 4⟩, ⟨.int .i64 5, .int .i64 1, 5⟩] 6) m5
  have b6 := putB_below b5 (Nat.le_refl _) (.map #[⟨.int .i64 1, .int .i64 0, 0⟩, ⟨.int .i64 2, .int .i64 0, 1⟩, ⟨.int .i64 3, .int .i64 0, 2⟩, ⟨.int .i64 10, .int .i64 0, 3⟩, ⟨.int .i64 4, .int .i64 1, 4⟩, ⟨.int .i64 5, .int .i64 1, 5⟩] 6)
  have i7 := ins_newI m6 9 (.int .i64 1) (by rfl)
  have m7 := putB_same (o' := .map #[⟨.int .i64 1, .int .i64 0, 0⟩, ⟨.int .i64 2, .int .i64 0, 1⟩, ⟨.int .i64 3, .int .i64 0, 2⟩, ⟨.int .i64 10, .int .i64 0, 3⟩, ⟨.int .i64 4, .int .i64 1, 4⟩, ⟨.int .i64 5, .int .i64 1, 5⟩, ⟨.int .i64 9, .int .i64 1, 6⟩] 7) m6
  have b7 := putB_below b6 (Nat.le_refl _) (.map #[⟨.int .i64 1, .int .i64 0, 0⟩, ⟨.int .i64 2, .int .i64 0, 1⟩, ⟨.int .i64 3, .int .i64 0, 2⟩, ⟨.int .i64 10, .int .i64 0, 3⟩, ⟨.int .i64 4, .int .i64 1, 4⟩, ⟨.int .i64 5, .int .i64 1, 5⟩, ⟨.int .i64 9, .int .i64 1, 6⟩] 7)
  have i8 := ins_newI m7 6 (.int .i64 2) (by rfl)
  have m8 := putB_same (o' := .map #[⟨.int .i64 1, .int .i64 0, 0⟩, ⟨.int .i64 2, .int .i64 0, 1⟩, ⟨.int .i64 3, .int .i64 0, 2⟩, ⟨.int .i64 10, .int .i64 0, 3⟩, ⟨.int .i64 4, .int .i64 1, 4⟩, ⟨.int .i64 5, .int .i64 1, 5⟩, ⟨.int .i64 9, .int .i64 1, 6⟩, ⟨.int .i64 6, .int .i64 2, 7⟩] 8) m7
  have b8 := putB_below b7 (Nat.le_refl _) (.map #[⟨.int .i64 1, .int .i64 0, 0⟩, ⟨.int .i64 2, .int .i64 0, 1⟩, ⟨.int .i64 3, .int .i64 0, 2⟩, ⟨.int .i64 10, .int .i64 0, 3⟩, ⟨.int .i64 4, .int .i64 1, 4⟩, ⟨.int .i64 5, .int .i64 1, 5⟩, ⟨.int .i64 9, .int .i64 1, 6⟩, ⟨.int .i64 6, .int .i64 2, 7⟩] 8)
  have i9 := ins_newI m8 7 (.int .i64 2) (by rfl)
  have m9 := putB_same (o' := .map #[⟨.int .i64 1, .int .i64 0, 0⟩, ⟨.int .i64 2, .int .i64 0, 1⟩, ⟨.int .i64 3, .int .i64 0, 2⟩, ⟨.int .i64 10, .int .i64 0, 3⟩, ⟨.int .i64 4, .int .i64 1, 4⟩, ⟨.int .i64 5, .int .i64 1, 5⟩, ⟨.int .i64 9, .int .i64 1, 6⟩, ⟨.int .i64 6, .int .i64 2, 7⟩, ⟨.int .i64 7, .int .i64 2, 8⟩] 9) m8
  have b9 := putB_below b8 (Nat.le_refl _) (.map #[⟨.int .i64 1, .int .i64 0, 0⟩, ⟨.int .i64 2, .int .i64 0, 1⟩, ⟨.int .i64 3, .int .i64 0, 2⟩, ⟨.int .i64 10, .int .i64 0, 3⟩, ⟨.int .i64 4, .int .i64 1, 4⟩, ⟨.int .i64 5, .int .i64 1, 5⟩, ⟨.int .i64 9, .int .i64 1, 6⟩, ⟨.int .i64 6, .int .i64 2, 7⟩, ⟨.int .i64 7, .int .i64 2, 8⟩] 9)
  have i10 := ins_newI m9 8 (.int .i64 2) (by rfl)
  have m10 := putB_same (o' := .map #[⟨.int .i64 1, .int .i64 0, 0⟩, ⟨.int .i64 2, .int .i64 0, 1⟩, ⟨.int .i64 3, .int .i64 0, 2⟩, ⟨.int .i64 10, .int .i64 0, 3⟩, ⟨.int .i64 4, .int .i64 1, 4⟩, ⟨.int .i64 5, .int .i64 1, 5⟩, ⟨.int .i64 9, .int .i64 1, 6⟩, ⟨.int .i64 6, .int .i64 2, 7⟩, ⟨.int .i64 7, .int .i64 2, 8⟩, ⟨.int .i64 8, .int .i64 2, 9⟩] 10) m9
  have b10 := putB_below b9 (Nat.le_refl _) (.map #[⟨.int .i64 1, .int .i64 0, 0⟩, ⟨.int .i64 2, .int .i64 0, 1⟩, ⟨.int .i64 3, .int .i64 0, 2⟩, ⟨.int .i64 10, .int .i64 0, 3⟩, ⟨.int .i64 4, .int .i64 1, 4⟩, ⟨.int .i64 5, .int .i64 1, 5⟩, ⟨.int .i64 9, .int .i64 1, 6⟩, ⟨.int .i64 6, .int .i64 2, 7⟩, ⟨.int .i64 7, .int .i64 2, 8⟩, ⟨.int .i64 8, .int .i64 2, 9⟩] 10)
  exact ⟨_, _, _, _, _, _, _, _, _, _, i1, i2, i3, i4, i5, i6, i7, i8, i9, i10, m10, b10⟩
end Go.Proofs.YtfibbmdkpgageaaDoor
