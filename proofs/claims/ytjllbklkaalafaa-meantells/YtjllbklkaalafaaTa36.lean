/- A map that is written out, and what is looked up in it. -/
import Derived.Test.YtjllbklkaalafaaTa35
import Derived.MapKept
import Derived.Carry
import Derived.Test.YtjllbklkaalafaaTa09
import Derived.Test.YtjllbklkaalafaaTa06
import Derived.Lib.ConvBytes
namespace Go.Proofs.Ytjllbklkaalafaa
open Go.RowKit Lx
variable {w : World} {r : Nat} {es : Array MapEntry} {c : Nat}

theorem mapT : Try.prog.underlying 35 = some (.map 9 3) := by kernel_rfl
theorem strT : Try.prog.underlying 9 = some .string := by kernel_rfl
/-- A block is put anew. -/
def putB (w : World) (b : Nat) (o : Obj) : World := { w with heap := w.heap.setIfInBounds b o }
theorem putB_same {o o' : Obj} (hb : w.heap[r]? = some o) : (putB w r o').heap[r]? = some o' := (MapKept.heap_set hb).1
theorem ins_new (hb : w.heap[r]? = some (.map es c)) (k : ByteArray) (x : Value) (hn : Instr.findNow .string (.string k) es.toList 0 = some none) :
    (Instr.mapUpdate 35 (.map (some r)) (.string k) x).run Try.prog w = .ok () (putB w r (.map (es.push ⟨.string k, x, c⟩) (c + 1))) := by
  have hc : (Instr.checkKey false 10000 9 (.string k)).run Try.prog w = .ok () w := MapKept.run_checkKey (k := .string k) strT (by simp [MapKept.IsKey]) false 9999
  simp [Instr.mapUpdate, run_underlying mapT, MapKept.run_getObj_map hb, hc, MapKept.run_findKey strT hn, MapKept.run_setObj_map _ hb, Result.andThen, putB]
/-- The days' map, as it stands when all are put. -/
def dayM : Array MapEntry := #[⟨.string ⟨#[109, 111, 110]⟩, .int .i64 1, 0⟩, ⟨.string ⟨#[116, 117, 101]⟩, .int .i64 2, 1⟩, ⟨.string ⟨#[119, 101, 100]⟩, .int .i64 4, 2⟩, ⟨.string ⟨#[116, 104, 117]⟩, .int .i64 8, 3⟩, ⟨.string ⟨#[102, 114, 105]⟩, .int .i64 16, 4⟩, ⟨.string ⟨#[115, 97, 116]⟩, .int .i64 32, 5⟩, ⟨.string ⟨#[115, 117, 110]⟩, .int .i64 64, 6⟩]
theorem day_find (x : List UInt8) : ∃ a, Instr.findNow .string (.string ⟨x.toArray⟩) dayM.toList 0 = some a ∧ (match a with | some (_, u) => u = .int .i64 (dayBit x : Int) | none => dayBit x = 0) := by
  have e : ∀ y : List UInt8, ((⟨x.toArray⟩ : ByteArray) == ⟨y.toArray⟩) = (x == y) := fun y => by
    show (x.toArray == y.toArray) = (x == y)
    simp
  have e0 := e [109, 111, 110]
  have e1 := e [116, 117, 101]
  have e2 := e [119, 101, 100]
  have e3 := e [116, 104, 117]
  have e4 := e [102, 114, 105]
  have e5 := e [115, 97, 116]
  have e6 := e [115, 117, 110]
  unfold dayM dayBit
  simp only [Instr.findNow, Instr.sameNow, e0, e1, e2, e3, e4, e5, e6]
  by_cases c0 : x = [109, 111, 110]
  · subst c0
    exact ⟨_, rfl, rfl⟩
  by_cases c1 : x = [116, 117, 101]
  · subst c1
    exact ⟨_, rfl, rfl⟩
  by_cases c2 : x = [119, 101, 100]
  · subst c2
    exact ⟨_, rfl, rfl⟩
  by_cases c3 : x = [116, 104, 117]
  · subst c3
    exact ⟨_, rfl, rfl⟩
  by_cases c4 : x = [102, 114, 105]
  · subst c4
    exact ⟨_, rfl, rfl⟩
  by_cases c5 : x = [115, 97, 116]
  · subst c5
    exact ⟨_, rfl, rfl⟩
  by_cases c6 : x = [115, 117, 110]
  · subst c6
    exact ⟨_, rfl, rfl⟩
  refine ⟨none, ?_, ?_⟩
  · simp only [beq_eq_false_iff_ne.2 c0, beq_eq_false_iff_ne.2 c1, beq_eq_false_iff_ne.2 c2, beq_eq_false_iff_ne.2 c3, beq_eq_false_iff_ne.2 c4, beq_eq_false_iff_ne.2 c5, beq_eq_false_iff_ne.2 c6]
  · show (if x = [109, 111, 110] then 1 else if x = [116, 117, 101] then 2 else if x = [119, 101, 100] then 4 else if x = [116, 104, 117] then 8 else if x = [102, 114, 105] then 16 else if x = [115, 97, 116] then 32 else if x = [115, 117, 110] then 64 else 0) = 0
    rw [if_neg c0, if_neg c1, if_neg c2, if_neg c3, if_neg c4, if_neg c5, if_neg c6]
theorem day_look (hb : w.heap[r]? = some (.map dayM 7)) (x : List UInt8) :
    (Instr.lookup 35 (.map (some r)) (.string ⟨x.toArray⟩) false).run Try.prog w = .ok (.int .i64 (dayBit x : Int)) w := by
  have hc : (Instr.checkKey false 10000 9 (.string ⟨x.toArray⟩)).run Try.prog w = .ok () w := MapKept.run_checkKey (k := .string _) strT (by simp [MapKept.IsKey]) false 9999
  obtain ⟨a, h1, h2⟩ := day_find x
  have hz : (zeroValue 3).run Try.prog w = .ok (.int .i64 0) w := by kernel_rfl
  have hem : dayM.isEmpty = false := by rfl
  cases a with
  | none =>
    simp [Instr.lookup, run_underlying mapT, MapKept.run_getObj_map hb, hem, hc, MapKept.run_findKey strT h1, hz, Result.andThen, show dayBit x = 0 from h2]
  | some q =>
    obtain ⟨j, u⟩ := q
    have : u = .int .i64 (dayBit x : Int) := h2
    simp [Instr.lookup, run_underlying mapT, MapKept.run_getObj_map hb, hem, hc, MapKept.run_findKey strT h1, Result.andThen, this]
theorem putB_below {r n : Nat} {w0 : World} (h : Below n w0 w) (hr : n ≤ r) (o : Obj) : Below n w0 (putB w r o) :=
  ⟨h.os, h.tape, h.output, by simpa [putB] using h.size, fun k hk => by
    rw [← h.block k hk]
    show (w.heap.setIfInBounds r o)[k]? = _
    rw [Array.getElem?_setIfInBounds_ne (by omega)]⟩
/-- The days' map is made. -/
theorem days_all (w : World) : ∃ W1 W2 W3 W4 W5 W6 W7 : World,
    (Instr.mapUpdate 35 (.map (some w.heap.size)) (.string ⟨#[109, 111, 110]⟩) (.int .i64 1)).run Try.prog (w.alloc (.map #[] 0)) = .ok () W1 ∧
    (Instr.mapUpdate 35 (.map (some w.heap.size)) (.string ⟨#[116, 117, 101]⟩) (.int .i64 2)).run Try.prog W1 = .ok () W2 ∧
    (Instr.mapUpdate 35 (.map (some w.heap.size)) (.string ⟨#[119, 101, 100]⟩) (.int .i64 4)).run Try.prog W2 = .ok () W3 ∧
    (Instr.mapUpdate 35 (.map (some w.heap.size)) (.string ⟨#[116, 104, 117]⟩) (.int .i64 8)).run Try.prog W3 = .ok () W4 ∧
    (Instr.mapUpdate 35 (.map (some w.heap.size)) (.string ⟨#[102, 114, 105]⟩) (.int .i64 16)).run Try.prog W4 = .ok () W5 ∧
    (Instr.mapUpdate 35 (.map (some w.heap.size)) (.string ⟨#[115, 97, 116]⟩) (.int .i64 32)).run Try.prog W5 = .ok () W6 ∧
    (Instr.mapUpdate 35 (.map (some w.heap.size)) (.string ⟨#[115, 117, 110]⟩) (.int .i64 64)).run Try.prog W6 = .ok () W7 ∧
    W7.heap[w.heap.size]? = some (.map dayM 7) ∧ Below w.heap.size w W7 := by
  have m0 := heap_alloc_new w (.map #[] 0)
  have b0 := (Below.refl w.heap.size w).alloc (Nat.le_refl _) (.map #[] 0)
  have i1 := ins_new m0 ⟨#[109, 111, 110]⟩ (.int .i64 1) (by rfl)
  have m1 := putB_same (o' := .map #[⟨.string ⟨#[109, 111, 110]⟩, .int .i64 1, 0⟩] 1) m0
  have b1 := putB_below b0 (Nat.le_refl _) (.map #[⟨.string ⟨#[109, 111, 110]⟩, .int .i64 1, 0⟩] 1)
  have i2 := ins_new m1 ⟨#[116, 117, 101]⟩ (.int .i64 2) (by rfl)
  have m2 := putB_same (o' := .map #[⟨.string ⟨#[109, 111, 110]⟩, .int .i64 1, 0⟩, ⟨.string ⟨#[116, 117, 101]⟩, .int .i64 2, 1⟩] 2) m1
  have b2 := putB_below b1 (Nat.le_refl _) (.map #[⟨.string ⟨#[109, 111, 110]⟩, .int .i64 1, 0⟩, ⟨.string ⟨#[116, 117, 101]⟩, .int .i64 2, 1⟩] 2)
  have i3 := ins_new m2 ⟨#[119, 101, 100]⟩ (.int .i64 4) (by rfl)
  have m3 := putB_same (o' := .map #[⟨.string ⟨#[109, 111, 110]⟩, .int .i64 1, 0⟩, ⟨.string ⟨#[116, 117, 101]⟩, .int .i64 2, 1⟩, ⟨.string ⟨#[119, 101, 100]⟩, .int .i64 4, 2⟩] 3) m2
  have b3 := putB_below b2 (Nat.le_refl _) (.map #[⟨.string ⟨#[109, 111, 110]⟩, .int .i64 1, 0⟩, ⟨.string ⟨#[116, 117, 101]⟩, .int .i64 2, 1⟩, ⟨.string ⟨#[119, 101, 100]⟩, .int .i64 4, 2⟩] 3)
  have i4 := ins_new m3 ⟨#[116, 104, 117]⟩ (.int .i64 8) (by rfl)
  have m4 := putB_same (o' := .map #[⟨.string ⟨#[109, 111, 110]⟩, .int .i64 1, 0⟩, ⟨.string ⟨#[116, 117, 101]⟩, .int .i64 2, 1⟩, ⟨.string ⟨#[119, 101, 100]⟩, .int .i64 4, 2⟩, ⟨.string ⟨#[116, 104, 117]⟩, .int .i64 8, 3⟩] 4) m3
  have b4 := putB_below b3 (Nat.le_refl _) (.map #[⟨.string ⟨#[109, 111, 110]⟩, .int .i64 1, 0⟩, ⟨.string ⟨#[116, 117, 101]⟩, .int .i64 2, 1⟩, ⟨.string ⟨#[119, 101, 100]⟩, .int .i64 4, 2⟩, ⟨.string ⟨#[116, 104, 117]⟩, .int .i64 8, 3⟩] 4)
  have i5 := ins_new m4 ⟨#[102, 114, 105]⟩ (.int .i64 16) (by rfl)
  have m5 := putB_same (o' := .map #[⟨.string ⟨#[109, 111, 110]⟩, .int .i64 1, 0⟩, ⟨.string ⟨#[116, 117, 101]⟩, .int .i64 2, 1⟩, ⟨.string ⟨#[119, 101, 100]⟩, .int .i64 4, 2⟩, ⟨.string ⟨#[116, 104, 117]⟩, .int .i64 8, 3⟩, ⟨.string ⟨#[102, 114, 105]⟩, .int .i64 16, 4⟩] 5) m4
  have b5 := putB_below b4 (Nat.le_refl _) (.map #[⟨.string ⟨#[109, 111, 110]⟩, .int .i64 1, 0⟩, ⟨.string ⟨#[116, 117, 101]⟩, .int .i64 2, 1⟩, ⟨.string ⟨#[119, 101, 100]⟩, .int .i64 4, 2⟩, ⟨.string ⟨#[116, 104, 117]⟩, .int .i64 8, 3⟩, ⟨.string ⟨#[102, 114, 105]⟩, .int .i64 16, 4⟩] 5)
  have i6 := ins_new m5 ⟨#[115, 97, 116]⟩ (.int .i64 32) (by rfl)
  have m6 := putB_same (o' := .map #[⟨.string ⟨#[109, 111, 110]⟩, .int .i64 1, 0⟩, ⟨.string ⟨#[116, 117, 101]⟩, .int .i64 2, 1⟩, ⟨.string ⟨#[119, 101, 100]⟩, .int .i64 4, 2⟩, ⟨.string ⟨#[116, 104, 117]⟩, .int .i64 8, 3⟩, ⟨.string ⟨#[102, 114, 105]⟩, .int .i64 16, 4⟩, ⟨.string ⟨#[115, 97, 116]⟩, .int .i64 32, 5⟩] 6) m5
  have b6 := putB_below b5 (Nat.le_refl _) (.map #[⟨.string ⟨#[109, 111, 110]⟩, .int .i64 1, 0⟩, ⟨.string ⟨#[116, 117, 101]⟩, .int .i64 2, 1⟩, ⟨.string ⟨#[119, 101, 100]⟩, .int .i64 4, 2⟩, ⟨.string ⟨#[116, 104, 117]⟩, .int .i64 8, 3⟩, ⟨.string ⟨#[102, 114, 105]⟩, .int .i64 16, 4⟩, ⟨.string ⟨#[115, 97, 116]⟩, .int .i64 32, 5⟩] 6)
  have i7 := ins_new m6 ⟨#[115, 117, 110]⟩ (.int .i64 64) (by rfl)
  have m7 := putB_same (o' := .map #[⟨.string ⟨#[109, 111, 110]⟩, .int .i64 1, 0⟩, ⟨.string ⟨#[116, 117, 101]⟩, .int .i64 2, 1⟩, ⟨.string ⟨#[119, 101, 100]⟩, .int .i64 4, 2⟩, ⟨.string ⟨#[116, 104, 117]⟩, .int .i64 8, 3⟩, ⟨.string ⟨#[102, 114, 105]⟩, .int .i64 16, 4⟩, ⟨.string ⟨#[115, 97, 116]⟩, .int .i64 32, 5⟩, ⟨.string ⟨#[115, 117, 110]⟩, .int .i64 64, 6⟩] 7) m6
  have b7 := putB_below b6 (Nat.le_refl _) (.map #[⟨.string ⟨#[109, 111, 110]⟩, .int .i64 1, 0⟩, ⟨.string ⟨#[116, 117, 101]⟩, .int .i64 2, 1⟩, ⟨.string ⟨#[119, 101, 100]⟩, .int .i64 4, 2⟩, ⟨.string ⟨#[116, 104, 117]⟩, .int .i64 8, 3⟩, ⟨.string ⟨#[102, 114, 105]⟩, .int .i64 16, 4⟩, ⟨.string ⟨#[115, 97, 116]⟩, .int .i64 32, 5⟩, ⟨.string ⟨#[115, 117, 110]⟩, .int .i64 64, 6⟩] 7)
  exact ⟨_, _, _, _, _, _, _, i1, i2, i3, i4, i5, i6, i7, m7, b7⟩
end Go.Proofs.Ytjllbklkaalafaa

/- The map of how many kids a kind has, as the document writes it out, and what is looked up in it. -/
namespace Go.Proofs.Ytjllbklkaalafaa
open Go.RowKit Lx
variable {w : World} {r : Nat} {es : Array MapEntry} {c : Nat}

theorem kmapT : Try.prog.underlying 80 = some (.map 3 3) := by kernel_rfl
theorem intT : Try.prog.underlying 3 = some (.int .i64) := by kernel_rfl
theorem ins_newI (hb : w.heap[r]? = some (.map es c)) (k : Int) (x : Value) (hn : Instr.findNow (.int .i64) (.int .i64 k) es.toList 0 = some none) :
    (Instr.mapUpdate 80 (.map (some r)) (.int .i64 k) x).run Try.prog w = .ok () (putB w r (.map (es.push ⟨.int .i64 k, x, c⟩) (c + 1))) := by
  have hc : (Instr.checkKey false 10000 3 (.int .i64 k)).run Try.prog w = .ok () w := MapKept.run_checkKey (k := .int .i64 k) intT (by simp [MapKept.IsKey]) false 9999
  simp [Instr.mapUpdate, run_underlying kmapT, MapKept.run_getObj_map hb, hc, MapKept.run_findKey intT hn, MapKept.run_setObj_map _ hb, Result.andThen, putB]
/-- The map, as it stands when all are put. -/
def kindM : Array MapEntry := #[⟨.int .i64 1, .int .i64 0, 0⟩, ⟨.int .i64 2, .int .i64 0, 1⟩, ⟨.int .i64 3, .int .i64 0, 2⟩, ⟨.int .i64 10, .int .i64 0, 3⟩, ⟨.int .i64 4, .int .i64 1, 4⟩, ⟨.int .i64 5, .int .i64 1, 5⟩, ⟨.int .i64 9, .int .i64 1, 6⟩, ⟨.int .i64 6, .int .i64 2, 7⟩, ⟨.int .i64 7, .int .i64 2, 8⟩, ⟨.int .i64 8, .int .i64 2, 9⟩]
theorem kind_find (k : Int) : ∃ a, Instr.findNow (.int .i64) (.int .i64 k) kindM.toList 0 = some a ∧ (match a with | some (_, u) => u = .int .i64 (kidsP k : Int) ∧ (1 ≤ k ∧ k ≤ 10) | none => kidsP k = 0 ∧ ¬ (1 ≤ k ∧ k ≤ 10)) := by
  by_cases c1 : k = 1
  · subst c1
    exact ⟨_, rfl, rfl, by decide⟩
  by_cases c2 : k = 2
  · subst c2
    exact ⟨_, rfl, rfl, by decide⟩
  by_cases c3 : k = 3
  · subst c3
    exact ⟨_, rfl, rfl, by decide⟩
  by_cases c4 : k = 4
  · subst c4
    exact ⟨_, rfl, rfl, by decide⟩
  by_cases c5 : k = 5
  · subst c5
    exact ⟨_, rfl, rfl, by decide⟩
  by_cases c6 : k = 6
  · subst c6
    exact ⟨_, rfl, rfl, by decide⟩
  by_cases c7 : k = 7
  · subst c7
    exact ⟨_, rfl, rfl, by decide⟩
  by_cases c8 : k = 8
  · subst c8
    exact ⟨_, rfl, rfl, by decide⟩
  by_cases c9 : k = 9
  · subst c9
    exact ⟨_, rfl, rfl, by decide⟩
  by_cases c10 : k = 10
  · subst c10
    exact ⟨_, rfl, rfl, by decide⟩
  refine ⟨none, ?_, ?_, by omega⟩
  · unfold kindM
    have e1 : (k == 1) = false := beq_eq_false_iff_ne.2 c1
    have e2 : (k == 2) = false := beq_eq_false_iff_ne.2 c2
    have e3 : (k == 3) = false := beq_eq_false_iff_ne.2 c3
    have e4 : (k == 4) = false := beq_eq_false_iff_ne.2 c4
    have e5 : (k == 5) = false := beq_eq_false_iff_ne.2 c5
    have e6 : (k == 6) = false := beq_eq_false_iff_ne.2 c6
    have e7 : (k == 7) = false := beq_eq_false_iff_ne.2 c7
    have e8 : (k == 8) = false := beq_eq_false_iff_ne.2 c8
    have e9 : (k == 9) = false := beq_eq_false_iff_ne.2 c9
    have e10 : (k == 10) = false := beq_eq_false_iff_ne.2 c10
    simp only [Instr.findNow, Instr.sameNow, ↓reduceIte, e1, e2, e3, e4, e5, e6, e7, e8, e9, e10]
  · unfold kidsP
    rw [if_neg (by omega), if_neg (by omega)]
theorem kind_look (hb : w.heap[r]? = some (.map kindM 10)) (k : Int) :
    (Instr.lookup 80 (.map (some r)) (.int .i64 k) true).run Try.prog w = .ok (.tuple #[.int .i64 (kidsP k : Int), .bool (decide (1 ≤ k ∧ k ≤ 10))]) w := by
  have hc : (Instr.checkKey false 10000 3 (.int .i64 k)).run Try.prog w = .ok () w := MapKept.run_checkKey (k := .int .i64 k) intT (by simp [MapKept.IsKey]) false 9999
  obtain ⟨a, h1, h2⟩ := kind_find k
  have hz : (zeroValue 3).run Try.prog w = .ok (.int .i64 0) w := by kernel_rfl
  have hem : kindM.isEmpty = false := by rfl
  cases a with
  | none =>
    obtain ⟨h3, h4⟩ := h2
    simp [Instr.lookup, run_underlying kmapT, MapKept.run_getObj_map hb, hem, hc, MapKept.run_findKey intT h1, hz, Result.andThen, h3]
    omega
  | some q =>
    obtain ⟨j, u⟩ := q
    obtain ⟨h3, h4⟩ := h2
    simp [Instr.lookup, run_underlying kmapT, MapKept.run_getObj_map hb, hem, hc, MapKept.run_findKey intT h1, Result.andThen, h3, h4]
/-- The map is made. -/
theorem kinds_all (w : World) : ∃ W1 W2 W3 W4 W5 W6 W7 W8 W9 W10 : World,
    (Instr.mapUpdate 80 (.map (some w.heap.size)) (.int .i64 1) (.int .i64 0)).run Try.prog (w.alloc (.map #[] 0)) = .ok () W1 ∧
    (Instr.mapUpdate 80 (.map (some w.heap.size)) (.int .i64 2) (.int .i64 0)).run Try.prog W1 = .ok () W2 ∧
    (Instr.mapUpdate 80 (.map (some w.heap.size)) (.int .i64 3) (.int .i64 0)).run Try.prog W2 = .ok () W3 ∧
    (Instr.mapUpdate 80 (.map (some w.heap.size)) (.int .i64 10) (.int .i64 0)).run Try.prog W3 = .ok () W4 ∧
    (Instr.mapUpdate 80 (.map (some w.heap.size)) (.int .i64 4) (.int .i64 1)).run Try.prog W4 = .ok () W5 ∧
    (Instr.mapUpdate 80 (.map (some w.heap.size)) (.int .i64 5) (.int .i64 1)).run Try.prog W5 = .ok () W6 ∧
    (Instr.mapUpdate 80 (.map (some w.heap.size)) (.int .i64 9) (.int .i64 1)).run Try.prog W6 = .ok () W7 ∧
    (Instr.mapUpdate 80 (.map (some w.heap.size)) (.int .i64 6) (.int .i64 2)).run Try.prog W7 = .ok () W8 ∧
    (Instr.mapUpdate 80 (.map (some w.heap.size)) (.int .i64 7) (.int .i64 2)).run Try.prog W8 = .ok () W9 ∧
    (Instr.mapUpdate 80 (.map (some w.heap.size)) (.int .i64 8) (.int .i64 2)).run Try.prog W9 = .ok () W10 ∧
    W10.heap[w.heap.size]? = some (.map kindM 10) ∧ Below w.heap.size w W10 := by
  have m0 := heap_alloc_new w (.map #[] 0)
  have b0 := (Below.refl w.heap.size w).alloc (Nat.le_refl _) (.map #[] 0)
  have i1 := ins_newI m0 1 (.int .i64 0) (by rfl)
  have m1 := putB_same (o' := .map #[⟨.int .i64 1, .int .i64 0, 0⟩] 1) m0
  have b1 := putB_below b0 (Nat.le_refl _) (.map #[⟨.int .i64 1, .int .i64 0, 0⟩] 1)
  have i2 := ins_newI m1 2 (.int .i64 0) (by rfl)
  have m2 := putB_same (o' := .map #[⟨.int .i64 1, .int .i64 0, 0⟩, ⟨.int .i64 2, .int .i64 0, 1⟩] 2) m1
  have b2 := putB_below b1 (Nat.le_refl _) (.map #[⟨.int .i64 1, .int .i64 0, 0⟩, ⟨.int .i64 2, .int .i64 0, 1⟩] 2)
  have i3 := ins_newI m2 3 (.int .i64 0) (by rfl)
  have m3 := putB_same (o' := .map #[⟨.int .i64 1, .int .i64 0, 0⟩, ⟨.int .i64 2, .int .i64 0, 1⟩, ⟨.int .i64 3, .int .i64 0, 2⟩] 3) m2
  have b3 := putB_below b2 (Nat.le_refl _) (.map #[⟨.int .i64 1, .int .i64 0, 0⟩, ⟨.int .i64 2, .int .i64 0, 1⟩, ⟨.int .i64 3, .int .i64 0, 2⟩] 3)
  have i4 := ins_newI m3 10 (.int .i64 0) (by rfl)
  have m4 := putB_same (o' := .map #[⟨.int .i64 1, .int .i64 0, 0⟩, ⟨.int .i64 2, .int .i64 0, 1⟩, ⟨.int .i64 3, .int .i64 0, 2⟩, ⟨.int .i64 10, .int .i64 0, 3⟩] 4) m3
  have b4 := putB_below b3 (Nat.le_refl _) (.map #[⟨.int .i64 1, .int .i64 0, 0⟩, ⟨.int .i64 2, .int .i64 0, 1⟩, ⟨.int .i64 3, .int .i64 0, 2⟩, ⟨.int .i64 10, .int .i64 0, 3⟩] 4)
  have i5 := ins_newI m4 4 (.int .i64 1) (by rfl)
  have m5 := putB_same (o' := .map #[⟨.int .i64 1, .int .i64 0, 0⟩, ⟨.int .i64 2, .int .i64 0, 1⟩, ⟨.int .i64 3, .int .i64 0, 2⟩, ⟨.int .i64 10, .int .i64 0, 3⟩, ⟨.int .i64 4, .int .i64 1, 4⟩] 5) m4
  have b5 := putB_below b4 (Nat.le_refl _) (.map #[⟨.int .i64 1, .int .i64 0, 0⟩, ⟨.int .i64 2, .int .i64 0, 1⟩, ⟨.int .i64 3, .int .i64 0, 2⟩, ⟨.int .i64 10, .int .i64 0, 3⟩, ⟨.int .i64 4, .int .i64 1, 4⟩] 5)
  have i6 := ins_newI m5 5 (.int .i64 1) (by rfl)
  have m6 := putB_same (o' := .map #[⟨.int .i64 1, .int .i64 0, 0⟩, ⟨.int .i64 2, .int .i64 0, 1⟩, ⟨.int .i64 3, .int .i64 0, 2⟩, ⟨.int .i64 10, .int .i64 0, 3⟩, ⟨.int .i64 4, .int .i64 1, 4⟩, ⟨.int .i64 5, .int .i64 1, 5⟩] 6) m5
  have b6 := putB_below b5 (Nat.le_refl _) (.map #[⟨.int .i64 1, .int .i64 0, 0⟩, ⟨.int .i64 2, .int .i64 0, 1⟩, ⟨.int .i64 3, .int .i64 0, 2⟩, ⟨.int .i64 10, .int .i64 0, 3⟩, ⟨.int .i64 4, .int .i64 1, 4⟩, ⟨.int .i64 5, .int .i64 1, 5⟩] 6)
  have i7 := ins_newI m6 9 (.int .i64 1) (by rfl)
  have m7 := putB_same (o' := .map #[⟨.int .i64 1, .int .i64 0, 0⟩, ⟨.int .i64 2, .int .i64 0, 1⟩, ⟨.int .i64 3, .int .i64 0, 2⟩, ⟨.int .i64 10, .int .i64 0, 3⟩, ⟨.int .i64 4, .int .i64 1, 4⟩, ⟨.int .i64 5, .int .i64 1, 5⟩, ⟨.int .i64 9, .int .i64 1, 6⟩] 7) m6
  have b7 := putB_below b6 (Nat.le_refl _) (.map #[⟨.int .i64 1, .int .i64 0, 0⟩, ⟨.int .i64 2, .int .i64 0, 1⟩, ⟨.int .i64 3, .int .i64 0, 2⟩, ⟨.int .i64 10, .int .i64 0, 3⟩, ⟨.int .i64 4, .int .i64 1, 4⟩, ⟨.int .i64 5, .int .i64 1, 5⟩, ⟨.int .i64 9, .int .i64 1, 6⟩] 7)
  have i8 := ins_newI m7 6 (.int .i64 2) (by rfl)
  have m8 := putB_same (o' := .map #[⟨.int .i64 1, .int .i64 0, 0⟩, ⟨.int .i64 2, .int .i64 0, 1⟩, ⟨.int .i64 3, .int .i64 0, 2⟩, ⟨.int .i64 10, .int .i64 0, 3⟩, ⟨.int .i64 4, .int .i64 1, 4⟩, ⟨.int .i64 5, .int .i64 1, 5⟩, ⟨.int .i64 9, .int .i64 1, 6⟩, ⟨.int .i64 6, .int .i64 2, 7⟩] 8) m7
  have b8 := putB_below b7 (Nat.le_refl _) (.map #[⟨.int .i64 1, .int .i64 0, 0⟩, ⟨.int .i64 2, .int .i64 0, 1⟩, ⟨.int .i64 3, .int .i64 0, 2⟩, ⟨.int .i64 10, .int .i64 0, 3⟩, ⟨.int .i64 4, .int .i64 1, 4⟩, ⟨.int .i64 5, .int .i64 1, 5⟩, ⟨.int .i64 9, .int .i64 1, 6⟩, ⟨.int .i64 6, .int .i64 2, 7⟩] 8)
  have i9 := ins_newI m8 7 (.int .i64 2) (by rfl)
  have m9 := putB_same (o' := .map #[⟨.int .i64 1, .int .i64 0, 0⟩, ⟨.int .i64 2, .int .i64 0, 1⟩, ⟨.int .i64 3, .int .i64 0, 2⟩, ⟨.int .i64 10, .int .i64 0, 3⟩, ⟨.int .i64 4, .int .i64 1, 4⟩, ⟨.int .i64 5, .int .i64 1, 5⟩, ⟨.int .i64 9, .int .i64 1, 6⟩, ⟨.int .i64 6, .int .i64 2, 7⟩, ⟨.int .i64 7, .int .i64 2, 8⟩] 9) m8
  have b9 := putB_below b8 (Nat.le_refl _) (.map #[⟨.int .i64 1, .int .i64 0, 0⟩, ⟨.int .i64 2, .int .i64 0, 1⟩, ⟨.int .i64 3, .int .i64 0, 2⟩, ⟨.int .i64 10, .int .i64 0, 3⟩, ⟨.int .i64 4, .int .i64 1, 4⟩, ⟨.int .i64 5, .int .i64 1, 5⟩, ⟨.int .i64 9, .int .i64 1, 6⟩, ⟨.int .i64 6, .int .i64 2, 7⟩, ⟨.int .i64 7, .int .i64 2, 8⟩] 9)
  have i10 := ins_newI m9 8 (.int .i64 2) (by rfl)
  have m10 := putB_same (o' := .map #[⟨.int .i64 1, .int .i64 0, 0⟩, ⟨.int .i64 2, .int .i64 0, 1⟩, ⟨.int .i64 3, .int .i64 0, 2⟩, ⟨.int .i64 10, .int .i64 0, 3⟩, ⟨.int .i64 4, .int .i64 1, 4⟩, ⟨.int .i64 5, .int .i64 1, 5⟩, ⟨.int .i64 9, .int .i64 1, 6⟩, ⟨.int .i64 6, .int .i64 2, 7⟩, ⟨.int .i64 7, .int .i64 2, 8⟩, ⟨.int .i64 8, .int .i64 2, 9⟩] 10) m9
  have b10 := putB_below b9 (Nat.le_refl _) (.map #[⟨.int .i64 1, .int .i64 0, 0⟩, ⟨.int .i64 2, .int .i64 0, 1⟩, ⟨.int .i64 3, .int .i64 0, 2⟩, ⟨.int .i64 10, .int .i64 0, 3⟩, ⟨.int .i64 4, .int .i64 1, 4⟩, ⟨.int .i64 5, .int .i64 1, 5⟩, ⟨.int .i64 9, .int .i64 1, 6⟩, ⟨.int .i64 6, .int .i64 2, 7⟩, ⟨.int .i64 7, .int .i64 2, 8⟩, ⟨.int .i64 8, .int .i64 2, 9⟩] 10)
  exact ⟨_, _, _, _, _, _, _, _, _, _, i1, i2, i3, i4, i5, i6, i7, i8, i9, i10, m10, b10⟩
end Go.Proofs.Ytjllbklkaalafaa

/- What slotref3.digit, low, sign and Word come to. -/
namespace Go.Proofs.Ytjllbklkaalafaa
open Go.RowKit Lx

theorem rdigit_any (c : UInt8) (w : World) : Calls Try.prog 47 #[.int .u8 (c.toNat : Int)] w fun e w' => e = .returned (.bool (isD c)) ∧ w' = w := by
  unfold isD
  by_cases h1 : 48 ≤ c.toNat
  · by_cases h2 : c.toNat ≤ 57
    · have i1 : (48 : Int) ≤ (c.toNat : Int) := by omega
      have i2 : (c.toNat : Int) ≤ 57 := by omega
      rw [decide_eq_true h1, decide_eq_true h2]
      go_enter Try.func47, Try.ntmps47
      go_wp2
      go_ret
      exact ⟨rfl, rfl⟩
    · have i1 : (48 : Int) ≤ (c.toNat : Int) := by omega
      have i2 : ¬ (c.toNat : Int) ≤ 57 := by omega
      rw [decide_eq_true h1, decide_eq_false h2]
      go_enter Try.func47, Try.ntmps47
      go_wp2
      go_ret
      exact ⟨rfl, rfl⟩
  · have i1 : ¬ (48 : Int) ≤ (c.toNat : Int) := by omega
    rw [decide_eq_false h1]
    go_enter Try.func47, Try.ntmps47
    go_wp2
    go_ret
    exact ⟨rfl, rfl⟩
theorem rlow_any (c : UInt8) (w : World) : Calls Try.prog 46 #[.int .u8 (c.toNat : Int)] w fun e w' => e = .returned (.bool (isL c)) ∧ w' = w := by
  unfold isL
  by_cases h1 : 97 ≤ c.toNat
  · by_cases h2 : c.toNat ≤ 122
    · have i1 : (97 : Int) ≤ (c.toNat : Int) := by omega
      have i2 : (c.toNat : Int) ≤ 122 := by omega
      rw [decide_eq_true h1, decide_eq_true h2]
      go_enter Try.func46, Try.ntmps46
      go_wp2
      go_ret
      exact ⟨rfl, rfl⟩
    · have i1 : (97 : Int) ≤ (c.toNat : Int) := by omega
      have i2 : ¬ (c.toNat : Int) ≤ 122 := by omega
      rw [decide_eq_true h1, decide_eq_false h2]
      go_enter Try.func46, Try.ntmps46
      go_wp2
      go_ret
      exact ⟨rfl, rfl⟩
  · have i1 : ¬ (97 : Int) ≤ (c.toNat : Int) := by omega
    rw [decide_eq_false h1]
    go_enter Try.func46, Try.ntmps46
    go_wp2
    go_ret
    exact ⟨rfl, rfl⟩


/-- Does that byte stand at that place? -/
def atB (l : List UInt8) (k c : Nat) : Bool := decide (k < l.length) && decide ((l.getD k 0).toNat = c)
/-- The words as the document's answer lists them. -/
def rwordsL : List (List UInt8) := [[114, 117, 108, 101], [110, 101, 118, 101, 114], [97, 108, 119, 97, 121, 115], [119, 101, 101, 107, 108, 121], [100, 97, 116, 101, 115], [115, 104, 105, 102, 116], [109, 111, 110], [116, 117, 101], [119, 101, 100], [116, 104, 117], [102, 114, 105], [115, 97, 116], [115, 117, 110]]
def rwordCells : Array Value := (rwordsL.map fun l => Value.string ⟨l.toArray⟩).toArray
theorem rwordCell (j : Nat) (hj : j < 13) : rwordCells[j]? = some (.string ⟨(rwordsL.getD j []).toArray⟩) := by
  have h : j < rwordsL.length := hj
  unfold rwordCells
  simp only [List.getElem?_toArray, List.getElem?_map, List.getD_eq_getElem?_getD, List.getElem?_eq_getElem h]
  rfl
theorem rword_mem (x : List UInt8) : x ∈ rwordsL ↔ x ∈ wordsL := by
  unfold rwordsL wordsL
  simp only [List.mem_cons, List.not_mem_nil, or_false]
  constructor
  · rintro (h | h | h | h | h | h | h | h | h | h | h | h | h) <;> subst h <;> simp
  · rintro (h | h | h | h | h | h | h | h | h | h | h | h | h) <;> subst h <;> simp
theorem rword_no {x : List UInt8} (h : ∀ j, j < 13 → rwordsL.getD j [] ≠ x) : isWordL x = false := by
  cases e : isWordL x with
  | false => rfl
  | true =>
    unfold isWordL at e
    rw [List.any_eq_true] at e
    obtain ⟨y, hy, hx⟩ := e
    have hyx : y = x := by simpa using hx
    subst hyx
    obtain ⟨j, hj, hjx⟩ := List.getElem_of_mem ((rword_mem y).2 hy)
    have hj' : j < 13 := hj
    exact absurd (by simpa [List.getD, hj] using hjx) (h j hj')
theorem rword_yes {x : List UInt8} (j : Nat) (hj : j < 13) (h : rwordsL.getD j [] = x) : isWordL x = true := by
  have hj' : j < rwordsL.length := hj
  have hm : x ∈ rwordsL := by rw [← h]; simp [List.getD, hj']
  unfold isWordL
  rw [List.any_eq_true]
  exact ⟨x, (rword_mem x).1 hm, beq_self_eq_true x⟩
set_option maxRecDepth 10000 in
set_option maxHeartbeats 400000 in
theorem rword_any (x : ByteArray) (l : List UInt8) (hx : x.data.toList = l) (w : World) :
    Calls Try.prog 48 #[.string x] w fun e w' => e = .returned (.bool (isWordL l)) ∧ Below w.heap.size w w' := by
  have hg : (w.alloc (.cells rwordCells 9)).heap[w.heap.size]? = some (.cells rwordCells 9 (0, 0)) := heap_alloc_new w _
  have hb : Below w.heap.size w (w.alloc (.cells rwordCells 9)) := (Below.refl _ _).alloc (Nat.le_refl _) _
  have HC : Hid (∀ j, j < 13 → (w.alloc (.cells rwordCells 9)).cell? ⟨w.heap.size, j, none⟩ = some (.string ⟨(rwordsL.getD j []).toArray⟩)) := fun j hj => by rw [cell_of_row _ _ _ _ _ _ hg, rwordCell j hj]
  have hW : (w.alloc (.cells #[.string ⟨#[114, 117, 108, 101]⟩, .string ⟨#[110, 101, 118, 101, 114]⟩, .string ⟨#[97, 108, 119, 97, 121, 115]⟩, .string ⟨#[119, 101, 101, 107, 108, 121]⟩, .string ⟨#[100, 97, 116, 101, 115]⟩, .string ⟨#[115, 104, 105, 102, 116]⟩, .string ⟨#[109, 111, 110]⟩, .string ⟨#[116, 117, 101]⟩, .string ⟨#[119, 101, 100]⟩, .string ⟨#[116, 104, 117]⟩, .string ⟨#[102, 114, 105]⟩, .string ⟨#[115, 97, 116]⟩, .string ⟨#[115, 117, 110]⟩] 9)) = w.alloc (.cells rwordCells 9) := rfl
  generalize w.alloc (.cells rwordCells 9) = w1 at *
  clear hg
  go_enter Try.func48, Try.ntmps48
  go_wp2
  go_loop [7] (fun i => ∃ k : Nat, k ≤ 13 ∧ i = .int .i64 k ∧ ∀ j, j < k → rwordsL.getD j [] ≠ l) (fun i => 13 - (intOf i).toNat)
  case atStart => exact ⟨0, by omega, rfl, fun i h => by omega⟩
  case round =>
    obtain ⟨k, hk, rfl, hall⟩ := hrel
    have HA : Hid (∀ j, j < k → rwordsL.getD j [] ≠ l) := hall
    clear hall
    by_cases hlt : k < 13
    · have hlt' : (k : Int) < 13 := by omega
      have hk0 : (0 : Int) ≤ (k : Int) := by omega
      have ck := HC.out k hlt
      generalize hy : (⟨(rwordsL.getD k []).toArray⟩ : ByteArray) = y at ck
      have hyl : y.data.toList = rwordsL.getD k [] := by rw [← hy]
      by_cases he : rwordsL.getD k [] = l
      · have hq : (y.toList == x.toList) = true := by rw [Lib.toList_data, Lib.toList_data, hyl, hx, he]; simp
        have hWd : Hid (isWordL l = true) := rword_yes k hlt he
        clear he hyl hy hW
        go_wp2
        go_ret
        exact ⟨by rw [hWd.out]; rfl, hb⟩
      · have hq : (y.toList == x.toList) = false := by
          rw [Lib.toList_data, Lib.toList_data, hyl, hx]
          rw [beq_eq_false_iff_ne]
          exact he
        have HE : Hid (rwordsL.getD k [] ≠ l) := he
        clear he hyl hy hW
        go_wp2
        go_round
        case rel =>
          refine ⟨k + 1, by omega, by go_num, fun j hj => ?_⟩
          by_cases e : j = k
          · subst e; exact HE.out
          · exact HA.out j (by omega)
        case measure => simp [intOf]; omega
    · have hkl : k = 13 := by omega
      subst hkl
      have hWd : Hid (isWordL l = false) := rword_no HA.out
      clear hW
      go_wp2
      go_ret
      exact ⟨by rw [hWd.out]; rfl, hb⟩
end Go.Proofs.Ytjllbklkaalafaa

/- What slotref3.digits comes to. -/
namespace Go.Proofs.Ytjllbklkaalafaa
open Go.RowKit Lx

/-- So many digits at a place: their number. -/
def digL (l : List UInt8) (k n : Nat) : Int × Bool := if k + n ≤ l.length ∧ ∀ i, i < n → isD (l.getD (k + i) 0) = true then (valL ((l.drop k).take n), true) else (0, false)
theorem below_bytes (w : World) (e : TypeId) (s : ByteArray) : Below w.heap.size w (Lib.bytesWorld w e s) := ⟨rfl, rfl, rfl, by rw [Lib.bytesWorld_size]; omega, fun k hk => Lib.bytesWorld_at_old w e s k hk⟩
theorem bytesT : Try.prog.underlying 78 = some (.slice 5) := by kernel_rfl

end Go.Proofs.Ytjllbklkaalafaa
