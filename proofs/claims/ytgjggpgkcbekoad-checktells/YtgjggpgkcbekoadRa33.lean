/- What the document's Thing, Factor and Sum come to where something is wrong already: nothing turns. -/
import Derived.Test.YtgjggpgkcbekoadRa32
import Derived.MapKept
import Derived.Carry
namespace Go.Proofs.Ytgjggpgkcbekoad
open Go.RowKit Lx
variable {all : List Tk} {E g : Nat} {v : Value} {w : World} {i n : Nat} {er at_ : Int}

end Go.Proofs.Ytgjggpgkcbekoad

/- What the document's reader meets, in the plain reader's words. -/
namespace Go.Proofs.Ytgjggpgkcbekoad
open Go.RowKit Lx
variable {all : List Tk} {E g : Nat} {v : Value} {w : World} {i n : Nat} {er at_ : Int}

theorem head_ok (h0 : WS0 all E g v) (i : Nat) : (textP (all.drop i) ∈ signW → kindP (all.drop i) = 3) ∧ (textP (all.drop i) ∈ wordsL → kindP (all.drop i) = 2) := by
  cases h : all.drop i with
  | nil => exact ⟨fun h => absurd h (by decide), fun h => absurd h (by decide)⟩
  | cons p r =>
    have hm : p ∈ all := List.mem_of_mem_drop (h ▸ List.mem_cons_self)
    exact h0.kind p hm
theorem on_sign (h0 : WS0 all E g v) {x : List UInt8} (hx : x ∈ signW) (i : Nat) : onB all i 0 3 x = isT x (all.drop i) := by
  unfold onB
  cases hT : isT x (all.drop i) with
  | false => simp
  | true =>
    have e : textP (all.drop i) = x := by simpa [isT] using hT
    have := (head_ok h0 i).1 (by rw [e]; exact hx)
    rw [this]; rfl
theorem on_word (h0 : WS0 all E g v) {x : List UInt8} (hx : x ∈ wordsL) (i : Nat) : onB all i 0 2 x = isT x (all.drop i) := by
  unfold onB
  cases hT : isT x (all.drop i) with
  | false => simp
  | true =>
    have e : textP (all.drop i) = x := by simpa [isT] using hT
    have := (head_ok h0 i).2 (by rw [e]; exact hx)
    rw [this]; rfl
theorem Kept.setAt {w' : World} {k : Nat} (h : Kept g w w') (hk : w.heap.size ≤ k) (j : Nat) (u : Value) : Kept g w (w'.setCell ⟨k, j, none⟩ u) :=
  ⟨h.os, h.tape, h.output, by simpa using h.size, fun m hm hne => (heap_setCell_other w' ⟨k, j, none⟩ m u (by show m ≠ k; omega)).trans (h.block m hm hne)⟩
end Go.Proofs.Ytgjggpgkcbekoad

/- A map that is written out, and what is looked up in it. -/
namespace Go.Proofs.Ytgjggpgkcbekoad
open Go.RowKit Lx
variable {w : World} {r : Nat} {es : Array MapEntry} {c : Nat}

theorem mapT : Try.prog.underlying 35 = some (.map 9 3) := by kernel_rfl
theorem strT : Try.prog.underlying 9 = some .string := by kernel_rfl
/-- A block is put anew. -/
def putB (w : World) (b : Nat) (o : Obj) : World := { w with heap := w.heap.setIfInBounds b o }
theorem putB_same {o o' : Obj} (hb : w.heap[r]? = some o) : (putB w r o').heap[r]? = some o' := (MapKept.heap_set hb).1
theorem ins_new (hb : w.heap[r]? = some (.map es c)) (k : ByteArray) (x : Value) (hn : Instr.findNow .string (.string k) es.toList 0 = some none) :
    (Instr.mapUpdate 35 (.map (some r)) (.string k) x).run Try.prog w = .ok () (putB w r (.map (es.push ⟨.string k, x, c⟩) (c + 1))) := by
  have hc : (Instr.checkKey false 10000 9 (.string k)).run Try.prog w = .ok () w := MapKept.run_checkKey (k := .string k) strT (by simp [MapKept.IsKey]) false 9999
  simp [Instr.mapUpdate, run_underlying mapT, MapKept.run_getObj_map hb, hc, MapKept.run_findKey strT hn, MapKept.run_setObj_map _ hb, Result.andThen, putB]
/-- The days' map, as it stands when all are put. -/
def dayM : Array MapEntry := #[⟨.string ⟨#[109, 111, 110]⟩, .int .i64 1, 0⟩, ⟨.string ⟨#[116, 117, 101]⟩, .int .i64 2, 1⟩, ⟨.string ⟨#[119, 101, 100]⟩, .int .i64 4, 2⟩, ⟨.string ⟨#[116, 104, 117]⟩, .int .i64 8, 3⟩, ⟨.string ⟨#[102, 114, 105]⟩, .int .i64 16, 4⟩, ⟨.string ⟨#[115, 97, 116]⟩, .int .i64 32, 5⟩, ⟨.string ⟨#[115, 117, 110]⟩, .int .i64 64, 6⟩]
theorem day_find (x : List UInt8) : ∃ a, Instr.findNow .string (.string ⟨x.toArray⟩) dayM.toList 0 = some a ∧ (match a with | some (_, u) => u = .int .i64 (dayBit x : Int) | none => dayBit x = 0) := by
  have e : ∀ y : List UInt8, ((⟨x.toArray⟩ : ByteArray) == ⟨y.toArray⟩) = (x == y) := fun y => by
    show (x.toArray == y.toArray) = (x == y)
    simp
  have e0 := e [109, 111, 110]
  have e1 := e [116, 117, 101]
  have e2 := e [119, 101, 100]
  have e3 := e [116, 104, 117]
  have e4 := e [102, 114, 105]
  have e5 := e [115, 97, 116]
  have e6 := e [115, 117, 110]
  unfold dayM dayBit
  simp only [Instr.findNow, Instr.sameNow, e0, e1, e2, e3, e4, e5, e6]
  by_cases c0 : x = [109, 111, 110]
  · subst c0
    exact ⟨_, rfl, rfl⟩
  by_cases c1 : x = [116, 117, 101]
  · subst c1
    exact ⟨_, rfl, rfl⟩
  by_cases c2 : x = [119, 101, 100]
  · subst c2
    exact ⟨_, rfl, rfl⟩
  by_cases c3 : x = [116, 104, 117]
  · subst c3
    exact ⟨_, rfl, rfl⟩
  by_cases c4 : x = [102, 114, 105]
  · subst c4
    exact ⟨_, rfl, rfl⟩
  by_cases c5 : x = [115, 97, 116]
  · subst c5
    exact ⟨_, rfl, rfl⟩
  by_cases c6 : x = [115, 117, 110]
  · subst c6
    exact ⟨_, rfl, rfl⟩
  refine ⟨none, ?_, ?_⟩
  · simp only [beq_eq_false_iff_ne.2 c0, beq_eq_false_iff_ne.2 c1, beq_eq_false_iff_ne.2 c2, beq_eq_false_iff_ne.2 c3, beq_eq_false_iff_ne.2 c4, beq_eq_false_iff_ne.2 c5, beq_eq_false_iff_ne.2 c6]
  · show (if x = [109, 111, 110] then 1 else if x = [116, 117, 101] then 2 else if x = [119, 101, 100] then 4 else if x = [116, 104, 117] then 8 else if x = [102, 114, 105] then 16 else if x = [115, 97, 116] then 32 else if x = [115, 117, 110] then 64 else 0) = 0
    rw [if_neg c0, if_neg c1, if_neg c2, if_neg c3, if_neg c4, if_neg c5, if_neg c6]
theorem day_look (hb : w.heap[r]? = some (.map dayM 7)) (x : List UInt8) :
    (Instr.lookup 35 (.map (some r)) (.string ⟨x.toArray⟩) false).run Try.prog w = .ok (.int .i64 (dayBit x : Int)) w := by
  have hc : (Instr.checkKey false 10000 9 (.string ⟨x.toArray⟩)).run Try.prog w = .ok () w := MapKept.run_checkKey (k := .string _) strT (by simp [MapKept.IsKey]) false 9999
  obtain ⟨a, h1, h2⟩ := day_find x
  have hz : (zeroValue 3).run Try.prog w = .ok (.int .i64 0) w := by kernel_rfl
  have hem : dayM.isEmpty = false := by rfl
  cases a with
  | none =>
    simp [Instr.lookup, run_underlying mapT, MapKept.run_getObj_map hb, hem, hc, MapKept.run_findKey strT h1, hz, Result.andThen, show dayBit x = 0 from h2]
  | some q =>
    obtain ⟨j, u⟩ := q
    have : u = .int .i64 (dayBit x : Int) := h2
    simp [Instr.lookup, run_underlying mapT, MapKept.run_getObj_map hb, hem, hc, MapKept.run_findKey strT h1, Result.andThen, this]
theorem putB_below {r n : Nat} {w0 : World} (h : Below n w0 w) (hr : n ≤ r) (o : Obj) : Below n w0 (putB w r o) :=
  ⟨h.os, h.tape, h.output, by simpa [putB] using h.size, fun k hk => by
    rw [← h.block k hk]
    show (w.heap.setIfInBounds r o)[k]? = _
    rw [Array.getElem?_setIfInBounds_ne (by omega)]⟩
/-- The days' map is made. -/
theorem days_all (w : World) : ∃ W1 W2 W3 W4 W5 W6 W7 : World,
    (Instr.mapUpdate 35 (.map (some w.heap.size)) (.string ⟨#[109, 111, 110]⟩) (.int .i64 1)).run Try.prog (w.alloc (.map #[] 0)) = .ok () W1 ∧
    (Instr.mapUpdate 35 (.map (some w.heap.size)) (.string ⟨#[116, 117, 101]⟩) (.int .i64 2)).run Try.prog W1 = .ok () W2 ∧
    (Instr.mapUpdate 35 (.map (some w.heap.size)) (.string ⟨#[119, 101, 100]⟩) (.int .i64 4)).run Try.prog W2 = .ok () W3 ∧
    (Instr.mapUpdate 35 (.map (some w.heap.size)) (.string ⟨#[116, 104, 117]⟩) (.int .i64 8)).run Try.prog W3 = .ok () W4 ∧
    (Instr.mapUpdate 35 (.map (some w.heap.size)) (.string ⟨#[102, 114, 105]⟩) (.int .i64 16)).run Try.prog W4 = .ok () W5 ∧
    (Instr.mapUpdate 35 (.map (some w.heap.size)) (.string ⟨#[115, 97, 116]⟩) (.int .i64 32)).run Try.prog W5 = .ok () W6 ∧
    (Instr.mapUpdate 35 (.map (some w.heap.size)) (.string ⟨#[115, 117, 110]⟩) (.int .i64 64)).run Try.prog W6 = .ok () W7 ∧
    W7.heap[w.heap.size]? = some (.map dayM 7) ∧ Below w.heap.size w W7 := by
  have m0 := heap_alloc_new w (.map #[] 0)
  have b0 := (Below.refl w.heap.size w).alloc (Nat.le_refl _) (.map #[] 0)
  have i1 := ins_new m0 ⟨#[109, 111, 110]⟩ (.int .i64 1) (by rfl)
  have m1 := putB_same (o' := .map #[⟨.string ⟨#[109, 111, 110]⟩, .int .i64 1, 0⟩] 1) m0
  have b1 := putB_below b0 (Nat.le_refl _) (.map #[⟨.string ⟨#[109, 111, 110]⟩, .int .i64 1, 0⟩] 1)
  have i2 := ins_new m1 ⟨#[116, 117, 101]⟩ (.int .i64 2) (by rfl)
  have m2 := putB_same (o' := .map #[⟨.string ⟨#[109, 111, 110]⟩, .int .i64 1, 0⟩, ⟨.string ⟨#[116, 117, 101]⟩, .int .i64 2, 1⟩] 2) m1
  have b2 := putB_below b1 (Nat.le_refl _) (.map #[⟨.string ⟨#[109, 111, 110]⟩, .int .i64 1, 0⟩, ⟨.string ⟨#[116, 117, 101]⟩, .int .i64 2, 1⟩] 2)
  have i3 := ins_new m2 ⟨#[119, 101, 100]⟩ (.int .i64 4) (by rfl)
  have m3 := putB_same (o' := .map #[⟨.string ⟨#[109, 111, 110]⟩, .int .i64 1, 0⟩, ⟨.string ⟨#[116, 117, 101]⟩, .int .i64 2, 1⟩, ⟨.string ⟨#[119, 101, 100]⟩, .int .i64 4, 2⟩] 3) m2
  have b3 := putB_below b2 (Nat.le_refl _) (.map #[⟨.string ⟨#[109, 111, 110]⟩, .int .i64 1, 0⟩, ⟨.string ⟨#[116, 117, 101]⟩, .int .i64 2, 1⟩, ⟨.string ⟨#[119, 101, 100]⟩, .int .i64 4, 2⟩] 3)
  have i4 := ins_new m3 ⟨#[116, 104, 117]⟩ (.int .i64 8) (by rfl)
  have m4 := putB_same (o' := .map #[⟨.string ⟨#[109, 111, 110]⟩, .int .i64 1, 0⟩, ⟨.string ⟨#[116, 117, 101]⟩, .int .i64 2, 1⟩, ⟨.string ⟨#[119, 101, 100]⟩, .int .i64 4, 2⟩, ⟨.string ⟨#[116, 104, 117]⟩, .int .i64 8, 3⟩] 4) m3
  have b4 := putB_below b3 (Nat.le_refl _) (.map #[⟨.string ⟨#[109, 111, 110]⟩, .int .i64 1, 0⟩, ⟨.string ⟨#[116, 117, 101]⟩, .int .i64 2, 1⟩, ⟨.string ⟨#[119, 101, 100]⟩, .int .i64 4, 2⟩, ⟨.string ⟨#[116, 104, 117]⟩, .int .i64 8, 3⟩] 4)
  have i5 := ins_new m4 ⟨#[102, 114, 105]⟩ (.int .i64 16) (by rfl)
  have m5 := putB_same (o' := .map #[⟨.string ⟨#[109, 111, 110]⟩, .int .i64 1, 0⟩, ⟨.string ⟨#[116, 117, 101]⟩, .int .i64 2, 1⟩, ⟨.string ⟨#[119, 101, 100]⟩, .int .i64 4, 2⟩, ⟨.string ⟨#[116, 104, 117]⟩, .int .i64 8, 3⟩, ⟨.string ⟨#[102, 114, 105]⟩, .int .i64 16, 4⟩] 5) m4
  have b5 := putB_below b4 (Nat.le_refl _) (.map #[⟨.string ⟨#[109, 111, 110]⟩, .int .i64 1, 0⟩, ⟨.string ⟨#[116, 117, 101]⟩, .int .i64 2, 1⟩, ⟨.string ⟨#[119, 101, 100]⟩, .int .i64 4, 2⟩, ⟨.string ⟨#[116, 104, 117]⟩, .int .i64 8, 3⟩, ⟨.string ⟨#[102, 114, 105]⟩, .int .i64 16, 4⟩] 5)
  have i6 := ins_new m5 ⟨#[115, 97, 116]⟩ (.int .i64 32) (by rfl)
  have m6 := putB_same (o' := .map #[⟨.string ⟨#[109, 111, 110]⟩, .int .i64 1, 0⟩, ⟨.string ⟨#[116, 117, 101]⟩, .int .i64 2, 1⟩, ⟨.string ⟨#[119, 101, 100]⟩, .int .i64 4, 2⟩, ⟨.string ⟨#[116, 104, 117]⟩, .int .i64 8, 3⟩, ⟨.string ⟨#[102, 114, 105]⟩, .int .i64 16, 4⟩, ⟨.string ⟨#[115, 97, 116]⟩, .int .i64 32, 5⟩] 6) m5
  have b6 := putB_below b5 (Nat.le_refl _) (.map #[⟨.string ⟨#[109, 111, 110]⟩, .int .i64 1, 0⟩, ⟨.string ⟨#[116, 117, 101]⟩, .int .i64 2, 1⟩, ⟨.string ⟨#[119, 101, 100]⟩, .int .i64 4, 2⟩, ⟨.string ⟨#[116, 104, 117]⟩, .int .i64 8, 3⟩, ⟨.string ⟨#[102, 114, 105]⟩, .int .i64 16, 4⟩, ⟨.string ⟨#[115, 97, 116]⟩, .int .i64 32, 5⟩] 6)
  have i7 := ins_new m6 ⟨#[115, 117, 110]⟩ (.int .i64 64) (by rfl)
  have m7 := putB_same (o' := .map #[⟨.string ⟨#[109, 111, 110]⟩, .int .i64 1, 0⟩, ⟨.string ⟨#[116, 117, 101]⟩, .int .i64 2, 1⟩, ⟨.string ⟨#[119, 101, 100]⟩, .int .i64 4, 2⟩, ⟨.string ⟨#[116, 104, 117]⟩, .int .i64 8, 3⟩, ⟨.string ⟨#[102, 114, 105]⟩, .int .i64 16, 4⟩, ⟨.string ⟨#[115, 97, 116]⟩, .int .i64 32, 5⟩, ⟨.string ⟨#[115, 117, 110]⟩, .int .i64 64, 6⟩] 7) m6
  have b7 := putB_below b6 (Nat.le_refl _) (.map #[⟨.string ⟨#[109, 111, 110]⟩, .int .i64 1, 0⟩, ⟨.string ⟨#[116, 117, 101]⟩, .int .i64 2, 1⟩, ⟨.string ⟨#[119, 101, 100]⟩, .int .i64 4, 2⟩, ⟨.string ⟨#[116, 104, 117]⟩, .int .i64 8, 3⟩, ⟨.string ⟨#[102, 114, 105]⟩, .int .i64 16, 4⟩, ⟨.string ⟨#[115, 97, 116]⟩, .int .i64 32, 5⟩, ⟨.string ⟨#[115, 117, 110]⟩, .int .i64 64, 6⟩] 7)
  exact ⟨_, _, _, _, _, _, _, i1, i2, i3, i4, i5, i6, i7, m7, b7⟩
end Go.Proofs.Ytgjggpgkcbekoad
