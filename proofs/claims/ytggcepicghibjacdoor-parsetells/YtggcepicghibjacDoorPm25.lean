/- A map that is written out, and what is looked up in it. -/
import Derived.Test.YtggcepicghibjacDoorPm19
import Derived.MapKept
import Derived.Carry
import Derived.Test.YtggcepicghibjacDoorPm24
namespace Go.Proofs.YtggcepicghibjacDoor
open Go.RowKit Lx
variable {w : World} {r : Nat} {es : Array MapEntry} {c : Nat}

theorem mapT : Tryd.prog.underlying 116 = some (.map 9 3) := by kernel_rfl
theorem strT : Tryd.prog.underlying 9 = some .string := by kernel_rfl
/-- A block is put anew. -/
def putB (w : World) (b : Nat) (o : Obj) : World := { w with heap := w.heap.setIfInBounds b o }
theorem putB_same {o o' : Obj} (hb : w.heap[r]? = some o) : (putB w r o').heap[r]? = some o' := (MapKept.heap_set hb).1
theorem ins_new (hb : w.heap[r]? = some (.map es c)) (k : ByteArray) (x : Value) (hn : Instr.findNow .string (.string k) es.toList 0 = some none) :
    (Instr.mapUpdate 116 (.map (some r)) (.string k) x).run Tryd.prog w = .ok () (putB w r (.map (es.push ⟨.string k, x, c⟩) (c + 1))) := by
  have hc : (Instr.checkKey false 10000 9 (.string k)).run Tryd.prog w = .ok () w := MapKept.run_checkKey (k := .string k) strT (by simp [MapKept.IsKey]) false 9999
  simp [Instr.mapUpdate, run_underlying mapT, MapKept.run_getObj_map hb, hc, MapKept.run_findKey strT hn, MapKept.run_setObj_map _ hb, Result.andThen, putB]
/-- The days' map, as it stands when all are put. -/
def dayM : Array MapEntry := #[⟨.string ⟨#[109, 111, 110]⟩, .int .i64 1, 0⟩, ⟨.string ⟨#[116, 117, 101]⟩, .int .i64 2, 1⟩, ⟨.string ⟨#[119, 101, 100]⟩, .int .i64 4, 2⟩, ⟨.string ⟨#[116, 104, 117]⟩, .int .i64 8, 3⟩, ⟨.string ⟨#[102, 114, 105]⟩, .int .i64 16, 4⟩, ⟨.string ⟨#[115, 97, 116]⟩, .int .i64 32, 5⟩, ⟨.string ⟨#[115, 117, 110]⟩, .int .i64 64, 6⟩]
theorem day_find (x : List UInt8) : ∃ a, Instr.findNow .string (.string ⟨x.toArray⟩) dayM.toList 0 = some a ∧ (match a with | some (_, u) => u = .int .i64 (dayBit x : Int) | none => dayBit x = 0) := by
  have e : ∀ y : List UInt8, ((⟨x.toArray⟩ : ByteArray) == ⟨y.toArray⟩) = (x == y) := fun y => by
    show (x.toArray == y.toArray) = (x == y)
    simp
  have e0 := e [109, 111, 110]
  have e1 := e [116, 117, 101]
  have e2 := e [119, 101, 100]
  have e3 := e [116, 104, 117]
  have e4 := e [102, 114, 105]
  have e5 := e [115, 97, 116]
  have e6 := e [115, 117, 110]
  unfold dayM dayBit
  simp only [Instr.findNow, Instr.sameNow, e0, e1, e2, e3, e4, e5, e6]
  by_cases c0 : x = [109, 111, 110]
  · subst c0
    exact ⟨_, rfl, rfl⟩
  by_cases c1 : x = [116, 117, 101]
  · subst c1
    exact ⟨_, rfl, rfl⟩
  by_cases c2 : x = [119, 101, 100]
  · subst c2
    exact ⟨_, rfl, rfl⟩
  by_cases c3 : x = [116, 104, 117]
  · subst c3
    exact ⟨_, rfl, rfl⟩
  by_cases c4 : x = [102, 114, 105]
  · subst c4
    exact ⟨_, rfl, rfl⟩
  by_cases c5 : x = [115, 97, 116]
  · subst c5
    exact ⟨_, rfl, rfl⟩
  by_cases c6 : x = [115, 117, 110]
  · subst c6
    exact ⟨_, rfl, rfl⟩
  refine ⟨none, ?_, ?_⟩
  · simp only [beq_eq_false_iff_ne.2 c0, beq_eq_false_iff_ne.2 c1, beq_eq_false_iff_ne.2 c2, beq_eq_false_iff_ne.2 c3, beq_eq_false_iff_ne.2 c4, beq_eq_false_iff_ne.2 c5, beq_eq_false_iff_ne.2 c6]
  · show (if x = [109, 111, 110] then 1 else if x = [116, 117, 101] then 2 else if x = [119, 101, 100] then 4 else if x = [116, 104, 117] then 8 else if x = [102, 114, 105] then 16 else if x = [115, 97, 116] then 32 else if x = [115, 117, 110] then 64 else 0) = 0
    rw [if_neg c0, if_neg c1, if_neg c2, if_neg c3, if_neg c4, if_neg c5, if_neg c6]
theorem day_look (hb : w.heap[r]? = some (.map dayM 7)) (x : List UInt8) :
    (Instr.lookup 116 (.map (some r)) (.string ⟨x.toArray⟩) false).run Tryd.prog w = .ok (.int .i64 (dayBit x : Int)) w := by
  have hc : (Instr.checkKey false 10000 9 (.string ⟨x.toArray⟩)).run Tryd.prog w = .ok () w := MapKept.run_checkKey (k := .string _) strT (by simp [MapKept.IsKey]) false 9999
  obtain ⟨a, h1, h2⟩ := day_find x
  have hz : (zeroValue 3).run Tryd.prog w = .ok (.int .i64 0) w := by kernel_rfl
  have hem : dayM.isEmpty = false := by rfl
  cases a with
  | none =>
    simp [Instr.lookup, run_underlying mapT, MapKept.run_getObj_map hb, hem, hc, MapKept.run_findKey strT h1, hz, Result.andThen, show dayBit x = 0 from h2]
  | some q =>
    obtain ⟨j, u⟩ := q
    have : u = .int .i64 (dayBit x : Int) := h2
    simp [Instr.lookup, run_underlying mapT, MapKept.run_getObj_map hb, hem, hc, MapKept.run_findKey strT h1, Result.andThen, this]
theorem putB_below {r n : Nat} {w0 : World} (h : Below n w0 w) (hr : n ≤ r) (o : Obj) : Below n w0 (putB w r o) :=
  ⟨h.os, h.tape, h.output, by simpa [putB] using h.size, fun k hk => by
    rw [← h.block k hk]
    show (w.heap.setIfInBounds r o)[k]? = _
    rw [Array.getElem?_setIfInBounds_ne (by omega)]⟩
/-- The days' map is made. -/
theorem days_all (w : World) : ∃ W1 W2 W3 W4 W5 W6 W7 : World,
    (Instr.mapUpdate 116 (.map (some w.heap.size)) (.string ⟨#[109, 111, 110]⟩) (.int .i64 1)).run Tryd.prog (w.alloc (.map #[] 0)) = .ok () W1 ∧
    (Instr.mapUpdate 116 (.map (some w.heap.size)) (.string ⟨#[116, 117, 101]⟩) (.int .i64 2)).run Tryd.prog W1 = .ok () W2 ∧
    (Instr.mapUpdate 116 (.map (some w.heap.size)) (.string ⟨#[119, 101, 100]⟩) (.int .i64 4)).run Tryd.prog W2 = .ok () W3 ∧
    (Instr.mapUpdate 116 (.map (some w.heap.size)) (.string ⟨#[116, 104, 117]⟩) (.int .i64 8)).run Tryd.prog W3 = .ok () W4 ∧
    (Instr.mapUpdate 116 (.map (some w.heap.size)) (.string ⟨#[102, 114, 105]⟩) (.int .i64 16)).run Tryd.prog W4 = .ok () W5 ∧
    (Instr.mapUpdate 116 (.map (some w.heap.size)) (.string ⟨#[115, 97, 116]⟩) (.int .i64 32)).run Tryd.prog W5 = .ok () W6 ∧
    (Instr.mapUpdate 116 (.map (some w.heap.size)) (.string ⟨#[115, 117, 110]⟩) (.int .i64 64)).run Tryd.prog W6 = .ok () W7 ∧
    W7.heap[w.heap.size]? = some (.map dayM 7) ∧ Below w.heap.size w W7 := by
  have m0 := heap_alloc_new w (.map #[] 0)
  have b0 := (Below.refl w.heap.size w).alloc (Nat.le_refl _) (.map #[] 0)
  have i1 := ins_new m0 ⟨#[109, 111, 110]⟩ (.int .i64 1) (by rfl)
  have m1 := putB_same (o' := .map #[⟨.string ⟨#[109, 111, 110]⟩, .int .i64 1, 0⟩] 1) m0
  have b1 := putB_below b0 (Nat.le_refl _) (.map #[⟨.string ⟨#[109, 111, 110]⟩, .int .i64 1, 0⟩] 1)
  have i2 := ins_new m1 ⟨#[116, 117, 101]⟩ (.int .i64 2) (by rfl)
  have m2 := putB_same (o' := .map #[⟨.string ⟨#[109, 111, 110]⟩, .int .i64 1, 0⟩, ⟨.string ⟨#[116, 117, 101]⟩, .int .i64 2, 1⟩] 2) m1
  have b2 := putB_below b1 (Nat.le_refl _) (.map #[⟨.string ⟨#[109, 111, 110]⟩, .int .i64 1, 0⟩, ⟨.string ⟨#[116, 117, 101]⟩, .int .i64 2, 1⟩] 2)
  have i3 := ins_new m2 ⟨#[119, 101, 100]⟩ (.int .i64 4) (by rfl)
  have m3 := putB_same (o' := .map #[⟨.string ⟨#[109, 111, 110]⟩, .int .i64 1, 0⟩, ⟨.string ⟨#[116, 117, 101]⟩, .int .i64 2, 1⟩, ⟨.string ⟨#[119, 101, 100]⟩, .int .i64 4, 2⟩] 3) m2
  have b3 := putB_below b2 (Nat.le_refl _) (.map #[⟨.string ⟨#[109, 111, 110]⟩, .int .i64 1, 0⟩, ⟨.string ⟨#[116, 117, 101]⟩, .int .i64 2, 1⟩, ⟨.string ⟨#[119, 101, 100]⟩, .int .i64 4, 2⟩] 3)
  have i4 := ins_new m3 ⟨#[116, 104, 117]⟩ (.int .i64 8) (by rfl)
  have m4 := putB_same (o' := .map #[⟨.string ⟨#[109, 111, 110]⟩, .int .i64 1, 0⟩, ⟨.string ⟨#[116, 117, 101]⟩, .int .i64 2, 1⟩, ⟨.string ⟨#[119, 101, 100]⟩, .int .i64 4, 2⟩, ⟨.string ⟨#[116, 104, 117]⟩, .int .i64 8, 3⟩] 4) m3
  have b4 := putB_below b3 (Nat.le_refl _) (.map #[⟨.string ⟨#[109, 111, 110]⟩, .int .i64 1, 0⟩, ⟨.string ⟨#[116, 117, 101]⟩, .int .i64 2, 1⟩, ⟨.string ⟨#[119, 101, 100]⟩, .int .i64 4, 2⟩, ⟨.string ⟨#[116, 104, 117]⟩, .int .i64 8, 3⟩] 4)
  have i5 := ins_new m4 ⟨#[102, 114, 105]⟩ (.int .i64 16) (by rfl)
  have m5 := putB_same (o' := .map #[⟨.string ⟨#[109, 111, 110]⟩, .int .i64 1, 0⟩, ⟨.string ⟨#[116, 117, 101]⟩, .int .i64 2, 1⟩, ⟨.string ⟨#[119, 101, 100]⟩, .int .i64 4, 2⟩, ⟨.string ⟨#[116, 104, 117]⟩, .int .i64 8, 3⟩, ⟨.string ⟨#[102, 114, 105]⟩, .int .i64 16, 4⟩] 5) m4
  have b5 := putB_below b4 (Nat.le_refl _) (.map #[⟨.string ⟨#[109, 111, 110]⟩, .int .i64 1, 0⟩, ⟨.string ⟨#[116, 117, 101]⟩, .int .i64 2, 1⟩, ⟨.string ⟨#[119, 101, 100]⟩, .int .i64 4, 2⟩, ⟨.string ⟨#[116, 104, 117]⟩, .int .i64 8, 3⟩, ⟨.string ⟨#[102, 114, 105]⟩, .int .i64 16, 4⟩] 5)
  have i6 := ins_new m5 ⟨#[115, 97, 116]⟩ (.int .i64 32) (by rfl)
  have m6 := putB_same (o' := .map #[⟨.string ⟨#[109, 111, 110]⟩, .int .i64 1, 0⟩, ⟨.string ⟨#[116, 117, 101]⟩, .int .i64 2, 1⟩, ⟨.string ⟨#[119, 101, 100]⟩, .int .i64 4, 2⟩, ⟨.string ⟨#[116, 104, 117]⟩, .int .i64 8, 3⟩, ⟨.string ⟨#[102, 114, 105]⟩, .int .i64 16, 4⟩, ⟨.string ⟨#[115, 97, 116]⟩, .int .i64 32, 5⟩] 6) m5
  have b6 := putB_below b5 (Nat.le_refl _) (.map #[⟨.string ⟨#[109, 111, 110]⟩, .int .i64 1, 0⟩, ⟨.string ⟨#[116, 117, 101]⟩, .int .i64 2, 1⟩, ⟨.string ⟨#[119, 101, 100]⟩, .int .i64 4, 2⟩, ⟨.string ⟨#[116, 104, 117]⟩, .int .i64 8, 3⟩, ⟨.string ⟨#[102, 114, 105]⟩, .int .i64 16, 4⟩, ⟨.string ⟨#[115, 97, 116]⟩, .int .i64 32, 5⟩] 6)
  have i7 := ins_new m6 ⟨#[115, 117, 110]⟩ (.int .i64 64) (by rfl)
  have m7 := putB_same (o' := .map #[⟨.string ⟨#[109, 111, 110]⟩, .int .i64 1, 0⟩, ⟨.string ⟨#[116, 117, 101]⟩, .int .i64 2, 1⟩, ⟨.string ⟨#[119, 101, 100]⟩, .int .i64 4, 2⟩, ⟨.string ⟨#[116, 104, 117]⟩, .int .i64 8, 3⟩, ⟨.string ⟨#[102, 114, 105]⟩, .int .i64 16, 4⟩, ⟨.string ⟨#[115, 97, 116]⟩, .int .i64 32, 5⟩, ⟨.string ⟨#[115, 117, 110]⟩, .int .i64 64, 6⟩] 7) m6
  have b7 := putB_below b6 (Nat.le_refl _) (.map #[⟨.string ⟨#[109, 111, 110]⟩, .int .i64 1, 0⟩, ⟨.string ⟨#[116, 117, 101]⟩, .int .i64 2, 1⟩, ⟨.string ⟨#[119, 101, 100]⟩, .int .i64 4, 2⟩, ⟨.string ⟨#[116, 104, 117]⟩, .int .i64 8, 3⟩, ⟨.string ⟨#[102, 114, 105]⟩, .int .i64 16, 4⟩, ⟨.string ⟨#[115, 97, 116]⟩, .int .i64 32, 5⟩, ⟨.string ⟨#[115, 117, 110]⟩, .int .i64 64, 6⟩] 7)
  exact ⟨_, _, _, _, _, _, _, i1, i2, i3, i4, i5, i6, i7, m7, b7⟩
end Go.Proofs.YtggcepicghibjacDoor

/- What the document's Thing comes to: weekly. -/
namespace Go.Proofs.YtggcepicghibjacDoor
open Go.RowKit Lx
variable {all : List Tk} {E g : Nat} {v : Value} {w : World} {i n : Nat} {er at_ : Int}

/-- A day's text is a word's. -/
theorem day_kind (h0 : WS0 all E g v) (i : Nat) (hk : kindP (all.drop i) ≠ 2) : dayBit (textP (all.drop i)) = 0 := by
  have h := (head_ok h0 i).2
  have : ∀ x : List UInt8, dayBit x ≠ 0 → x ∈ wordsL := by
    intro x hx
    unfold dayBit at hx
    repeat' split at hx
    all_goals first | (rename_i e; rw [e]; decide) | exact absurd rfl hx | skip
    all_goals (exact absurd rfl hx)
  exact Decidable.byContradiction fun e => hk (h (this _ e))
set_option maxRecDepth 100000 in
set_option maxHeartbeats 8000000 in
theorem rthing_weekly (h0 : WS0 all E g v) (h : WSt all E g v w i n 0 0) (hn6 : n ≤ 600) (d : Nat) (hd : d ≤ 40) (ho : isT wOpen (all.drop i) = false) (hk2 : kindP (all.drop i) = 2) (hw0 : isT wNever (all.drop i) = false) (hw1 : isT wAlways (all.drop i) = false) (hw2 : isT wWeekly (all.drop i) = true) (hF : ∀ j, i < j → RW all E g v 54 4 j) :
    Calls Tryd.prog 81 #[.pointer (some ⟨g, 0, none⟩), .int .i64 (d : Int)] w (OutW all E g v w (fun k => w.heap.size ≤ k) (rd E 7 d ex0 (all.drop (i + 1)) n)) := by
  have hgl := lt_of_block h.blk
  have hlen := h0.len
  have hdI : ¬ (40 : Int) < (d : Int) := by omega
  have hb0 : Below w.heap.size w (w.alloc (.cells #[.int .i64 0, .int .i64 0, .int .i64 0, .string ⟨#[]⟩, .slice none 0 0] 60)) := (Below.refl _ _).alloc (Nat.le_refl _) _
  have hz := zero_new w
  have hA := h.below hb0 h0
  have hkA := Kept.of_below (g := g) hb0
  have hszA : (w.alloc (.cells #[.int .i64 0, .int .i64 0, .int .i64 0, .string ⟨#[]⟩, .slice none 0 0] 60)).heap.size = w.heap.size + 1 := by simp
  generalize hwA : w.alloc (.cells #[.int .i64 0, .int .i64 0, .int .i64 0, .string ⟨#[]⟩, .slice none 0 0] 60) = wA at *
  have cg := good_any hA
  have cn := next_any h0 hA
  have co := fun (w1 : World) (h1 : WSt all E g v w1 i n 0 0) => on_any h0 h1 3 wOpen
  simp only [on_sign h0 (x := wOpen) (by decide) i] at co
  unfold tokV at cn
  rw [ho] at co
  have hi1 := kind_len (all := all) (i := i) (by rw [hk2]; decide)
  rw [hk2] at cn
  have f2 : ((2 : Int) == 2) = true := by rfl
  have e0 : ((⟨(textP (all.drop i)).toArray⟩ : ByteArray).toList == [110, 101, 118, 101, 114]) = false := by rw [Lib.toList_data]; exact hw0
  have e1 : ((⟨(textP (all.drop i)).toArray⟩ : ByteArray).toList == [97, 108, 119, 97, 121, 115]) = false := by rw [Lib.toList_data]; exact hw1
  have e2 : ((⟨(textP (all.drop i)).toArray⟩ : ByteArray).toList == [119, 101, 101, 107, 108, 121]) = true := by rw [Lib.toList_data]; exact hw2
  generalize hX : rd E 7 d ex0 (all.drop (i + 1)) n = X
  have HX0 : Hid (rd E 7 d ex0 (all.drop (i + 1)) n = X) := hX
  clear hw0 hw1 hw2 ho hk2 hX
  generalize hnq : numP (all.drop i) = t1 at *
  generalize (atP E (all.drop i) : Int) = t2 at *
  generalize htq : (⟨(textP (all.drop i)).toArray⟩ : ByteArray) = t3 at *
  clear hnq htq
  go_enter Tryd.func81, Tryd.ntmps81
  go_wp2_with fail
  refine cg.mono ?_
  rintro e wg ⟨rfl, hwg⟩
  subst wg
  clear cg hwA
  go_wp2_with fail
  refine cn.mono ?_
  rintro e w1 ⟨rfl, hb1⟩
  have h1 := hA.below hb1 h0
  have hz1 := (hb1.block _ (lt_of_block hz)).trans hz
  have hb2 : Below w1.heap.size w1 (w1.alloc (.cells #[.int .i64 2, .int .i64 t1, .int .i64 t2, .string t3] 30)) := (Below.refl _ _).alloc (Nat.le_refl _) _
  have hx2 := heap_alloc_new w1 (.cells #[.int .i64 2, .int .i64 t1, .int .i64 t2, .string t3] 30)
  have h2 := h1.below hb2 h0
  have hz2 := (hb2.block _ (lt_of_block hz1)).trans hz1
  have hk2 := (hkA.trans (Kept.of_below hb1)).trans (Kept.of_below hb2)
  have hs2 := lt_of_block hx2
  have hsw1 := hb1.size
  have kd0 : (w1.alloc (.cells #[.int .i64 2, .int .i64 t1, .int .i64 t2, .string t3] 30)).cell? ⟨w1.heap.size, 0, none⟩ = some (.int .i64 2) := (cell_of_row _ _ 0 _ _ _ hx2).trans rfl
  have kd3 : (w1.alloc (.cells #[.int .i64 2, .int .i64 t1, .int .i64 t2, .string t3] 30)).cell? ⟨w1.heap.size, 3, none⟩ = some (.string t3) := (cell_of_row _ _ 3 _ _ _ hx2).trans rfl
  clear cn h1 hz1 hb1 hb2 hA hz hkA hb0
  generalize hw2 : w1.alloc (.cells #[.int .i64 2, .int .i64 t1, .int .i64 t2, .string t3] 30) = w2 at *
  go_wp2_with fail
  refine (co _ h2).mono ?_
  rintro e w3 ⟨rfl, hb3⟩
  have h3 := h2.below hb3 h0
  have hx3 := (hb3.block _ (lt_of_block hx2)).trans hx2
  have hz3 := (hb3.block _ (lt_of_block hz2)).trans hz2
  have hk3 := hk2.trans (Kept.of_below hb3)
  have hs3 := lt_of_block hx3
  have kt0 := (cell_of_row _ _ 0 _ _ _ hx3).trans rfl
  have kt3 := (cell_of_row _ _ 3 _ _ _ hx3).trans rfl
  clear co h2 hz2 hk2 hb3 hw2 kd0 kd3 hx2 hs2
  have k1 := (cell_of_row _ _ 1 _ _ _ h3.blk).trans rfl
  have y1 := frozen_of_row _ _ 1 _ _ h3.blk
  have h4 := h3.set h0 hi1
  have hk34 := Kept.set (w := w3) (g := g) (j := 1) (u := .int .i64 ((i + 1 : Nat) : Int))
  have hz4 := hk34.at hz3 (by omega)
  have hx4 := hk34.at hx3 (by omega)
  have kt4 := (cell_of_row _ _ 3 _ _ _ hx4).trans rfl
  have hk4 := hk3.trans hk34
  have ei : (i : Int) + 1 = ((i + 1 : Nat) : Int) := by omega
  have hi6 : (i : Int) ≤ 6000 := by omega
  clear h3 hz3 hk3 hx3 hk34 kt0 kt3 hx4 kt4
  have hX1 : Hid (rd E 7 d ⟨0, ((0 : Nat) : Int), 0, [], []⟩ (all.drop (i + 1)) n = X) := HX0.out
  clear HX0
  generalize hvv : ((i + 1 : Nat) : Int) = vv at *
  generalize hw4 : w3.setCell ⟨g, 1, none⟩ (.int .i64 vv) = w4 at *
  clear hvv
  go_wp2_with fail
  clear hw4
  go_loopw [8] (fun q wr => ∃ (a j : Nat), q = .int .i64 (a : Int) ∧ a < 128 ∧ i < j ∧ WSt all E g v wr j n 0 0 ∧ Kept g w wr ∧ wr.heap[w.heap.size]? = some (.cells ex0C 60 (0, 0)) ∧ rd E 7 d ⟨0, (a : Int), 0, [], []⟩ (all.drop j) n = X) (fun _ wr => mzOf all.length g wr)
  case atStart => exact ⟨0, i + 1, rfl, by omega, by omega, h4, hk4, hz4, hX1.out⟩
  case round =>
    obtain ⟨a, j, rfl, ha, hij, hst, hkp, hzr, hXr⟩ := hrel
    clear h4 hk4 hz4 hX1
    have hmz := hst.mz_ok all.length
    have cg := good_any hst
    have cG := get_any h0 hst 2 (by decide)
    have hkl : kindP (all.drop j) = 2 → j + 1 ≤ all.length := fun e => kind_len (by rw [e]; decide)
    have hdk := day_kind h0 j
    have hbl := day_lt (textP (all.drop j))
    rw [rd_7, tail_drop] at hXr
    unfold failP at hXr
    have hta : ((a : Int)).toNat = a := by omega
    dsimp only at hXr
    rw [hta] at hXr
    have HX : Hid (_ = X) := hXr
    unfold tokV at cG
    clear hXr hta
    generalize kindP (all.drop j) = u0 at *
    generalize numP (all.drop j) = u1 at *
    generalize atP E (all.drop j) = at2 at *
    generalize hu2 : (at2 : Int) = u2 at *
    generalize textP (all.drop j) = TX at *
    go_wp2_with fail
    refine cg.mono ?_
    rintro e wg ⟨rfl, hwg⟩
    subst wg
    go_wp2_with fail
    refine cG.mono ?_
    rintro e w5 ⟨rfl, hkG, hG1, hG2, hG3⟩
    have hsG := hkG.size
    have hl4 := lt_of_block hzr
    have hb6 : Below w5.heap.size w5 (w5.alloc (.cells #[.int .i64 u0, .int .i64 u1, .int .i64 u2, .string ⟨TX.toArray⟩] 30)) := (Below.refl _ _).alloc (Nat.le_refl _) _
    have hx6 := heap_alloc_new w5 (.cells #[.int .i64 u0, .int .i64 u1, .int .i64 u2, .string ⟨TX.toArray⟩] 30)
    have hz6 := (hkG.trans (Kept.of_below hb6)).at hzr (by omega)
    have hk6 := (hkp.trans hkG).trans (Kept.of_below hb6)
    clear cG cg hst hkp hzr
    by_cases hk2 : u0 = 2
    · have h5 := hG3 (by trivial) hk2
      have h6 := h5.below hb6 h0
      have hj1 := hkl hk2
      clear hG1 hG2 hG3 hb6 h5 hk2 hkl hdk hkG
      generalize hw6 : w5.alloc (.cells #[.int .i64 u0, .int .i64 u1, .int .i64 u2, .string ⟨TX.toArray⟩] 30) = w6 at *
      have i0 : (Instr.makeMap 116 none).run Tryd.prog w6 = .ok (.map (some w6.heap.size)) (w6.alloc (.map #[] 0)) := rfl
      obtain ⟨W1, W2, W3, W4, W5, W6, W7, i1, i2, i3, i4, i5, i6, i7, hm7, hb7⟩ := days_all w6
      have h7 := h6.below hb7 h0
      have hx7 := (hb7.block _ (lt_of_block hx6)).trans hx6
      have hz7 := (hb7.block _ (lt_of_block hz6)).trans hz6
      have hk7 := hk6.trans (Kept.of_below hb7)
      have kt7 := (cell_of_row _ _ 3 _ _ _ hx7).trans rfl
      have ku7 := (cell_of_row _ _ 2 _ _ _ hx7).trans rfl
      have hlk := day_look hm7 TX
      have hs7 := hb7.size
      have cg := good_any h7
      by_cases hd0 : dayBit TX = 0
      · have hXX := HX.out
        rw [if_pos hd0] at hXX
        clear HX
        have HX : Hid (.error (2, at2) = X) := hXX
        have cst := stop_good h0 h7 2 u2
        rw [hd0] at hlk
        have hor : bits BinOp.or IntKind.i64 (a : Int) 0 = (a : Int) := by have := or_eq ha (show 0 < 128 by decide); simpa using this
        clear hXX hd0 hbl hm7 hb7
        go_wp2_with fail
        refine cg.mono ?_
        rintro e wg ⟨rfl, hwg⟩
        subst wg
        clear cg i0 i1 i2 i3 i4 i5 i6 i7 hw6 hlk
        go_wp2_with fail
        refine cst.mono ?_
        rintro e w8' ⟨rfl, h8', hk8s⟩
        have hz8' := hk8s.at hz7 (by omega)
        have hk8' := hk7.trans hk8s
        have cC := on_any h0 h8' 3 wComma
        rw [show onB all (j + 1) 2 3 wComma = false by rfl] at cC
        clear cst
        go_wp2_with fail
        refine cC.mono ?_
        rintro e w9 ⟨rfl, hb9⟩
        have h9 := h8'.below hb9 h0
        have hz9 := (hb9.block _ (lt_of_block hz8')).trans hz8'
        have hk9 := hk8'.trans (Kept.of_below hb9)
        clear cC
        have cX := guard_bad h0 h9 (by decide) d hd 4 a 0
        go_wp2_with fail
        refine cX.mono ?_
        rintro e w8 ⟨⟨a, b, c, x, p, q, r, rfl⟩, h8, hk8⟩
        have hz8 := hk8.at hz9 (by omega)
        have hkw8 := (hk9).trans hk8
        have HF := fun cs => h.row_set h0 h8 hkw8 (Nat.le_refl _) cs
        have hkF := fun cs => hkw8.setRow (Nat.le_refl _) cs
        clear cX
        go_wp2_with (refine wpList_store_row rfl 60 _ _ rfl _ _ rfl rfl _ _ hz8 (by kernel_rfl) (by rfl) (by simp [Value.oneCell']) ?_)
        exact ex_ret 4 (by kernel_rfl) w.heap.size _ _ _ _ _ rfl rfl (setRow_heap _ _ _ _ _ _ hz8) (by rw [← HX.out]; exact ⟨by decide, ⟨_, _, _, _, _, _, _, rfl⟩, ⟨_, _, hu2 ▸ HF _⟩, hkF _⟩)
      · have hXX := HX.out
        rw [if_neg hd0] at hXX
        have hb0 : ((dayBit TX : Nat) : Int) ≠ 0 := by omega
        have hb0' : (((dayBit TX : Nat) : Int) == 0) = false := by simpa using hb0
        have HXX : Hid (_ = X) := hXX
        clear HX hXX hd0 hb0 hm7 hb7
        generalize dayBit TX = b at *
        have hor := or_eq ha hbl
        have holt := or_lt ha hbl
        have cC := on_any h0 h7 3 wComma
        rw [on_sign h0 (x := wComma) (by decide) (j + 1)] at cC
        by_cases hc : isT wComma (all.drop (j + 1)) = true
        · have hj2 := isT_len (by decide) hc
          have hXX := HXX.out
          rw [if_pos hc, tail_drop] at hXX
          rw [hc] at cC
          have HX : Hid (rd E 7 d ⟨0, ((a ||| b : Nat) : Int), 0, [], []⟩ (all.drop (j + 1 + 1)) n = X) := hXX
          clear HXX hXX hc
          generalize a ||| b = ab at *
          go_wp2_with fail
          refine cg.mono ?_
          rintro e wg ⟨rfl, hwg⟩
          subst wg
          clear cg i0 i1 i2 i3 i4 i5 i6 i7 hw6 hlk
          go_wp2_with fail
          refine cC.mono ?_
          rintro e w9 ⟨rfl, hb9⟩
          have h9 := h7.below hb9 h0
          have k9 := (cell_of_row _ _ 1 _ _ _ h9.blk).trans rfl
          have y9 := frozen_of_row _ _ 1 _ _ h9.blk
          have h10 := h9.set h0 hj2
          have hk910 := (Kept.of_below (g := g) hb9).trans (Kept.set w9 g 1 (.int .i64 ((j + 1 + 1 : Nat) : Int)))
          have hz10 := hk910.at hz7 (by omega)
          have hk10 := hk7.trans hk910
          have ei2 : ((j + 1 : Nat) : Int) + 1 = ((j + 1 + 1 : Nat) : Int) := by omega
          have hj62 : ((j + 1 : Nat) : Int) ≤ 6000 := by omega
          have hj60 : (0 : Int) ≤ ((j + 1 : Nat) : Int) := by omega
          clear cC
          generalize ((j + 1 + 1 : Nat) : Int) = vv2 at *
          generalize ((j + 1 : Nat) : Int) = vv1 at *
          go_wp2_with fail
          go_roundw
          case rel => exact ⟨ab, j + 1 + 1, rfl, holt, by omega, h10, hk10, hz10, HX.out⟩
          case measure =>
            show mzOf _ _ _ < _
            rw [hmz, h10.mz_ok]
            omega
        · have hc' : isT wComma (all.drop (j + 1)) = false := by simpa using hc
          have hXX := HXX.out
          rw [if_neg hc] at hXX
          rw [hc'] at cC
          have HX : Hid (rd E 8 d ⟨4, ((a ||| b : Nat) : Int), 0, [], []⟩ (all.drop (j + 1)) n = X) := hXX
          clear HXX hXX hc hc'
          generalize a ||| b = ab at *
          go_wp2_with fail
          refine cg.mono ?_
          rintro e wg ⟨rfl, hwg⟩
          subst wg
          clear cg i0 i1 i2 i3 i4 i5 i6 i7 hw6 hlk
          go_wp2_with fail
          refine cC.mono ?_
          rintro e w9 ⟨rfl, hb9⟩
          have h9 := h7.below hb9 h0
          have hz9 := (hb9.block _ (lt_of_block hz7)).trans hz7
          have hk9 := hk7.trans (Kept.of_below hb9)
          clear cC
          have cX := guard_any h0 h9 hn6 d hd 4 ab 0 (hF _ (by omega))
          go_wp2_with fail
          refine cX.mono ?_
          intro e w8 ho
          have hlz8 := lt_of_block hz9
          obtain ⟨a, b, c, x, p, q, r, rfl, hz8, HO⟩ := outW_split h h0 (hk9) hz9 (Nat.le_refl _) (fun k hk => ⟨by omega, by omega⟩) ho
          clear ho cX
          go_wp2_with (refine wpList_store_row rfl 60 _ _ rfl _ _ rfl rfl _ _ hz8 (by kernel_rfl) (by rfl) (by simp [Value.oneCell']) ?_)
          exact ex_ret 4 (by kernel_rfl) w.heap.size _ _ _ _ _ rfl rfl (setRow_heap _ _ _ _ _ _ hz8) (by rw [← HX.out]; exact HO _)
    · have h5 := hG2 (by trivial) hk2
      have h6 := h5.below hb6 h0
      have hd0 := hdk hk2
      clear hG1 hG2 hG3 hb6 h5 hk2 hkl hdk hkG
      generalize hw6 : w5.alloc (.cells #[.int .i64 u0, .int .i64 u1, .int .i64 u2, .string ⟨TX.toArray⟩] 30) = w6 at *
      have i0 : (Instr.makeMap 116 none).run Tryd.prog w6 = .ok (.map (some w6.heap.size)) (w6.alloc (.map #[] 0)) := rfl
      obtain ⟨W1, W2, W3, W4, W5, W6, W7, i1, i2, i3, i4, i5, i6, i7, hm7, hb7⟩ := days_all w6
      have h7 := h6.below hb7 h0
      have hx7 := (hb7.block _ (lt_of_block hx6)).trans hx6
      have hz7 := (hb7.block _ (lt_of_block hz6)).trans hz6
      have hk7 := hk6.trans (Kept.of_below hb7)
      have kt7 := (cell_of_row _ _ 3 _ _ _ hx7).trans rfl
      have ku7 := (cell_of_row _ _ 2 _ _ _ hx7).trans rfl
      have hlk := day_look hm7 TX
      have hs7 := hb7.size
      have cg := good_any h7
      rw [show ((2 : Int) == 0) = false by rfl] at cg
      have hXX := HX.out
      rw [if_pos hd0] at hXX
      clear HX
      have HX : Hid (.error (2, at2) = X) := hXX
      rw [hd0] at hlk
      have hor : bits BinOp.or IntKind.i64 (a : Int) 0 = (a : Int) := by have := or_eq ha (show 0 < 128 by decide); simpa using this
      have cC := on_any h0 h7 3 wComma
      rw [show onB all j 2 3 wComma = false by rfl] at cC
      clear hXX hd0 hbl hm7 hb7
      go_wp2_with fail
      refine cg.mono ?_
      rintro e wg ⟨rfl, hwg⟩
      subst wg
      clear cg i0 i1 i2 i3 i4 i5 i6 i7 hw6 hlk
      go_wp2_with fail
      refine cC.mono ?_
      rintro e w9 ⟨rfl, hb9⟩
      have h9 := h7.below hb9 h0
      have hz9 := (hb9.block _ (lt_of_block hz7)).trans hz7
      have hk9 := hk7.trans (Kept.of_below hb9)
      clear cC
      have cX := guard_bad h0 h9 (by decide) d hd 4 a 0
      go_wp2_with fail
      refine cX.mono ?_
      rintro e w8 ⟨⟨a, b, c, x, p, q, r, rfl⟩, h8, hk8⟩
      have hz8 := hk8.at hz9 (by omega)
      have hkw8 := (hk9).trans hk8
      have HF := fun cs => h.row_set h0 h8 hkw8 (Nat.le_refl _) cs
      have hkF := fun cs => hkw8.setRow (Nat.le_refl _) cs
      clear cX
      go_wp2_with (refine wpList_store_row rfl 60 _ _ rfl _ _ rfl rfl _ _ hz8 (by kernel_rfl) (by rfl) (by simp [Value.oneCell']) ?_)
      exact ex_ret 4 (by kernel_rfl) w.heap.size _ _ _ _ _ rfl rfl (setRow_heap _ _ _ _ _ _ hz8) (by rw [← HX.out]; exact ⟨by decide, ⟨_, _, _, _, _, _, _, rfl⟩, ⟨_, _, hu2 ▸ HF _⟩, hkF _⟩)
end Go.Proofs.YtggcepicghibjacDoor

/- The document's reader whole. -/
namespace Go.Proofs.YtggcepicghibjacDoor
open Go.RowKit Lx
variable {all : List Tk} {E g : Nat} {v : Value} {i : Nat}

theorem word_kind (h0 : WS0 all E g v) {x : List UInt8} (hx : x ∈ wordsL) (h : isT x (all.drop i) = true) : kindP (all.drop i) = 2 :=
  (head_ok h0 i).2 (by rw [show textP (all.drop i) = x by simpa [isT] using h]; exact hx)
theorem rthing_step (h0 : WS0 all E g v) (hS : ∀ j, i < j → RSum all E g v 0 0 j) (hF : ∀ j, i < j → RW all E g v 54 4 j) : RW all E g v 81 6 i := by
  intro w n d h hn6 hd41
  rw [rd_6]
  by_cases hd : 40 < d
  · rw [if_pos hd]
    exact rthing_deep h0 h d hd hd41
  rw [if_neg hd]
  have hdl : d ≤ 40 := by omega
  simp only [tail_drop]
  by_cases ho : isT wOpen (all.drop i) = true
  · rw [if_pos ho]
    exact rthing_open h0 h hn6 d hdl ho (hS _ (by omega))
  rw [if_neg ho]
  replace ho : isT wOpen (all.drop i) = false := by simpa using ho
  by_cases h1 : isT wNever (all.drop i) = true
  · rw [if_pos h1]
    exact rthing_never h0 h hn6 d hdl ho (word_kind h0 (by decide) h1) h1
  rw [if_neg h1]
  replace h1 : isT wNever (all.drop i) = false := by simpa using h1
  by_cases h2 : isT wAlways (all.drop i) = true
  · rw [if_pos h2]
    exact rthing_always h0 h hn6 d hdl ho (word_kind h0 (by decide) h2) h1 h2
  rw [if_neg h2]
  replace h2 : isT wAlways (all.drop i) = false := by simpa using h2
  by_cases h3 : isT wWeekly (all.drop i) = true
  · rw [if_pos h3]
    exact rthing_weekly h0 h hn6 d hdl ho (word_kind h0 (by decide) h3) h1 h2 h3 hF
  rw [if_neg h3]
  replace h3 : isT wWeekly (all.drop i) = false := by simpa using h3
  by_cases h4 : isT wDates (all.drop i) = true
  · rw [if_pos h4]
    have := rthing_dates h0 h hn6 d hdl ho (word_kind h0 (by decide) h4) h1 h2 h3 h4 hF
    unfold datesR at this
    simp only [tail_drop] at this
    exact this
  rw [if_neg h4]
  replace h4 : isT wDates (all.drop i) = false := by simpa using h4
  by_cases hk1 : kindP (all.drop i) = 1
  · rw [if_pos hk1]
    exact rthing_name h0 h hn6 d hdl ho hk1
  rw [if_neg hk1]
  by_cases hk2 : kindP (all.drop i) = 2
  · exact rthing_span_word h0 h hn6 d hdl ho hk2 h1 h2 h3 h4
  · exact rthing_span h0 h hn6 d hdl ho hk2 hk1
theorem rreader_all (h0 : WS0 all E g v) : ∀ (k i : Nat), all.length + 1 - i ≤ k →
    RW all E g v 81 6 i ∧ RW all E g v 54 4 i ∧ RSum all E g v 2 4 i ∧ RSum all E g v 1 2 i ∧ RSum all E g v 0 0 i
  | 0, i, hk => ⟨fun _ _ _ h _ _ => absurd h.le (by omega), fun _ _ _ h _ _ => absurd h.le (by omega), fun _ _ _ h _ _ => absurd h.le (by omega), fun _ _ _ h _ _ => absurd h.le (by omega), fun _ _ _ h _ _ => absurd h.le (by omega)⟩
  | k + 1, i, hk => by
    have ih := fun j (hj : i < j) => rreader_all h0 k j (by omega)
    have t := rthing_step h0 (fun j hj => (ih j hj).2.2.2.2) (fun j hj => (ih j hj).2.1)
    have f := rfactor_step h0 t
    have s2 := rsum2_step h0 f
    have s1 := rsum1_step h0 s2 (fun j hj => (ih j hj).2.2.1)
    exact ⟨t, f, s2, s1, rsum0_step h0 s1 (fun j hj => (ih j hj).2.2.2.1)⟩
/-- What the document reads as an expression is what the plain reader reads. -/
theorem rsum_all (h0 : WS0 all E g v) (i : Nat) : RSum all E g v 0 0 i := (rreader_all h0 _ i (Nat.le_refl _)).2.2.2.2
end Go.Proofs.YtggcepicghibjacDoor
