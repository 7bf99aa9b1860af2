/- What the document's Thing, Factor and Sum come to where something is wrong already: nothing turns. -/
import Derived.Test.YtfibbmdkpgageaaDoorPq35
import Derived.MapKept
import Derived.Carry
namespace Go.Proofs.YtfibbmdkpgageaaDoor
open Go.RowKit Lx
variable {all : List Tk} {E g : Nat} {v : Value} {w : World} {i n : Nat} {er at_ : Int}

/-- Some expression is handed back, and nothing has turned. -/
def OutB (all : List Tk) (E g : Nat) (v : Value) (w : World) (i n : Nat) (er at_ : Int) (e : Ending) (w' : World) : Prop :=
  (∃ (a b c : Int) (x : ByteArray) (p : Option Addr) (q r : Nat), e = .returned (.agg #[.int .i64 a, .int .i64 b, .int .i64 c, .string x, .slice p q r])) ∧ WSt all E g v w' i n er at_ ∧ Kept g w w'
theorem WSt.row_set {w' : World} {k : Nat} (h : WSt all E g v w i n er at_) (h0 : WS0 all E g v) {i' n' : Nat} {er' at' : Int} (h' : WSt all E g v w' i' n' er' at') (hk : Kept g w w') (hs : w.heap.size ≤ k) (cs : Array Value) : WSt all E g v (w'.setRow k cs) i' n' er' at' :=
  h.of_kept h0 (hk.setRow hs cs) ((setRow_other _ _ _ _ (by have := lt_of_block h.blk; omega)).trans h'.blk) h'.le

set_option maxRecDepth 100000 in
set_option maxHeartbeats 1000000 in
theorem rthing_bad (h0 : WS0 all E g v) (h : WSt all E g v w i n er at_) (he : er ≠ 0) (d : Int) :
    Calls Tryd.prog 81 #[.pointer (some ⟨g, 0, none⟩), .int .i64 d] w (OutB all E g v w i n er at_) := by
  have hb0 : Below w.heap.size w (w.alloc (.cells #[.int .i64 0, .int .i64 0, .int .i64 0, .string ⟨#[]⟩, .slice none 0 0] 60)) := (Below.refl _ _).alloc (Nat.le_refl _) _
  have hz := zero_new w
  have hA := h.below hb0 h0
  have hkA := Kept.of_below (g := g) hb0
  have cg := good_any hA
  rw [show (er == 0) = false by simpa using he] at cg
  have HF := fun cs => h.row_set h0 hA hkA (Nat.le_refl _) cs
  have hkF := fun cs => hkA.setRow (Nat.le_refl _) cs
  clear h hA hkA he
  generalize hwA : w.alloc (.cells #[.int .i64 0, .int .i64 0, .int .i64 0, .string ⟨#[]⟩, .slice none 0 0] 60) = wA at *
  go_enter Tryd.func81, Tryd.ntmps81
  go_wp2_with fail
  refine cg.mono ?_
  rintro e w1 ⟨rfl, h1⟩
  subst w1
  clear hwA
  go_wp2_with (refine wpList_store_row rfl 60 _ _ rfl _ _ rfl rfl _ _ hz (by kernel_rfl) (by rfl) (by simp [Value.oneCell']) ?_)
  exact ex_ret 4 (by kernel_rfl) w.heap.size _ _ _ _ _ rfl rfl (setRow_heap _ _ _ _ _ _ hz) ⟨⟨_, _, _, _, _, _, _, rfl⟩, HF _, hkF _⟩
set_option maxRecDepth 100000 in
set_option maxHeartbeats 1000000 in
theorem rfactor_bad (h0 : WS0 all E g v) (h : WSt all E g v w i n er at_) (he : er ≠ 0) (d : Int) :
    Calls Tryd.prog 54 #[.pointer (some ⟨g, 0, none⟩), .int .i64 d] w (OutB all E g v w i n er at_) := by
  have hgl := lt_of_block h.blk
  have hb0 : Below w.heap.size w (w.alloc (.cells #[.int .i64 0, .int .i64 0, .int .i64 0, .string ⟨#[]⟩, .slice none 0 0] 60)) := (Below.refl _ _).alloc (Nat.le_refl _) _
  have hz := zero_new w
  have hA := h.below hb0 h0
  have hkA := Kept.of_below (g := g) hb0
  have c1 := rthing_bad h0 hA he d
  have c2 := fun (w1 : World) (h1 : WSt all E g v w1 i n er at_) => on_any h0 h1 2 wShift
  have hon : onB all i er 2 wShift = false := by
    unfold onB
    rw [show (er == 0) = false by simpa using he]; rfl
  simp only [hon] at c2
  clear hon he
  generalize hwA : w.alloc (.cells #[.int .i64 0, .int .i64 0, .int .i64 0, .string ⟨#[]⟩, .slice none 0 0] 60) = wA at *
  go_enter Tryd.func54, Tryd.ntmps54
  go_wp2_with fail
  refine c1.mono ?_
  rintro e w1 ⟨⟨a, b, c, x, p, q, r, rfl⟩, h1, hk1⟩
  have hz1 := hk1.at hz (by omega)
  have hb2 : Below w1.heap.size w1 (w1.alloc (.cells #[.int .i64 a, .int .i64 b, .int .i64 c, .string x, .slice p q r] 60)) := (Below.refl _ _).alloc (Nat.le_refl _) _
  have h2 := h1.below hb2 h0
  have hx2 := heap_alloc_new w1 (.cells #[.int .i64 a, .int .i64 b, .int .i64 c, .string x, .slice p q r] 60)
  have hz2 := (hb2.block _ (lt_of_block hz1)).trans hz1
  have hkw2 := (hkA.trans hk1).trans (Kept.of_below hb2)
  have hsz := hk1.size
  clear c1 h1 hk1 hz1 hb2 hA hkA hb0 hwA hz
  generalize hw2 : w1.alloc (.cells #[.int .i64 a, .int .i64 b, .int .i64 c, .string x, .slice p q r] 60) = w2 at *
  go_wp2_with fail
  clear hw2
  refine wp_loop_rounds 1 ?_
  rw [rounds_succ]
  go_wp2_with fail
  refine (c2 _ h2).mono ?_
  rintro e w3 ⟨rfl, hb3⟩
  have h3 := h2.below hb3 h0
  have hx3 := (hb3.block _ (lt_of_block hx2)).trans hx2
  have hz3 := (hb3.block _ (lt_of_block hz2)).trans hz2
  have hkw3 := hkw2.trans (Kept.of_below hb3)
  have HF := fun cs => h.row_set h0 h3 hkw3 (Nat.le_refl _) cs
  have hkF := fun cs => hkw3.setRow (Nat.le_refl _) cs
  clear c2 h h2 h3 hkw2 hkw3 hx2 hz2 hb3
  go_wp2_with (first
    | (refine wpList_load_row rfl 60 _ rfl _ rfl _ _ _ _ hx3 exprType rfl (by kernel_rfl) ?_)
    | (refine wpList_store_row rfl 60 _ _ rfl _ _ rfl rfl _ _ hz3 (by kernel_rfl) (by rfl) (by simp [Value.oneCell']) ?_))
  exact ex_ret 4 (by kernel_rfl) w.heap.size _ _ _ _ _ rfl rfl (setRow_heap _ _ _ _ _ _ hz3) ⟨⟨_, _, _, _, _, _, _, rfl⟩, HF _, hkF _⟩
set_option maxRecDepth 100000 in
set_option maxHeartbeats 1000000 in
theorem rsum2_bad (h0 : WS0 all E g v) (h : WSt all E g v w i n er at_) (he : er ≠ 0) (d : Int) :
    Calls Tryd.prog 28 #[.pointer (some ⟨g, 0, none⟩), .int .i64 2, .int .i64 d] w (OutB all E g v w i n er at_) := by
  have hgl := lt_of_block h.blk
  have hb0 : Below w.heap.size w (w.alloc (.cells #[.int .i64 0, .int .i64 0, .int .i64 0, .string ⟨#[]⟩, .slice none 0 0] 60)) := (Below.refl _ _).alloc (Nat.le_refl _) _
  have hz := zero_new w
  have hA := h.below hb0 h0
  have hkA := Kept.of_below (g := g) hb0
  have c1 := rfactor_bad h0 hA he d
  clear he
  generalize hwA : w.alloc (.cells #[.int .i64 0, .int .i64 0, .int .i64 0, .string ⟨#[]⟩, .slice none 0 0] 60) = wA at *
  go_enter Tryd.func28, Tryd.ntmps28
  go_wp2_with fail
  refine c1.mono ?_
  rintro e w1 ⟨⟨a, b, c, x, p, q, r, rfl⟩, h1, hk1⟩
  have hz1 := hk1.at hz (by omega)
  have hkw1 := hkA.trans hk1
  have HF := fun cs => h.row_set h0 h1 hkw1 (Nat.le_refl _) cs
  have hkF := fun cs => hkw1.setRow (Nat.le_refl _) cs
  clear c1 h h1 hk1 hkw1 hA hkA hb0 hwA hz
  go_wp2_with (refine wpList_store_row rfl 60 _ _ rfl _ _ rfl rfl _ _ hz1 (by kernel_rfl) (by rfl) (by simp [Value.oneCell']) ?_)
  exact ex_ret 6 (by kernel_rfl) w.heap.size _ _ _ _ _ rfl rfl (setRow_heap _ _ _ _ _ _ hz1) ⟨⟨_, _, _, _, _, _, _, rfl⟩, HF _, hkF _⟩
set_option maxRecDepth 100000 in
set_option maxHeartbeats 1000000 in
theorem rsum_badStep (h0 : WS0 all E g v) (h : WSt all E g v w i n er at_) (he : er ≠ 0) (d hd : Int) (hh : hd = 0 ∨ hd = 1)
    (ih : ∀ w, WSt all E g v w i n er at_ → Calls Tryd.prog 28 #[.pointer (some ⟨g, 0, none⟩), .int .i64 (hd + 1), .int .i64 d] w (OutB all E g v w i n er at_)) :
    Calls Tryd.prog 28 #[.pointer (some ⟨g, 0, none⟩), .int .i64 hd, .int .i64 d] w (OutB all E g v w i n er at_) := by
  have hgl := lt_of_block h.blk
  have hb0 : Below w.heap.size w (w.alloc (.cells #[.int .i64 0, .int .i64 0, .int .i64 0, .string ⟨#[]⟩, .slice none 0 0] 60)) := (Below.refl _ _).alloc (Nat.le_refl _) _
  have hz := zero_new w
  have hA := h.below hb0 h0
  have hkA := Kept.of_below (g := g) hb0
  have c1 := ih _ hA
  have c2 := fun (w1 : World) (h1 : WSt all E g v w1 i n er at_) => good_any h1
  simp only [show (er == 0) = false by simpa using he] at c2
  have h2 : (hd == 2) = false := beq_eq_false_iff_ne.2 (by omega)
  have hd1 : 0 ≤ hd := by omega
  have hd2 : hd ≤ 1 := by omega
  clear he ih hh
  generalize hwA : w.alloc (.cells #[.int .i64 0, .int .i64 0, .int .i64 0, .string ⟨#[]⟩, .slice none 0 0] 60) = wA at *
  go_enter Tryd.func28, Tryd.ntmps28
  go_wp2_with fail
  refine c1.mono ?_
  rintro e w1 ⟨⟨a, b, c, x, p, q, r, rfl⟩, h1, hk1⟩
  have hz1 := hk1.at hz (by omega)
  have hb2 : Below w1.heap.size w1 (w1.alloc (.cells #[.int .i64 a, .int .i64 b, .int .i64 c, .string x, .slice p q r] 60)) := (Below.refl _ _).alloc (Nat.le_refl _) _
  have h2' := h1.below hb2 h0
  have hx2 := heap_alloc_new w1 (.cells #[.int .i64 a, .int .i64 b, .int .i64 c, .string x, .slice p q r] 60)
  have hz2 := (hb2.block _ (lt_of_block hz1)).trans hz1
  have hkw2 := (hkA.trans hk1).trans (Kept.of_below hb2)
  clear c1 h1 hk1 hz1 hb2 hA hkA hb0 hwA hz
  generalize hw2 : w1.alloc (.cells #[.int .i64 a, .int .i64 b, .int .i64 c, .string x, .slice p q r] 60) = w2 at *
  go_wp2_with fail
  clear hw2
  refine wp_loop_rounds 1 ?_
  rw [rounds_succ]
  go_wp2_with fail
  refine (c2 _ h2').mono ?_
  rintro e w3 ⟨rfl, hw3⟩
  subst w3
  have HF := fun cs => h.row_set h0 h2' hkw2 (Nat.le_refl _) cs
  have hkF := fun cs => hkw2.setRow (Nat.le_refl _) cs
  clear c2 h h2' hkw2
  go_wp2_with (first
    | (refine wpList_load_row rfl 60 _ rfl _ rfl _ _ _ _ hx2 exprType rfl (by kernel_rfl) ?_)
    | (refine wpList_store_row rfl 60 _ _ rfl _ _ rfl rfl _ _ hz2 (by kernel_rfl) (by rfl) (by simp [Value.oneCell']) ?_))
  exact ex_ret 6 (by kernel_rfl) w.heap.size _ _ _ _ _ rfl rfl (setRow_heap _ _ _ _ _ _ hz2) ⟨⟨_, _, _, _, _, _, _, rfl⟩, HF _, hkF _⟩
theorem rsum1_bad (h0 : WS0 all E g v) (h : WSt all E g v w i n er at_) (he : er ≠ 0) (d : Int) :
    Calls Tryd.prog 28 #[.pointer (some ⟨g, 0, none⟩), .int .i64 1, .int .i64 d] w (OutB all E g v w i n er at_) := rsum_badStep h0 h he d 1 (.inr rfl) (fun _ h1 => rsum2_bad h0 h1 he d)
theorem rsum0_bad (h0 : WS0 all E g v) (h : WSt all E g v w i n er at_) (he : er ≠ 0) (d : Int) :
    Calls Tryd.prog 28 #[.pointer (some ⟨g, 0, none⟩), .int .i64 0, .int .i64 d] w (OutB all E g v w i n er at_) := rsum_badStep h0 h he d 0 (.inl rfl) (fun _ h1 => rsum1_bad h0 h1 he d)
end Go.Proofs.YtfibbmdkpgageaaDoor

/- What the document's reader meets, in the plain reader's words. -/
namespace Go.Proofs.YtfibbmdkpgageaaDoor
open Go.RowKit Lx
variable {all : List Tk} {E g : Nat} {v : Value} {w : World} {i n : Nat} {er at_ : Int}

theorem head_ok (h0 : WS0 all E g v) (i : Nat) : (textP (all.drop i) ∈ signW → kindP (all.drop i) = 3) ∧ (textP (all.drop i) ∈ wordsL → kindP (all.drop i) = 2) := by
  cases h : all.drop i with
  | nil => exact ⟨fun h => absurd h (by decide), fun h => absurd h (by decide)⟩
  | cons p r =>
    have hm : p ∈ all := List.mem_of_mem_drop (h ▸ List.mem_cons_self)
    exact h0.kind p hm
theorem on_sign (h0 : WS0 all E g v) {x : List UInt8} (hx : x ∈ signW) (i : Nat) : onB all i 0 3 x = isT x (all.drop i) := by
  unfold onB
  cases hT : isT x (all.drop i) with
  | false => simp
  | true =>
    have e : textP (all.drop i) = x := by simpa [isT] using hT
    have := (head_ok h0 i).1 (by rw [e]; exact hx)
    rw [this]; rfl
theorem on_word (h0 : WS0 all E g v) {x : List UInt8} (hx : x ∈ wordsL) (i : Nat) : onB all i 0 2 x = isT x (all.drop i) := by
  unfold onB
  cases hT : isT x (all.drop i) with
  | false => simp
  | true =>
    have e : textP (all.drop i) = x := by simpa [isT] using hT
    have := (head_ok h0 i).2 (by rw [e]; exact hx)
    rw [this]; rfl
/-- A contract of the document's reader, at a place. -/
def RW (all : List Tk) (E g : Nat) (v : Value) (f : FuncId) (m i : Nat) : Prop := ∀ (w : World) (n d : Nat), WSt all E g v w i n 0 0 → n ≤ 600 → d ≤ 41 →
  Calls Tryd.prog f #[.pointer (some ⟨g, 0, none⟩), .int .i64 (d : Int)] w (OutW all E g v w (fun k => w.heap.size ≤ k) (rd E m d ex0 (all.drop i) n))
/-- The same, said from an earlier world. -/
theorem OutW.weak {B B' : Nat → Prop} {x : Res} {e : Ending} {w0 w' : World} (hk : Kept g w0 w) (hB : ∀ k, B k → B' k) (h : OutW all E g v w B x e w') : OutW all E g v w0 B' x e w' := by
  unfold OutW at h ⊢
  match x, h with
  | .error (er, at_), h => exact ⟨h.1, h.2.1, h.2.2.1, hk.trans h.2.2.2⟩
  | .ok (ex, r, n), h =>
    obtain ⟨i, sl, d, a, b, c, d', f, k⟩ := h
    exact ⟨i, sl, d, a, b, c.mono hB, d', f, hk.trans k⟩

theorem Kept.setAt {w' : World} {k : Nat} (h : Kept g w w') (hk : w.heap.size ≤ k) (j : Nat) (u : Value) : Kept g w (w'.setCell ⟨k, j, none⟩ u) :=
  ⟨h.os, h.tape, h.output, by simpa using h.size, fun m hm hne => (heap_setCell_other w' ⟨k, j, none⟩ m u (by show m ≠ k; omega)).trans (h.block m hm hne)⟩
/-- The call's end: what was handed back is laid in the result's own variable. -/
theorem outW_split {w4 w5 : World} {X : Res} {e : Ending} {z : Nat} {o : Obj} {B : Nat → Prop} (h : WSt all E g v w i n er at_) (h0 : WS0 all E g v) (hk4 : Kept g w w4) (hz4 : w4.heap[z]? = some o) (hzs : w.heap.size ≤ z) (hB : ∀ k, B k → w.heap.size ≤ k ∧ k ≠ z)
    (ho : OutW all E g v w4 B X e w5) :
    ∃ (a b c : Int) (x : ByteArray) (p : Option Addr) (q r : Nat), e = .returned (.agg #[.int .i64 a, .int .i64 b, .int .i64 c, .string x, .slice p q r]) ∧ w5.heap[z]? = some o ∧ ∀ cs, OutW all E g v w (fun k => w.heap.size ≤ k) X e (w5.setRow z cs) := by
  have hgl := lt_of_block h.blk
  cases hx : X with
  | error q =>
    obtain ⟨er', at'⟩ := q
    rw [hx] at ho
    obtain ⟨hne, ⟨a, b, c, x, p, q, r, rfl⟩, ⟨i5, n5, h5⟩, hk5⟩ := ho
    exact ⟨a, b, c, x, p, q, r, rfl, hk5.at hz4 (by omega), fun cs => ⟨hne, ⟨_, _, _, _, _, _, _, rfl⟩, ⟨i5, n5, h.row_set h0 h5 (hk4.trans hk5) hzs cs⟩, (hk4.trans hk5).setRow hzs cs⟩⟩
  | ok q =>
    obtain ⟨ex, rr, nn⟩ := q
    rw [hx] at ho
    obtain ⟨i', sl, dd, hr', rfl, hkd, h5, hn5, hk5⟩ := ho
    obtain ⟨p5, c5, rfl⟩ := hkd.form
    refine ⟨_, _, _, _, p5, ex.kids.length, c5, rfl, hk5.at hz4 (by omega), fun cs => ?_⟩
    refine ⟨i', _, dd, hr', rfl, ?_, h.row_set h0 h5 (hk4.trans hk5) hzs cs, hn5, (hk4.trans hk5).setRow hzs cs⟩
    exact (hkd.kept fun k hk _ => setRow_other _ _ _ _ (hB k hk).2).mono fun k hk => (hB k hk).1
end Go.Proofs.YtfibbmdkpgageaaDoor

/- A map that is written out, and what is looked up in it. -/
namespace Go.Proofs.YtfibbmdkpgageaaDoor
open Go.RowKit Lx
variable {w : World} {r : Nat} {es : Array MapEntry} {c : Nat}

theorem mapT : Tryd.prog.underlying 116 = some (.map 9 3) := by kernel_rfl
theorem strT : Tryd.prog.underlying 9 = some .string := by kernel_rfl
/-- A block is put anew. -/
def putB (w : World) (b : Nat) (o : Obj) : World := { w with heap := w.heap.setIfInBounds b o }
theorem putB_same {o o' : Obj} (hb : w.heap[r]? = some o) : (putB w r o').heap[r]? = some o' := (MapKept.heap_set hb).1
theorem ins_new (hb : w.heap[r]? = some (.map es c)) (k : ByteArray) (x : Value) (hn : Instr.findNow .string (.string k) es.toList 0 = some none) :
    (Instr.mapUpdate 116 (.map (some r)) (.string k) x).run Tryd.prog w = .ok () (putB w r (.map (es.push ⟨.string k, x, c⟩) (c + 1))) := by
  have hc : (Instr.checkKey false 10000 9 (.string k)).run Tryd.prog w = .ok () w := MapKept.run_checkKey (k := .string k) strT (by simp [MapKept.IsKey]) false 9999
  simp [Instr.mapUpdate, run_underlying mapT, MapKept.run_getObj_map hb, hc, MapKept.run_findKey strT hn, MapKept.run_setObj_map _ hb, Result.andThen, putB]
/-- The days' map, as it stands when all are put. -/
def dayM : Array MapEntry := #[⟨.string ⟨#[109, 111, 110]⟩, .int .i64 1, 0⟩, ⟨.string ⟨#[116, 117, 101]⟩, .int .i64 2, 1⟩, ⟨.string ⟨#[119, 101, 100]⟩, .int .i64 4, 2⟩, ⟨.string ⟨#[116, 104, 117]⟩, .int .i64 8, 3⟩, ⟨.string ⟨#[102, 114, 105]⟩, .int .i64 16, 4⟩, ⟨.string ⟨#[115, 97, 116]⟩, .int .i64 32, 5⟩, ⟨.string ⟨#[115, 117, 110]⟩, .int .i64 64, 6⟩]
theorem day_find (x : List UInt8) : ∃ a, Instr.findNow .string (.string ⟨x.toArray⟩) dayM.toList 0 = some a ∧ (match a with | some (_, u) => u = .int .i64 (dayBit x : Int) | none => dayBit x = 0) := by
  have e : ∀ y : List UInt8, ((⟨x.toArray⟩ : ByteArray) == ⟨y.toArray⟩) = (x == y) := fun y => by
    show (x.toArray == y.toArray) = (x == y)
    simp
  have e0 := e [109, 111, 110]
  have e1 := e [116, 117, 101]
  have e2 := e [119, 101, 100]
  have e3 := e [116, 104, 117]
  have e4 := e [102, 114, 105]
  have e5 := e [115, 97, 116]
  have e6 := e [115, 117, 110]
  unfold dayM dayBit
  simp only [Instr.findNow, Instr.sameNow, e0, e1, e2, e3, e4, e5, e6]
  by_cases c0 : x = [109, 111, 110]
  · subst c0
    exact ⟨_, rfl, rfl⟩
  by_cases c1 : x = [116, 117, 101]
  · subst c1
    exact ⟨_, rfl, rfl⟩
  by_cases c2 : x = [119, 101, 100]
  · subst c2
    exact ⟨_, rfl, rfl⟩
  by_cases c3 : x = [116, 104, 117]
  · subst c3
    exact ⟨_, rfl, rfl⟩
  by_cases c4 : x = [102, 114, 105]
  · subst c4
    exact ⟨_, rfl, rfl⟩
  by_cases c5 : x = [115, 97, 116]
  · subst c5
    exact ⟨_, rfl, rfl⟩
  by_cases c6 : x = [115, 117, 110]
  · subst c6
    exact ⟨_, rfl, rfl⟩
  refine ⟨none, ?_, ?_⟩
  · simp only [beq_eq_false_iff_ne.2 c0, beq_eq_false_iff_ne.2 c1, beq_eq_false_iff_ne.2 c2, beq_eq_false_iff_ne.2 c3, beq_eq_false_iff_ne.2 c4, beq_eq_false_iff_ne.2 c5, beq_eq_false_iff_ne.2 c6]
  · show (if x = [109, 111, 110] then 1 else if x = [116, 117, 101] then 2 else if x = [119, 101, 100] then 4 else if x = [116, 104, 117] then 8 else if x = [102, 114, 105] then 16 else if x = [115, 97, 116] then 32 else if x = [115, 117, 110] then 64 else 0) = 0
    rw [if_neg c0, if_neg c1, if_neg c2, if_neg c3, if_neg c4, if_neg c5, if_neg c6]
theorem day_look (hb : w.heap[r]? = some (.map dayM 7)) (x : List UInt8) :
    (Instr.lookup 116 (.map (some r)) (.string ⟨x.toArray⟩) false).run Tryd.prog w = .ok (.int .i64 (dayBit x : Int)) w := by
  have hc : (Instr.checkKey false 10000 9 (.string ⟨x.toArray⟩)).run Tryd.prog w = .ok () w := MapKept.run_checkKey (k := .string _) strT (by simp [MapKept.IsKey]) false 9999
  obtain ⟨a, h1, h2⟩ := day_find x
  have hz : (zeroValue 3).run Tryd.prog w = .ok (.int .i64 0) w := by kernel_rfl
  have hem : dayM.isEmpty = false := by rfl
  cases a with
  | none =>
    simp [Instr.lookup, run_underlying mapT, MapKept.run_getObj_map hb, hem, hc, MapKept.run_findKey strT h1, hz, Result.andThen, show dayBit x = 0 from h2]
  | some q =>
    obtain ⟨j, u⟩ := q
    have : u = .int .i64 (dayBit x : Int) := h2
    simp [Instr.lookup, run_underlying mapT, MapKept.run_getObj_map hb, hem, hc, MapKept.run_findKey strT h1, Result.andThen, this]
theorem putB_below {r n : Nat} {w0 : World} (h : Below n w0 w) (hr : n ≤ r) (o : Obj) : Below n w0 (putB w r o) :=
  ⟨h.os, h.tape, h.output, by simpa [putB] using h.size, fun k hk => by
    rw [← h.block k hk]
    show (w.heap.setIfInBounds r o)[k]? = _
    rw [Array.getElem?_setIfInBounds_ne (by omega)]⟩
/-- The days' map is made. -/
theorem days_all (w : World) : ∃ W1 W2 W3 W4 W5 W6 W7 : World,
    (Instr.mapUpdate 116 (.map (some w.heap.size)) (.string ⟨#[109, 111, 110]⟩) (.int .i64 1)).run Tryd.prog (w.alloc (.map #[] 0)) = .ok () W1 ∧
    (Instr.mapUpdate 116 (.map (some w.heap.size)) (.string ⟨#[116, 117, 101]⟩) (.int .i64 2)).run Tryd.prog W1 = .ok () W2 ∧
    (Instr.mapUpdate 116 (.map (some w.heap.size)) (.string ⟨#[119, 101, 100]⟩) (.int .i64 4)).run Tryd.prog W2 = .ok () W3 ∧
    (Instr.mapUpdate 116 (.map (some w.heap.size)) (.string ⟨#[116, 104, 117]⟩) (.int .i64 8)).run Tryd.prog W3 = .ok () W4 ∧
    (Instr.mapUpdate 116 (.map (some w.heap.size)) (.string ⟨#[102, 114, 105]⟩) (.int .i64 16)).run Tryd.prog W4 = .ok () W5 ∧
    (Instr.mapUpdate 116 (.map (some w.heap.size)) (.string ⟨#[115, 97, 116]⟩) (.int .i64 32)).run Tryd.prog W5 = .ok () W6 ∧
    (Instr.mapUpdate 116 (.map (some w.heap.size)) (.string ⟨#[115, 117, 110]⟩) (.int .i64 64)).run Tryd.prog W6 = .ok () W7 ∧
    W7.heap[w.heap.size]? = some (.map dayM 7) ∧ Below w.heap.size w W7 := by
  have m0 := heap_alloc_new w (.map #[] 0)
  have b0 := (Below.refl w.heap.size w).alloc (Nat.le_refl _) (.map #[] 0)
  have i1 := ins_new m0 ⟨#[109, 111, 110]⟩ (.int .i64 1) (by rfl)
  have m1 := putB_same (o' := .map #[⟨.string ⟨#[109, 111, 110]⟩, .int .i64 1, 0⟩] 1) m0
  have b1 := putB_below b0 (Nat.le_refl _) (.map #[⟨.string ⟨#[109, 111, 110]⟩, .int .i64 1, 0⟩] 1)
  have i2 := ins_new m1 ⟨#[116, 117, 101]⟩ (.int .i64 2) (by rfl)
  have m2 := putB_same (o' := .map #[⟨.string ⟨#[109, 111, 110]⟩, .int .i64 1, 0⟩, ⟨.string ⟨#[116, 117, 101]⟩, .int .i64 2, 1⟩] 2) m1
  have b2 := putB_below b1 (Nat.le_refl _) (.map #[⟨.string ⟨#[109, 111, 110]⟩, .int .i64 1, 0⟩, ⟨.string ⟨#[116, 117, 101]⟩, .int .i64 2, 1⟩] 2)
  have i3 := ins_new m2 ⟨#[119, 101, 100]⟩ (.int .i64 4) (by rfl)
  have m3 := putB_same (o' := .map #[⟨.string ⟨#[109, 111, 110]⟩, .int .i64 1, 0⟩, ⟨.string ⟨#[116, 117, 101]⟩, .int .i64 2, 1⟩, ⟨.string ⟨#[119, 101, 100]⟩, .int .i64 4, 2⟩] 3) m2
  have b3 := putB_below b2 (Nat.le_refl _) (.map #[⟨.string ⟨#[109, 111, 110]⟩, .int .i64 1, 0⟩, ⟨.string ⟨#[116, 117, 101]⟩, .int .i64 2, 1⟩, ⟨.string ⟨#[119, 101, 100]⟩, .int .i64 4, 2⟩] 3)
  have i4 := ins_new m3 ⟨#[116, 104, 117]⟩ (.int .i64 8) (by rfl)
  have m4 := putB_same (o' := .map #[⟨.string ⟨#[109, 111, 110]⟩, .int .i64 1, 0⟩, ⟨.string ⟨#[116, 117, 101]⟩, .int .i64 2, 1⟩, ⟨.string ⟨#[119, 101, 100]⟩, .int .i64 4, 2⟩, ⟨.string ⟨#[116, 104, 117]⟩, .int .i64 8, 3⟩] 4) m3
  have b4 := putB_below b3 (Nat.le_refl _) (.map #[⟨.string ⟨#[109, 111, 110]⟩, .int .i64 1, 0⟩, ⟨.string ⟨#[116, 117, 101]⟩, .int .i64 2, 1⟩, ⟨.string ⟨#[119, 101, 100]⟩, .int .i64 4, 2⟩, ⟨.string ⟨#[116, 104, 117]⟩, .int .i64 8, 3⟩] 4)
  have i5 := ins_new m4 ⟨#[102, 114, 105]⟩ (.int .i64 16) (by rfl)
  have m5 := putB_same (o' := .map #[⟨.string ⟨#[109, 111, 110]⟩, .int .i64 1, 0⟩, ⟨.string ⟨#[116, 117, 101]⟩, .int .i64 2, 1⟩, ⟨.string ⟨#[119, 101, 100]⟩, .int .i64 4, 2⟩, ⟨.string ⟨#[116, 104, 117]⟩, .int .i64 8, 3⟩, ⟨.string ⟨#[102, 114, 105]⟩, .int .i64 16, 4⟩] 5) m4
  have b5 := putB_below b4 (Nat.le_refl _) (.map #[⟨.string ⟨#[109, 111, 110]⟩, .int .i64 1, 0⟩, ⟨.string ⟨#[116, 117, 101]⟩, .int .i64 2, 1⟩, ⟨.string ⟨#[119, 101, 100]⟩, .int .i64 4, 2⟩, ⟨.string ⟨#[116, 104, 117]⟩, .int .i64 8, 3⟩, ⟨.string ⟨#[102, 114, 105]⟩, .int .i64 16, 4⟩] 5)
  have i6 := ins_new m5 ⟨#[115, 97, 116]⟩ (.int .i64 32) (by rfl)
  have m6 := putB_same (o' := .map #[⟨.string ⟨#[109, 111, 110]⟩, .int .i64 1, 0⟩, ⟨.string ⟨#[116, 117, 101]⟩, .int .i64 2, 1⟩, ⟨.string ⟨#[119, 101, 100]⟩, .int .i64 4, 2⟩, ⟨.string ⟨#[116, 104, 117]⟩, .int .i64 8, 3⟩, ⟨.string ⟨#[102, 114, 105]⟩, .int .i64 16, 4⟩, ⟨.string ⟨#[115, 97, 116]⟩, .int .i64 32, 5⟩] 6) m5
  have b6 := putB_below b5 (Nat.le_refl _) (.map #[⟨.string ⟨#[109, 111, 110]⟩, .int .i64 1, 0⟩, ⟨.string ⟨#[116, 117, 101]⟩, .int .i64 2, 1⟩, ⟨.string ⟨#[119, 101, 100]⟩, .int .i64 4, 2⟩, ⟨.string ⟨#[116, 104, 117]⟩, .int .i64 8, 3⟩, ⟨.string ⟨#[102, 114, 105]⟩, .int .i64 16, 4⟩, ⟨.string ⟨#[115, 97, 116]⟩, .int .i64 32, 5⟩] 6)
  have i7 := ins_new m6 ⟨#[115, 117, 110]⟩ (.int .i64 64) (by rfl)
  have m7 := putB_same (o' := .map #[⟨.string ⟨#[109, 111, 110]⟩, .int .i64 1, 0⟩, ⟨.string ⟨#[116, 117, 101]⟩, .int .i64 2, 1⟩, ⟨.string ⟨#[119, 101, 100]⟩, .int .i64 4, 2⟩, ⟨.string ⟨#[116, 104, 117]⟩, .int .i64 8, 3⟩, ⟨.string ⟨#[102, 114, 105]⟩, .int .i64 16, 4⟩, ⟨.string ⟨#[115, 97, 116]⟩, .int .i64 32, 5⟩, ⟨.string ⟨#[115, 117, 110]⟩, .int .i64 64, 6⟩] 7) m6
  have b7 := putB_below b6 (Nat.le_refl _) (.map #[⟨.string ⟨#[109, 111, 110]⟩, .int .i64 1, 0⟩, ⟨.string ⟨#[116, 117, 101]⟩, .int .i64 2, 1⟩, ⟨.string ⟨#[119, 101, 100]⟩, .int .i64 4, 2⟩, ⟨.string ⟨#[116, 104, 117]⟩, .int .i64 8, 3⟩, ⟨.string ⟨#[102, 114, 105]⟩, .int .i64 16, 4⟩, ⟨.string ⟨#[115, 97, 116]⟩, .int .i64 32, 5⟩, ⟨.string ⟨#[115, 117, 110]⟩, .int .i64 64, 6⟩] 7)
  exact ⟨_, _, _, _, _, _, _, i1, i2, i3, i4, i5, i6, i7, m7, b7⟩
end Go.Proofs.YtfibbmdkpgageaaDoor
