/- What the document's Thing, Factor and Sum come to where something is wrong already: nothing turns. -/
import Derived.Test.YtggcepicghibjacDoorPm18
namespace Go.Proofs.YtggcepicghibjacDoor
open Go.RowKit Lx
variable {all : List Tk} {E g : Nat} {v : Value} {w : World} {i n : Nat} {er at_ : Int}

/-- Some expression is handed back, and nothing has turned. -/
def OutB (all : List Tk) (E g : Nat) (v : Value) (w : World) (i n : Nat) (er at_ : Int) (e : Ending) (w' : World) : Prop :=
  (∃ (a b c : Int) (x : ByteArray) (p : Option Addr) (q r : Nat), e = .returned (.agg #[.int .i64 a, .int .i64 b, .int .i64 c, .string x, .slice p q r])) ∧ WSt all E g v w' i n er at_ ∧ Kept g w w'
theorem WSt.row_set {w' : World} {k : Nat} (h : WSt all E g v w i n er at_) (h0 : WS0 all E g v) {i' n' : Nat} {er' at' : Int} (h' : WSt all E g v w' i' n' er' at') (hk : Kept g w w') (hs : w.heap.size ≤ k) (cs : Array Value) : WSt all E g v (w'.setRow k cs) i' n' er' at' :=
  h.of_kept h0 (hk.setRow hs cs) ((setRow_other _ _ _ _ (by have := lt_of_block h.blk; omega)).trans h'.blk) h'.le

set_option maxRecDepth 100000 in
set_option maxHeartbeats 1000000 in
theorem rthing_bad (h0 : WS0 all E g v) (h : WSt all E g v w i n er at_) (he : er ≠ 0) (d : Int) :
    Calls Tryd.prog 81 #[.pointer (some ⟨g, 0, none⟩), .int .i64 d] w (OutB all E g v w i n er at_) := by
  have hb0 : Below w.heap.size w (w.alloc (.cells #[.int .i64 0, .int .i64 0, .int .i64 0, .string ⟨#[]⟩, .slice none 0 0] 60)) := (Below.refl _ _).alloc (Nat.le_refl _) _
  have hz := zero_new w
  have hA := h.below hb0 h0
  have hkA := Kept.of_below (g := g) hb0
  have cg := good_any hA
  rw [show (er == 0) = false by simpa using he] at cg
  have HF := fun cs => h.row_set h0 hA hkA (Nat.le_refl _) cs
  have hkF := fun cs => hkA.setRow (Nat.le_refl _) cs
  clear h hA hkA he
  generalize hwA : w.alloc (.cells #[.int .i64 0, .int .i64 0, .int .i64 0, .string ⟨#[]⟩, .slice none 0 0] 60) = wA at *
  go_enter Tryd.func81, Tryd.ntmps81
  go_wp2_with fail
  refine cg.mono ?_
  rintro e w1 ⟨rfl, h1⟩
  subst w1
  clear hwA
  go_wp2_with (refine wpList_store_row rfl 60 _ _ rfl _ _ rfl rfl _ _ hz (by kernel_rfl) (by rfl) (by simp [Value.oneCell']) ?_)
  exact ex_ret 4 (by kernel_rfl) w.heap.size _ _ _ _ _ rfl rfl (setRow_heap _ _ _ _ _ _ hz) ⟨⟨_, _, _, _, _, _, _, rfl⟩, HF _, hkF _⟩
set_option maxRecDepth 100000 in
set_option maxHeartbeats 1000000 in
theorem rfactor_bad (h0 : WS0 all E g v) (h : WSt all E g v w i n er at_) (he : er ≠ 0) (d : Int) :
    Calls Tryd.prog 54 #[.pointer (some ⟨g, 0, none⟩), .int .i64 d] w (OutB all E g v w i n er at_) := by
  have hgl := lt_of_block h.blk
  have hb0 : Below w.heap.size w (w.alloc (.cells #[.int .i64 0, .int .i64 0, .int .i64 0, .string ⟨#[]⟩, .slice none 0 0] 60)) := (Below.refl _ _).alloc (Nat.le_refl _) _
  have hz := zero_new w
  have hA := h.below hb0 h0
  have hkA := Kept.of_below (g := g) hb0
  have c1 := rthing_bad h0 hA he d
  have c2 := fun (w1 : World) (h1 : WSt all E g v w1 i n er at_) => on_any h0 h1 2 wShift
  have hon : onB all i er 2 wShift = false := by
    unfold onB
    rw [show (er == 0) = false by simpa using he]; rfl
  simp only [hon] at c2
  clear hon he
  generalize hwA : w.alloc (.cells #[.int .i64 0, .int .i64 0, .int .i64 0, .string ⟨#[]⟩, .slice none 0 0] 60) = wA at *
  go_enter Tryd.func54, Tryd.ntmps54
  go_wp2_with fail
  refine c1.mono ?_
  rintro e w1 ⟨⟨a, b, c, x, p, q, r, rfl⟩, h1, hk1⟩
  have hz1 := hk1.at hz (by omega)
  have hb2 : Below w1.heap.size w1 (w1.alloc (.cells #[.int .i64 a, .int .i64 b, .int .i64 c, .string x, .slice p q r] 60)) := (Below.refl _ _).alloc (Nat.le_refl _) _
  have h2 := h1.below hb2 h0
  have hx2 := heap_alloc_new w1 (.cells #[.int .i64 a, .int .i64 b, .int .i64 c, .string x, .slice p q r] 60)
  have hz2 := (hb2.block _ (lt_of_block hz1)).trans hz1
  have hkw2 := (hkA.trans hk1).trans (Kept.of_below hb2)
  have hsz := hk1.size
  clear c1 h1 hk1 hz1 hb2 hA hkA hb0 hwA hz
  generalize hw2 : w1.alloc (.cells #[.int .i64 a, .int .i64 b, .int .i64 c, .string x, .slice p q r] 60) = w2 at *
  go_wp2_with fail
  clear hw2
  refine wp_loop_rounds 1 ?_
  rw [rounds_succ]
  go_wp2_with fail
  refine (c2 _ h2).mono ?_
  rintro e w3 ⟨rfl, hb3⟩
  have h3 := h2.below hb3 h0
  have hx3 := (hb3.block _ (lt_of_block hx2)).trans hx2
  have hz3 := (hb3.block _ (lt_of_block hz2)).trans hz2
  have hkw3 := hkw2.trans (Kept.of_below hb3)
  have HF := fun cs => h.row_set h0 h3 hkw3 (Nat.le_refl _) cs
  have hkF := fun cs => hkw3.setRow (Nat.le_refl _) cs
  clear c2 h h2 h3 hkw2 hkw3 hx2 hz2 hb3
  go_wp2_with (first
    | (refine wpList_load_row rfl 60 _ rfl _ rfl _ _ _ _ hx3 exprType rfl (by kernel_rfl) ?_)
    | (refine wpList_store_row rfl 60 _ _ rfl _ _ rfl rfl _ _ hz3 (by kernel_rfl) (by rfl) (by simp [Value.oneCell']) ?_))
  exact ex_ret 4 (by kernel_rfl) w.heap.size _ _ _ _ _ rfl rfl (setRow_heap _ _ _ _ _ _ hz3) ⟨⟨_, _, _, _, _, _, _, rfl⟩, HF _, hkF _⟩
set_option maxRecDepth 100000 in
set_option maxHeartbeats 1000000 in
theorem rsum2_bad (h0 : WS0 all E g v) (h : WSt all E g v w i n er at_) (he : er ≠ 0) (d : Int) :
    Calls Tryd.prog 28 #[.pointer (some ⟨g, 0, none⟩), .int .i64 2, .int .i64 d] w (OutB all E g v w i n er at_) := by
  have hgl := lt_of_block h.blk
  have hb0 : Below w.heap.size w (w.alloc (.cells #[.int .i64 0, .int .i64 0, .int .i64 0, .string ⟨#[]⟩, .slice none 0 0] 60)) := (Below.refl _ _).alloc (Nat.le_refl _) _
  have hz := zero_new w
  have hA := h.below hb0 h0
  have hkA := Kept.of_below (g := g) hb0
  have c1 := rfactor_bad h0 hA he d
  clear he
  generalize hwA : w.alloc (.cells #[.int .i64 0, .int .i64 0, .int .i64 0, .string ⟨#[]⟩, .slice none 0 0] 60) = wA at *
  go_enter Tryd.func28, Tryd.ntmps28
  go_wp2_with fail
  refine c1.mono ?_
  rintro e w1 ⟨⟨a, b, c, x, p, q, r, rfl⟩, h1, hk1⟩
  have hz1 := hk1.at hz (by omega)
  have hkw1 := hkA.trans hk1
  have HF := fun cs => h.row_set h0 h1 hkw1 (Nat.le_refl _) cs
  have hkF := fun cs => hkw1.setRow (Nat.le_refl _) cs
  clear c1 h h1 hk1 hkw1 hA hkA hb0 hwA hz
  go_wp2_with (refine wpList_store_row rfl 60 _ _ rfl _ _ rfl rfl _ _ hz1 (by kernel_rfl) (by rfl) (by simp [Value.oneCell']) ?_)
  exact ex_ret 6 (by kernel_rfl) w.heap.size _ _ _ _ _ rfl rfl (setRow_heap _ _ _ _ _ _ hz1) ⟨⟨_, _, _, _, _, _, _, rfl⟩, HF _, hkF _⟩
set_option maxRecDepth 100000 in
set_option maxHeartbeats 1000000 in
theorem rsum_badStep (h0 : WS0 all E g v) (h : WSt all E g v w i n er at_) (he : er ≠ 0) (d hd : Int) (hh : hd = 0 ∨ hd = 1)
    (ih : ∀ w, WSt all E g v w i n er at_ → Calls Tryd.prog 28 #[.pointer (some ⟨g, 0, none⟩), .int .i64 (hd + 1), .int .i64 d] w (OutB all E g v w i n er at_)) :
    Calls Tryd.prog 28 #[.pointer (some ⟨g, 0, none⟩), .int .i64 hd, .int .i64 d] w (OutB all E g v w i n er at_) := by
  have hgl := lt_of_block h.blk
  have hb0 : Below w.heap.size w (w.alloc (.cells #[.int .i64 0, .int .i64 0, .int .i64 0, .string ⟨#[]⟩, .slice none 0 0] 60)) := (Below.refl _ _).alloc (Nat.le_refl _) _
  have hz := zero_new w
  have hA := h.below hb0 h0
  have hkA := Kept.of_below (g := g) hb0
  have c1 := ih _ hA
  have c2 := fun (w1 : World) (h1 : WSt all E g v w1 i n er at_) => good_any h1
  simp only [show (er == 0) = false by simpa using he] at c2
  have h2 : (hd == 2) = false := beq_eq_false_iff_ne.2 (by omega)
  have hd1 : 0 ≤ hd := by omega
  have hd2 : hd ≤ 1 := by omega
  clear he ih hh
  generalize hwA : w.alloc (.cells #[.int .i64 0, .int .i64 0, .int .i64 0, .string ⟨#[]⟩, .slice none 0 0] 60) = wA at *
  go_enter Tryd.func28, Tryd.ntmps28
  go_wp2_with fail
  refine c1.mono ?_
  rintro e w1 ⟨⟨a, b, c, x, p, q, r, rfl⟩, h1, hk1⟩
  have hz1 := hk1.at hz (by omega)
  have hb2 : Below w1.heap.size w1 (w1.alloc (.cells #[.int .i64 a, .int .i64 b, .int .i64 c, .string x, .slice p q r] 60)) := (Below.refl _ _).alloc (Nat.le_refl _) _
  have h2' := h1.below hb2 h0
  have hx2 := heap_alloc_new w1 (.cells #[.int .i64 a, .int .i64 b, .int .i64 c, .string x, .slice p q r] 60)
  have hz2 := (hb2.block _ (lt_of_block hz1)).trans hz1
  have hkw2 := (hkA.trans hk1).trans (Kept.of_below hb2)
  clear c1 h1 hk1 hz1 hb2 hA hkA hb0 hwA hz
  generalize hw2 : w1.alloc (.cells #[.int .i64 a, .int .i64 b, .int .i64 c, .string x, .slice p q r] 60) = w2 at *
  go_wp2_with fail
  clear hw2
  refine wp_loop_rounds 1 ?_
  rw [rounds_succ]
  go_wp2_with fail
  refine (c2 _ h2').mono ?_
  rintro e w3 ⟨rfl, hw3⟩
  subst w3
  have HF := fun cs => h.row_set h0 h2' hkw2 (Nat.le_refl _) cs
  have hkF := fun cs => hkw2.setRow (Nat.le_refl _) cs
  clear c2 h h2' hkw2
  go_wp2_with (first
    | (refine wpList_load_row rfl 60 _ rfl _ rfl _ _ _ _ hx2 exprType rfl (by kernel_rfl) ?_)
    | (refine wpList_store_row rfl 60 _ _ rfl _ _ rfl rfl _ _ hz2 (by kernel_rfl) (by rfl) (by simp [Value.oneCell']) ?_))
  exact ex_ret 6 (by kernel_rfl) w.heap.size _ _ _ _ _ rfl rfl (setRow_heap _ _ _ _ _ _ hz2) ⟨⟨_, _, _, _, _, _, _, rfl⟩, HF _, hkF _⟩
theorem rsum1_bad (h0 : WS0 all E g v) (h : WSt all E g v w i n er at_) (he : er ≠ 0) (d : Int) :
    Calls Tryd.prog 28 #[.pointer (some ⟨g, 0, none⟩), .int .i64 1, .int .i64 d] w (OutB all E g v w i n er at_) := rsum_badStep h0 h he d 1 (.inr rfl) (fun _ h1 => rsum2_bad h0 h1 he d)
theorem rsum0_bad (h0 : WS0 all E g v) (h : WSt all E g v w i n er at_) (he : er ≠ 0) (d : Int) :
    Calls Tryd.prog 28 #[.pointer (some ⟨g, 0, none⟩), .int .i64 0, .int .i64 d] w (OutB all E g v w i n er at_) := rsum_badStep h0 h he d 0 (.inl rfl) (fun _ h1 => rsum1_bad h0 h1 he d)
end Go.Proofs.YtggcepicghibjacDoor

/- What the document's reader meets, in the plain reader's words. -/
namespace Go.Proofs.YtggcepicghibjacDoor
open Go.RowKit Lx
variable {all : List Tk} {E g : Nat} {v : Value} {w : World} {i n : Nat} {er at_ : Int}

theorem head_ok (h0 : WS0 all E g v) (i : Nat) : (textP (all.drop i) ∈ signW → kindP (all.drop i) = 3) ∧ (textP (all.drop i) ∈ wordsL → kindP (all.drop i) = 2) := by
  cases h : all.drop i with
  | nil => exact ⟨fun h => absurd h (by decide), fun h => absurd h (by decide)⟩
  | cons p r =>
    have hm : p ∈ all := List.mem_of_mem_drop (h ▸ List.mem_cons_self)
    exact h0.kind p hm
theorem on_sign (h0 : WS0 all E g v) {x : List UInt8} (hx : x ∈ signW) (i : Nat) : onB all i 0 3 x = isT x (all.drop i) := by
  unfold onB
  cases hT : isT x (all.drop i) with
  | false => simp
  | true =>
    have e : textP (all.drop i) = x := by simpa [isT] using hT
    have := (head_ok h0 i).1 (by rw [e]; exact hx)
    rw [this]; rfl
theorem on_word (h0 : WS0 all E g v) {x : List UInt8} (hx : x ∈ wordsL) (i : Nat) : onB all i 0 2 x = isT x (all.drop i) := by
  unfold onB
  cases hT : isT x (all.drop i) with
  | false => simp
  | true =>
    have e : textP (all.drop i) = x := by simpa [isT] using hT
    have := (head_ok h0 i).2 (by rw [e]; exact hx)
    rw [this]; rfl
/-- A contract of the document's reader, at a place. -/
def RW (all : List Tk) (E g : Nat) (v : Value) (f : FuncId) (m i : Nat) : Prop := ∀ (w : World) (n d : Nat), WSt all E g v w i n 0 0 → n ≤ 600 → d ≤ 41 →
  Calls Tryd.prog f #[.pointer (some ⟨g, 0, none⟩), .int .i64 (d : Int)] w (OutW all E g v w (fun k => w.heap.size ≤ k) (rd E m d ex0 (all.drop i) n))
/-- The same, said from an earlier world. -/
theorem OutW.weak {B B' : Nat → Prop} {x : Res} {e : Ending} {w0 w' : World} (hk : Kept g w0 w) (hB : ∀ k, B k → B' k) (h : OutW all E g v w B x e w') : OutW all E g v w0 B' x e w' := by
  unfold OutW at h ⊢
  match x, h with
  | .error (er, at_), h => exact ⟨h.1, h.2.1, h.2.2.1, hk.trans h.2.2.2⟩
  | .ok (ex, r, n), h =>
    obtain ⟨i, sl, d, a, b, c, d', f, k⟩ := h
    exact ⟨i, sl, d, a, b, c.mono hB, d', f, hk.trans k⟩

theorem Kept.setAt {w' : World} {k : Nat} (h : Kept g w w') (hk : w.heap.size ≤ k) (j : Nat) (u : Value) : Kept g w (w'.setCell ⟨k, j, none⟩ u) :=
  ⟨h.os, h.tape, h.output, by simpa using h.size, fun m hm hne => (heap_setCell_other w' ⟨k, j, none⟩ m u (by show m ≠ k; omega)).trans (h.block m hm hne)⟩
/-- The call's end: what was handed back is laid in the result's own variable. -/
theorem outW_split {w4 w5 : World} {X : Res} {e : Ending} {z : Nat} {o : Obj} {B : Nat → Prop} (h : WSt all E g v w i n er at_) (h0 : WS0 all E g v) (hk4 : Kept g w w4) (hz4 : w4.heap[z]? = some o) (hzs : w.heap.size ≤ z) (hB : ∀ k, B k → w.heap.size ≤ k ∧ k ≠ z)
    (ho : OutW all E g v w4 B X e w5) :
    ∃ (a b c : Int) (x : ByteArray) (p : Option Addr) (q r : Nat), e = .returned (.agg #[.int .i64 a, .int .i64 b, .int .i64 c, .string x, .slice p q r]) ∧ w5.heap[z]? = some o ∧ ∀ cs, OutW all E g v w (fun k => w.heap.size ≤ k) X e (w5.setRow z cs) := by
  have hgl := lt_of_block h.blk
  cases hx : X with
  | error q =>
    obtain ⟨er', at'⟩ := q
    rw [hx] at ho
    obtain ⟨hne, ⟨a, b, c, x, p, q, r, rfl⟩, ⟨i5, n5, h5⟩, hk5⟩ := ho
    exact ⟨a, b, c, x, p, q, r, rfl, hk5.at hz4 (by omega), fun cs => ⟨hne, ⟨_, _, _, _, _, _, _, rfl⟩, ⟨i5, n5, h.row_set h0 h5 (hk4.trans hk5) hzs cs⟩, (hk4.trans hk5).setRow hzs cs⟩⟩
  | ok q =>
    obtain ⟨ex, rr, nn⟩ := q
    rw [hx] at ho
    obtain ⟨i', sl, dd, hr', rfl, hkd, h5, hn5, hk5⟩ := ho
    obtain ⟨p5, c5, rfl⟩ := hkd.form
    refine ⟨_, _, _, _, p5, ex.kids.length, c5, rfl, hk5.at hz4 (by omega), fun cs => ?_⟩
    refine ⟨i', _, dd, hr', rfl, ?_, h.row_set h0 h5 (hk4.trans hk5) hzs cs, hn5, (hk4.trans hk5).setRow hzs cs⟩
    exact (hkd.kept fun k hk _ => setRow_other _ _ _ _ (hB k hk).2).mono fun k hk => (hB k hk).1
end Go.Proofs.YtggcepicghibjacDoor

/- What the document's guard comes to, where its Factor comes to what it should. -/
namespace Go.Proofs.YtggcepicghibjacDoor
open Go.RowKit Lx
variable {all : List Tk} {E g : Nat} {v : Value} {w : World} {i n : Nat} {er at_ : Int}

set_option maxRecDepth 100000 in
set_option maxHeartbeats 4000000 in
theorem guard_any (h0 : WS0 all E g v) (h : WSt all E g v w i n 0 0) (hn6 : n ≤ 600) (d : Nat) (hd : d ≤ 40) (KD A Bv : Int) (hF : RW all E g v 54 4 (i + 1)) :
    Calls Tryd.prog 103 #[.pointer (some ⟨g, 0, none⟩), .agg #[.int .i64 KD, .int .i64 A, .int .i64 Bv, .string ⟨#[]⟩, .slice none 0 0], .int .i64 (d : Int)] w (OutW all E g v w (fun k => w.heap.size ≤ k) (rd E 8 d ⟨KD, A, Bv, [], []⟩ (all.drop i) n)) := by
  have hgl := lt_of_block h.blk
  have hb1 := (Below.refl w.heap.size w).alloc (Nat.le_refl _) (.cells #[.int .i64 KD, .int .i64 A, .int .i64 Bv, .string ⟨#[]⟩, .slice none 0 0] 60)
  have hb2 := hb1.alloc hb1.size (.cells #[.int .i64 0, .int .i64 0, .int .i64 0, .string ⟨#[]⟩, .slice none 0 0] 60)
  have hx1 := heap_alloc_new w (.cells #[.int .i64 KD, .int .i64 A, .int .i64 Bv, .string ⟨#[]⟩, .slice none 0 0] 60)
  have hx2 := (Below.heap_alloc _ (.cells #[.int .i64 0, .int .i64 0, .int .i64 0, .string ⟨#[]⟩, .slice none 0 0] 60) _ (lt_of_block hx1)).trans hx1
  have hz2 : ((w.alloc (.cells #[.int .i64 KD, .int .i64 A, .int .i64 Bv, .string ⟨#[]⟩, .slice none 0 0] 60)).alloc (.cells #[.int .i64 0, .int .i64 0, .int .i64 0, .string ⟨#[]⟩, .slice none 0 0] 60)).heap[w.heap.size + 1]? = some (.cells ex0C 60 (0, 0)) := by
    have := heap_alloc_new (w.alloc (.cells #[.int .i64 KD, .int .i64 A, .int .i64 Bv, .string ⟨#[]⟩, .slice none 0 0] 60)) (.cells #[.int .i64 0, .int .i64 0, .int .i64 0, .string ⟨#[]⟩, .slice none 0 0] 60)
    rw [show (w.alloc (.cells #[.int .i64 KD, .int .i64 A, .int .i64 Bv, .string ⟨#[]⟩, .slice none 0 0] 60)).heap.size = w.heap.size + 1 by simp] at this
    exact this
  have hA := h.below hb2 h0
  have hkA := Kept.of_below (g := g) hb2
  clear hx1 hb1
  generalize hwA : (w.alloc (.cells #[.int .i64 KD, .int .i64 A, .int .i64 Bv, .string ⟨#[]⟩, .slice none 0 0] 60)).alloc (.cells #[.int .i64 0, .int .i64 0, .int .i64 0, .string ⟨#[]⟩, .slice none 0 0] 60) = wA at *
  have hlz := lt_of_block hz2
  have hd' : (d : Int) ≤ 40 := by omega
  have hd0 : (0 : Int) ≤ (d : Int) := by omega
  generalize hX : rd E 8 d ⟨KD, A, Bv, [], []⟩ (all.drop i) n = X
  rw [rd_8, tail_drop] at hX
  have hon := on_sign h0 (x := wColon) (by decide) i
  by_cases hc : isT wColon (all.drop i) = true
  · rw [if_pos hc] at hX
    rw [hc] at hon
    have c1 := need_yes h0 hA wColon (by decide) hon
    have c2 : ∀ (w1 : World), WSt all E g v w1 (i + 1) n 0 0 → Calls Tryd.prog 54 #[.pointer (some ⟨g, 0, none⟩), .int .i64 ((d : Int) + 1)] w1 (OutW all E g v w1 (fun k => w1.heap.size ≤ k) (rd E 4 (d + 1) ex0 (all.drop (i + 1)) n)) := fun w1 h1 => hF w1 n (d + 1) h1 hn6 (by omega)
    have HX : Hid (andThen (rd E 4 (d + 1) ex0 (all.drop (i + 1)) n) (fun k r n => endedP E ⟨KD, A, Bv, [], [k]⟩ r n) = X) := hX
    clear hX hc hon
    go_enter Tryd.func103, Tryd.ntmps103
    go_wp2_with fail
    refine c1.mono ?_
    rintro e w1 ⟨rfl, h1, hk1⟩
    clear hwA
    go_wp2_with fail
    refine (c2 _ h1).mono ?_
    intro e w3 ho
    clear c1 c2
    cases hx : rd E 4 (d + 1) ex0 (all.drop (i + 1)) n with
    | error q =>
      obtain ⟨er, at'⟩ := q
      have hXX := HX.out
      rw [hx] at ho hXX
      obtain ⟨hne, ⟨a, b, c, x, p, q, r, rfl⟩, ⟨i3, n3, h3⟩, hk3⟩ := ho
      have hb4 : Below w3.heap.size w3 (w3.alloc (.cells #[.int .i64 a, .int .i64 b, .int .i64 c, .string x, .slice p q r] 60)) := (Below.refl _ _).alloc (Nat.le_refl _) _
      have h4 := h3.below hb4 h0
      have hk14 := (hk1.trans hk3).trans (Kept.of_below hb4)
      have hx4 := hk14.at hx2 (by omega)
      have hz4 := hk14.at hz2 (by omega)
      have hkw4 := hkA.trans hk14
      have cg := good_any h4
      rw [show (er == 0) = false by simpa using hne] at cg
      have HF := fun cs => h.row_set (k := w.heap.size + 1) h0 h4 hkw4 (by omega) cs
      have hkF := fun cs => hkw4.setRow (k := w.heap.size + 1) (by omega) cs
      have HE : Hid (er ≠ 0) := hne
      have HX2 : Hid (X = .error (er, at')) := hXX.symm
      clear h h1 h3 h4 hk1 hk3 hb4 hk14 hkw4 hx HX hXX hne hx2 hz2 hA hkA hb2
      generalize hw4 : w3.alloc (.cells #[.int .i64 a, .int .i64 b, .int .i64 c, .string x, .slice p q r] 60) = w4 at *
      go_wp2_with fail
      refine cg.mono ?_
      rintro e w5 ⟨rfl, hw5⟩
      subst w5
      clear hw4
      go_wp2_with (first
        | (refine wpList_load_row rfl 60 _ rfl _ rfl _ _ _ _ hx4 exprType rfl (by kernel_rfl) ?_)
        | (refine wpList_store_row rfl 60 _ _ rfl _ _ rfl rfl _ _ hz4 (by kernel_rfl) (by rfl) (by simp [Value.oneCell']) ?_))
      exact ex_ret 6 (by kernel_rfl) (w.heap.size + 1) _ _ _ _ _ rfl rfl (setRow_heap _ _ _ _ _ _ hz4) (by rw [HX2.out]; exact ⟨HE.out, ⟨_, _, _, _, _, _, _, rfl⟩, ⟨i3, n3, HF _⟩, hkF _⟩)
    | ok q =>
      obtain ⟨ex, rr, nn⟩ := q
      have hXX := HX.out
      rw [hx] at ho hXX
      obtain ⟨i3, sl, dd, hr', rfl, hkd, h3, hn3, hk3⟩ := ho
      subst hr'
      obtain ⟨p3, q3, rfl⟩ := hkd.form
      have hs1 := hk1.size
      have hs3 := hk3.size
      have hb4 : Below w3.heap.size w3 (w3.alloc (.cells #[.int .i64 ex.kind, .int .i64 ex.a, .int .i64 ex.b, .string ⟨ex.name.toArray⟩, .slice p3 ex.kids.length q3] 60)) := (Below.refl _ _).alloc (Nat.le_refl _) _
      have hn4 := heap_alloc_new w3 (.cells #[.int .i64 ex.kind, .int .i64 ex.a, .int .i64 ex.b, .string ⟨ex.name.toArray⟩, .slice p3 ex.kids.length q3] 60)
      have h4 := h3.below hb4 h0
      have hk14 := (hk1.trans hk3).trans (Kept.of_below hb4)
      have hx4 := hk14.at hx2 (by omega)
      have hz4 := hk14.at hz2 (by omega)
      have hkw4 := hkA.trans hk14
      have cg := good_any h4
      have hkd4 := (Kept.of_below (g := g) hb4).kids (B := fun k => w.heap.size + 2 ≤ k) (fun k hk => by omega) (hkd.mono fun k hk => by omega)
      have hs4 := hb4.size
      unfold exV
      clear h1 h3 hk1 hk3 hb4 hk14 hx HX hx2 hz2 hA hkA hb2 hkd
      generalize hw4 : w3.alloc (.cells #[.int .i64 ex.kind, .int .i64 ex.a, .int .i64 ex.b, .string ⟨ex.name.toArray⟩, .slice p3 ex.kids.length q3] 60) = w4 at *
      have HX : Hid (andThen (.ok (ex, all.drop i3, nn)) (fun k r n => endedP E ⟨KD, A, Bv, [], [k]⟩ r n) = X) := hXX
      clear hXX
      go_wp2_with fail
      refine cg.mono ?_
      rintro e w5 ⟨rfl, hw5⟩
      subst w5
      clear hw4
      have hb5 : Below w4.heap.size w4 (w4.alloc (.cells #[.int .i64 ex.kind, .int .i64 ex.a, .int .i64 ex.b, .string ⟨ex.name.toArray⟩, .slice p3 ex.kids.length q3] 60)) := (Below.refl _ _).alloc (Nat.le_refl _) _
      have kk := kids_one (B := fun k => w.heap.size + 2 ≤ k) (by show w.heap.size + 2 ≤ w4.heap.size; omega) (heap_alloc_new w4 (.cells #[.int .i64 ex.kind, .int .i64 ex.a, .int .i64 ex.b, .string ⟨ex.name.toArray⟩, .slice p3 ex.kids.length q3] 60)) ((Kept.of_below (g := g) hb5).kids (fun k hk => by omega) hkd4)
      have h5 := h4.below hb5 h0
      have hx5 := (hb5.block _ (lt_of_block hx4)).trans hx4
      have hz5 := (hb5.block _ (lt_of_block hz4)).trans hz4
      have hkw5 := hkw4.trans (Kept.of_below hb5)
      have k4 := (cell_of_row _ _ 4 _ _ _ hx5).trans rfl
      have y4 := frozen_of_row _ _ 4 _ _ hx5
      have hx6 : ((w4.alloc (.cells #[.int .i64 ex.kind, .int .i64 ex.a, .int .i64 ex.b, .string ⟨ex.name.toArray⟩, .slice p3 ex.kids.length q3] 60)).setCell ⟨w.heap.size, 4, none⟩ (.slice (some ⟨w4.heap.size, 0, none⟩) 1 1)).heap[w.heap.size]? = some (.cells #[.int .i64 KD, .int .i64 A, .int .i64 Bv, .string ⟨#[]⟩, .slice (some ⟨w4.heap.size, 0, none⟩) 1 1] 60 (0, 0)) := heap_setCell_same _ _ 4 _ _ _ hx5
      have hz6 := (heap_setCell_other _ ⟨w.heap.size, 4, none⟩ (w.heap.size + 1) (.slice (some ⟨w4.heap.size, 0, none⟩) 1 1) (by show w.heap.size + 1 ≠ w.heap.size; omega)).trans hz5
      have hkw6 := hkw5.setAt (Nat.le_refl _) 4 (.slice (some ⟨w4.heap.size, 0, none⟩) 1 1)
      have h6 : WSt all E g v _ i3 nn 0 0 := h.of_kept h0 hkw6 ((heap_setCell_other _ ⟨w.heap.size, 4, none⟩ g (.slice (some ⟨w4.heap.size, 0, none⟩) 1 1) (by show g ≠ w.heap.size; omega)).trans h5.blk) h5.le
      have kk6 := kk.kept (w' := (w4.alloc (.cells #[.int .i64 ex.kind, .int .i64 ex.a, .int .i64 ex.b, .string ⟨ex.name.toArray⟩, .slice p3 ex.kids.length q3] 60)).setCell ⟨w.heap.size, 4, none⟩ (.slice (some ⟨w4.heap.size, 0, none⟩) 1 1)) fun k hk _ => heap_setCell_other _ ⟨w.heap.size, 4, none⟩ k _ (by show k ≠ w.heap.size; omega)
      have c6 := made_any h0 h6 hn3 (fun k => w.heap.size + 2 ≤ k) (fun k hk => by omega) ⟨KD, A, Bv, [], [ex]⟩ _ _ kk6
      unfold exV at c6
      clear kk kk6 h5 h6 hx5 hb5 hkw5 hkd4 h4 hx4 hz4 hz5 hkw4
      generalize hw5 : w4.alloc (.cells #[.int .i64 ex.kind, .int .i64 ex.a, .int .i64 ex.b, .string ⟨ex.name.toArray⟩, .slice p3 ex.kids.length q3] 60) = w5 at *
      go_wp2_with (first
        | (refine wpList_load_row rfl 60 _ rfl _ rfl _ _ _ _ hn4 exprType rfl (by kernel_rfl) ?_)
        | (refine wpList_load_row rfl 60 _ rfl _ rfl _ _ _ _ hx6 exprType rfl (by kernel_rfl) ?_))
      refine c6.mono ?_
      intro e w7 ho
      obtain ⟨a, b, c, x, p, q, r, rfl, hz7, HO⟩ := outW_split h h0 hkw6 hz6 (by omega) (fun k hk => ⟨by omega, by omega⟩) ho
      have HX2 : Hid (endedP E ⟨KD, A, Bv, [], [ex]⟩ (all.drop i3) nn = X) := HX.out
      clear ho c6 hx6 hz6 hkw6 k4 y4 hw5 HX h
      go_wp2_with (refine wpList_store_row rfl 60 _ _ rfl _ _ rfl rfl _ _ hz7 (by kernel_rfl) (by rfl) (by simp [Value.oneCell']) ?_)
      exact ex_ret 6 (by kernel_rfl) (w.heap.size + 1) _ _ _ _ _ rfl rfl (setRow_heap _ _ _ _ _ _ hz7) (by rw [← HX2.out]; exact HO _)
  · have hc' : isT wColon (all.drop i) = false := by simpa using hc
    rw [if_neg hc] at hX
    rw [hc'] at hon
    have c1 := need_no h0 hA wColon hon
    have c2 := fun (w1 : World) (h1 : WSt all E g v w1 i n 2 (atP E (all.drop i))) => rfactor_bad h0 h1 (by decide) ((d : Int) + 1)
    have HX : Hid (X = .error (2, atP E (all.drop i))) := hX.symm
    clear hX hc hc' hon
    generalize atP E (all.drop i) = t2 at *
    go_enter Tryd.func103, Tryd.ntmps103
    go_wp2_with fail
    refine c1.mono ?_
    rintro e w1 ⟨rfl, h1, hk1⟩
    clear hwA
    go_wp2_with fail
    refine (c2 _ h1).mono ?_
    rintro e w3 ⟨⟨a, b, c, x, p, q, r, rfl⟩, h3, hk3⟩
    have hb4 : Below w3.heap.size w3 (w3.alloc (.cells #[.int .i64 a, .int .i64 b, .int .i64 c, .string x, .slice p q r] 60)) := (Below.refl _ _).alloc (Nat.le_refl _) _
    have h4 := h3.below hb4 h0
    have hk14 := (hk1.trans hk3).trans (Kept.of_below hb4)
    have hx4 := hk14.at hx2 (by omega)
    have hz4 := hk14.at hz2 (by omega)
    have hkw4 := hkA.trans hk14
    have cg := good_any h4
    rw [show ((2 : Int) == 0) = false by rfl] at cg
    have HF := fun cs => h.row_set (k := w.heap.size + 1) h0 h4 hkw4 (by omega) cs
    have hkF := fun cs => hkw4.setRow (k := w.heap.size + 1) (by omega) cs
    clear c1 c2 h h1 h3 h4 hk1 hk3 hb4 hk14 hkw4 hx2 hz2 hA hkA hb2
    generalize hw4 : w3.alloc (.cells #[.int .i64 a, .int .i64 b, .int .i64 c, .string x, .slice p q r] 60) = w4 at *
    go_wp2_with fail
    refine cg.mono ?_
    rintro e w5 ⟨rfl, hw5⟩
    subst w5
    clear hw4
    go_wp2_with (first
      | (refine wpList_load_row rfl 60 _ rfl _ rfl _ _ _ _ hx4 exprType rfl (by kernel_rfl) ?_)
      | (refine wpList_store_row rfl 60 _ _ rfl _ _ rfl rfl _ _ hz4 (by kernel_rfl) (by rfl) (by simp [Value.oneCell']) ?_))
    exact ex_ret 6 (by kernel_rfl) (w.heap.size + 1) _ _ _ _ _ rfl rfl (setRow_heap _ _ _ _ _ _ hz4) (by rw [HX.out]; exact ⟨by decide, ⟨_, _, _, _, _, _, _, rfl⟩, ⟨i, n, HF _⟩, hkF _⟩)
end Go.Proofs.YtggcepicghibjacDoor
