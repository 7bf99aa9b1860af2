/- What take, takeFrom and ended come to. -/
import Derived.Test.YtgfjbcdjpkcbkaaGreatDoorDu07
namespace Go.Proofs.YtgfjbcdjpkcbkaaGreatDoor
open Go.RowKit Lx
variable {all : List Tk} {E g : Nat} {v : Value} {w : World} {i n : Nat}
theorem Kept.setRow {w' : World} {k : Nat} (h : Kept g w w') (hk : w.heap.size ≤ k) (cs : Array Value) : Kept g w (w'.setRow k cs) :=
  ⟨h.os, h.tape, h.output, by simpa [World.setRow] using h.size, fun j hj hne => (setRow_other w' k j cs (by omega)).trans (h.block j hj hne)⟩
theorem Kept.alloc {w' : World} (h : Kept g w w') (o : Obj) : Kept g w (w'.alloc o) := h.trans (Kept.of_below ((Below.refl _ _).alloc (Nat.le_refl _) o))
theorem kind_len {all : List Tk} {i : Nat} (h : kindP (all.drop i) ≠ 0) : i + 1 ≤ all.length := by
  have := kindP_cons h
  simp at this; omega
set_option maxRecDepth 100000 in
set_option maxHeartbeats 1000000 in
theorem take_yes (h0 : PS0 all E g v) (h : PSt all E g v w i n) (kd : Int) (hkd : kd ≠ 0) (hk : kindP (all.drop i) = kd) :
    Calls Tryz.prog 75 #[.pointer (some ⟨g, 0, none⟩), .int .i64 kd] w fun e w' => e = .returned (tokV E (all.drop i)) ∧ PSt all E g v w' (i + 1) n ∧ Kept g w w' := by
  have hgl := lt_of_block h.blk
  have hlen := h0.len
  have hi : i + 1 ≤ all.length := kind_len (by rw [hk]; exact hkd)
  have hb0 : Below w.heap.size w (w.alloc (.cells #[.int .i64 0, .int .i64 0, .int .i64 0, .string ⟨#[]⟩] 101)) := (Below.refl _ _).alloc (Nat.le_refl _) _
  have hn := heap_alloc_new w (.cells #[.int .i64 0, .int .i64 0, .int .i64 0, .string ⟨#[]⟩] 101)
  have hA := h.below hb0 h0
  have c := see_yes h0 hA kd hk
  unfold tokV at c ⊢
  clear hk hkd
  generalize kindP (all.drop i) = t0 at *
  generalize numP (all.drop i) = t1 at *
  generalize (atP E (all.drop i) : Int) = t2 at *
  generalize (⟨(textP (all.drop i)).toArray⟩ : ByteArray) = t3 at *
  generalize hw1 : w.alloc (.cells #[.int .i64 0, .int .i64 0, .int .i64 0, .string ⟨#[]⟩] 101) = wA at *
  go_enter Tryz.func75, Tryz.ntmps75
  go_wp2_with fail
  refine c.mono ?_
  rintro e w1 ⟨rfl, h1, hb1⟩
  have hn1 := (hb1.block _ (lt_of_block hn)).trans hn
  have hbw1 := hb0.trans (hb1.mono hb0.size)
  have hws := lt_of_block hn1
  have hb2 : Below w1.heap.size w1 (w1.alloc (.cells #[.int .i64 t0, .int .i64 t1, .int .i64 t2, .string t3] 101)) := (Below.refl _ _).alloc (Nat.le_refl _) _
  have h2 := h1.below hb2 h0
  have hx2 := heap_alloc_new w1 (.cells #[.int .i64 t0, .int .i64 t1, .int .i64 t2, .string t3] 101)
  have hn2 := (hb2.block _ (lt_of_block hn1)).trans hn1
  have hk2 : Kept g w (w1.alloc (.cells #[.int .i64 t0, .int .i64 t1, .int .i64 t2, .string t3] 101)) := (Kept.of_below hbw1).alloc _
  clear c hA hb1 hw1 hn hb0 hbw1 hn1 h1 hb2
  generalize hw2 : w1.alloc (.cells #[.int .i64 t0, .int .i64 t1, .int .i64 t2, .string t3] 101) = w2 at *
  have k1 := (cell_of_row _ _ 1 _ _ _ h2.blk).trans rfl
  have y1 := frozen_of_row _ _ 1 _ _ h2.blk
  have h3 := h2.set h0 hi
  have hk3 := hk2.trans (Kept.set w2 g 1 (.int .i64 ((i + 1 : Nat) : Int)))
  have hx3 := (heap_setCell_other w2 ⟨g, 1, none⟩ w1.heap.size (.int .i64 ((i + 1 : Nat) : Int)) (by show w1.heap.size ≠ g; omega)).trans hx2
  have hn3 := (heap_setCell_other w2 ⟨g, 1, none⟩ w.heap.size (.int .i64 ((i + 1 : Nat) : Int)) (by show w.heap.size ≠ g; omega)).trans hn2
  have ei : (i : Int) + 1 = ((i + 1 : Nat) : Int) := by omega
  have hi6 : (i : Int) ≤ 6000 := by omega
  have HF : Hid (∀ cs, PSt all E g v ((w2.setCell ⟨g, 1, none⟩ (.int .i64 ((i + 1 : Nat) : Int))).setRow w.heap.size cs) (i + 1) n) := fun cs =>
    h.of_kept h0 (hk3.setRow (Nat.le_refl _) cs) ((setRow_other _ _ _ _ (by omega)).trans h3.blk) h3.le
  have hk4 := fun cs => hk3.setRow (Nat.le_refl _) cs
  generalize ((i + 1 : Nat) : Int) = vv at *
  clear h h2 h3 hk2 hk3 hx2 hn2
  go_wp2_with (first
    | (refine wpList_load_row rfl 101 _ rfl _ rfl _ _ _ _ hx3 tokType rfl (by kernel_rfl) ?_)
    | (refine wpList_store_row rfl 101 _ _ rfl _ _ rfl rfl _ _ hn3 (by kernel_rfl) (by simp) (by simp [Value.oneCell']) ?_))
  exact tok_ret 4 (by kernel_rfl) w.heap.size _ _ _ _ rfl rfl (setRow_heap _ _ _ _ _ _ hn3) ⟨rfl, HF.out _, hk4 _⟩
set_option maxRecDepth 100000 in
theorem take_no (h0 : PS0 all E g v) (h : PSt all E g v w i n) (kd : Int) (hk : kindP (all.drop i) ≠ kd) :
    Calls Tryz.prog 75 #[.pointer (some ⟨g, 0, none⟩), .int .i64 kd] w fun e w' => e = .panicked (thrownV 2 (atP E (all.drop i))) ∧ Kept g w w' := by
  have hb0 : Below w.heap.size w (w.alloc (.cells #[.int .i64 0, .int .i64 0, .int .i64 0, .string ⟨#[]⟩] 101)) := (Below.refl _ _).alloc (Nat.le_refl _) _
  have hA := h.below hb0 h0
  have c := see_no h0 hA kd hk
  generalize hw1 : w.alloc (.cells #[.int .i64 0, .int .i64 0, .int .i64 0, .string ⟨#[]⟩] 101) = wA at *
  go_enter Tryz.func75, Tryz.ntmps75
  go_wp2_with fail
  refine c.mono ?_
  rintro e w1 ⟨rfl, hb1⟩
  exact ⟨rfl, rfl, Kept.of_below (hb0.trans (hb1.mono hb0.size))⟩
set_option maxRecDepth 100000 in
theorem takeFrom_kind (h0 : PS0 all E g v) (h : PSt all E g v w i n) (kd m : Int) (hk : kindP (all.drop i) ≠ kd) :
    Calls Tryz.prog 107 #[.pointer (some ⟨g, 0, none⟩), .int .i64 kd, .int .i64 m] w fun e w' => e = .panicked (thrownV 2 (atP E (all.drop i))) ∧ Kept g w w' := by
  have hb0 : Below w.heap.size w (w.alloc (.cells #[.int .i64 0, .int .i64 0, .int .i64 0, .string ⟨#[]⟩] 101)) := (Below.refl _ _).alloc (Nat.le_refl _) _
  have hA := h.below hb0 h0
  have c := see_no h0 hA kd hk
  generalize hw1 : w.alloc (.cells #[.int .i64 0, .int .i64 0, .int .i64 0, .string ⟨#[]⟩] 101) = wA at *
  go_enter Tryz.func107, Tryz.ntmps107
  go_wp2_with fail
  refine c.mono ?_
  rintro e w1 ⟨rfl, hb1⟩
  exact ⟨rfl, rfl, Kept.of_below (hb0.trans (hb1.mono hb0.size))⟩
set_option maxRecDepth 100000 in
theorem takeFrom_range (h0 : PS0 all E g v) (h : PSt all E g v w i n) (kd m : Int) (hk : kindP (all.drop i) = kd) (hm : numP (all.drop i) < m) :
    Calls Tryz.prog 107 #[.pointer (some ⟨g, 0, none⟩), .int .i64 kd, .int .i64 m] w fun e w' => e = .panicked (thrownV 3 (atP E (all.drop i))) ∧ Kept g w w' := by
  have hb0 : Below w.heap.size w (w.alloc (.cells #[.int .i64 0, .int .i64 0, .int .i64 0, .string ⟨#[]⟩] 101)) := (Below.refl _ _).alloc (Nat.le_refl _) _
  have hA := h.below hb0 h0
  have c := see_yes h0 hA kd hk
  have c2 := fun (w1 : World) (h1 : PSt all E g v w1 i n) => fail_any h0 h1 3
  unfold tokV at c
  clear hk
  generalize kindP (all.drop i) = t0 at *
  generalize numP (all.drop i) = t1 at *
  generalize hw1 : w.alloc (.cells #[.int .i64 0, .int .i64 0, .int .i64 0, .string ⟨#[]⟩] 101) = wA at *
  go_enter Tryz.func107, Tryz.ntmps107
  go_wp2_with fail
  refine c.mono ?_
  rintro e w1 ⟨rfl, h1, hb1⟩
  have hbw1 := hb0.trans (hb1.mono hb0.size)
  clear c hA hb1 hw1 hb0
  go_wp2_with fail
  refine (c2 _ h1).mono ?_
  rintro e w2 ⟨rfl, hb2⟩
  exact ⟨rfl, rfl, Kept.of_below (hbw1.trans (hb2.mono hbw1.size))⟩
set_option maxRecDepth 100000 in
set_option maxHeartbeats 1000000 in
theorem takeFrom_yes (h0 : PS0 all E g v) (h : PSt all E g v w i n) (kd m : Int) (hkd : kd ≠ 0) (hk : kindP (all.drop i) = kd) (hm : ¬ numP (all.drop i) < m) :
    Calls Tryz.prog 107 #[.pointer (some ⟨g, 0, none⟩), .int .i64 kd, .int .i64 m] w fun e w' => e = .returned (tokV E (all.drop i)) ∧ PSt all E g v w' (i + 1) n ∧ Kept g w w' := by
  have hgl := lt_of_block h.blk
  have hb0 : Below w.heap.size w (w.alloc (.cells #[.int .i64 0, .int .i64 0, .int .i64 0, .string ⟨#[]⟩] 101)) := (Below.refl _ _).alloc (Nat.le_refl _) _
  have hn := heap_alloc_new w (.cells #[.int .i64 0, .int .i64 0, .int .i64 0, .string ⟨#[]⟩] 101)
  have hA := h.below hb0 h0
  have c := see_yes h0 hA kd hk
  have c2 := fun (w1 : World) (h1 : PSt all E g v w1 i n) => take_yes h0 h1 kd hkd hk
  unfold tokV at c c2 ⊢
  clear hk hkd
  generalize kindP (all.drop i) = t0 at *
  generalize numP (all.drop i) = t1 at *
  generalize (atP E (all.drop i) : Int) = t2 at *
  generalize (⟨(textP (all.drop i)).toArray⟩ : ByteArray) = t3 at *
  generalize hw1 : w.alloc (.cells #[.int .i64 0, .int .i64 0, .int .i64 0, .string ⟨#[]⟩] 101) = wA at *
  go_enter Tryz.func107, Tryz.ntmps107
  go_wp2_with fail
  refine c.mono ?_
  rintro e w1 ⟨rfl, h1, hb1⟩
  have hn1 := (hb1.block _ (lt_of_block hn)).trans hn
  have hbw1 := hb0.trans (hb1.mono hb0.size)
  clear c hA hb1 hw1 hn hb0
  go_wp2_with fail
  refine (c2 _ h1).mono ?_
  rintro e w2 ⟨rfl, h2, hk2⟩
  have hn2 := (hk2.block _ (lt_of_block hn1) (fun e => by have : w.heap.size = g := Option.some.inj e
                                                          omega)).trans hn1
  have hkw2 := (Kept.of_below (g := g) hbw1).trans hk2
  have HF : Hid (∀ cs, PSt all E g v (w2.setRow w.heap.size cs) (i + 1) n) := fun cs =>
    h.of_kept h0 (hkw2.setRow (Nat.le_refl _) cs) ((setRow_other _ _ _ _ (by omega)).trans h2.blk) h2.le
  have hk4 := fun cs => hkw2.setRow (Nat.le_refl _) cs
  clear h h1 h2 hk2 hkw2 hn1 hbw1 c2
  go_wp2_with (refine wpList_store_row rfl 101 _ _ rfl _ _ rfl rfl _ _ hn2 (by kernel_rfl) (by simp) (by simp [Value.oneCell']) ?_)
  exact tok_ret 6 (by kernel_rfl) w.heap.size _ _ _ _ rfl rfl (setRow_heap _ _ _ _ _ _ hn2) ⟨rfl, HF.out _, hk4 _⟩
end Go.Proofs.YtgfjbcdjpkcbkaaGreatDoor

/- What ended and pair come to. -/
namespace Go.Proofs.YtgfjbcdjpkcbkaaGreatDoor
open Go.RowKit Lx
variable {all : List Tk} {E g : Nat} {v : Value} {w : World} {i n : Nat}
def OutE (all : List Tk) (E g : Nat) (v : Value) (w : World) (B : Nat → Prop) (x : Res) (e : Ending) (w' : World) : Prop :=
  match x with
  | .error (er, at_) => e = .panicked (thrownV er at_) ∧ Kept g w w'
  | .ok (ex, r, n) => ∃ (i : Nat) (sl : Value) (d : Nat), r = all.drop i ∧ e = .returned (exV ex sl) ∧ KidsAt B d w' sl ex.kids ∧ PSt all E g v w' i n ∧ n ≤ 600 ∧ Kept g w w'
theorem OutE.weak {B B' : Nat → Prop} {x : Res} {e : Ending} {w0 w' : World} (hk : Kept g w0 w) (hB : ∀ k, B k → B' k) (h : OutE all E g v w B x e w') : OutE all E g v w0 B' x e w' := by
  unfold OutE at h ⊢
  match x, h with
  | .error (er, at_), h => exact ⟨h.1, hk.trans h.2⟩
  | .ok (ex, r, n), h =>
    obtain ⟨i, sl, d, a, b, c, d', f, k⟩ := h
    exact ⟨i, sl, d, a, b, c.mono hB, d', f, hk.trans k⟩
set_option maxRecDepth 100000 in
set_option maxHeartbeats 1000000 in
theorem ended_any (h0 : PS0 all E g v) (h : PSt all E g v w i n) (hn6 : n ≤ 600) (B : Nat → Prop) (hB : ∀ k, B k → k ≠ g) (ex : Ex) (sl : Value) (d : Nat) (hk : KidsAt B d w sl ex.kids) :
    Calls Tryz.prog 99 #[.pointer (some ⟨g, 0, none⟩), exV ex sl] w (OutE all E g v w B (endedP E ex (all.drop i) n)) := by
  obtain ⟨ps, cs', rfl⟩ := hk.form
  have hgl := lt_of_block h.blk
  have hb1 : Below w.heap.size w (w.alloc (.cells #[.int .i64 ex.kind, .int .i64 ex.a, .int .i64 ex.b, .string ⟨ex.name.toArray⟩, .slice ps ex.kids.length cs'] 31)) := (Below.refl _ _).alloc (Nat.le_refl _) _
  have hb2 : Below w.heap.size w ((w.alloc (.cells #[.int .i64 ex.kind, .int .i64 ex.a, .int .i64 ex.b, .string ⟨ex.name.toArray⟩, .slice ps ex.kids.length cs'] 31)).alloc (.cells #[.int .i64 0, .int .i64 0, .int .i64 0, .string ⟨#[]⟩, .slice none 0 0] 31)) := hb1.alloc hb1.size _
  have hx1 := heap_alloc_new w (.cells #[.int .i64 ex.kind, .int .i64 ex.a, .int .i64 ex.b, .string ⟨ex.name.toArray⟩, .slice ps ex.kids.length cs'] 31)
  have hx2 := (Below.heap_alloc _ (.cells #[.int .i64 0, .int .i64 0, .int .i64 0, .string ⟨#[]⟩, .slice none 0 0] 31) _ (lt_of_block hx1)).trans hx1
  have hn2 := heap_alloc_new (w.alloc (.cells #[.int .i64 ex.kind, .int .i64 ex.a, .int .i64 ex.b, .string ⟨ex.name.toArray⟩, .slice ps ex.kids.length cs'] 31)) (.cells #[.int .i64 0, .int .i64 0, .int .i64 0, .string ⟨#[]⟩, .slice none 0 0] 31)
  have hsz : (w.alloc (.cells #[.int .i64 ex.kind, .int .i64 ex.a, .int .i64 ex.b, .string ⟨ex.name.toArray⟩, .slice ps ex.kids.length cs'] 31)).heap.size = w.heap.size + 1 := by simp
  rw [hsz] at hn2
  have h2 := h.below hb2 h0
  have hk2 := Kept.of_below (g := g) hb2
  unfold exV
  clear hx1 hb1 hsz
  generalize hw2 : ((w.alloc (.cells #[.int .i64 ex.kind, .int .i64 ex.a, .int .i64 ex.b, .string ⟨ex.name.toArray⟩, .slice ps ex.kids.length cs'] 31)).alloc (.cells #[.int .i64 0, .int .i64 0, .int .i64 0, .string ⟨#[]⟩, .slice none 0 0] 31)) = w2 at *
  have k3 := (cell_of_row _ _ 3 _ _ _ h2.blk).trans rfl
  have y3 := frozen_of_row _ _ 3 _ _ h2.blk
  have h3 := h2.setN h0 (n + 1)
  have hk3 := hk2.trans (Kept.set w2 g 3 (.int .i64 ((n + 1 : Nat) : Int)))
  have hx3 := (heap_setCell_other w2 ⟨g, 3, none⟩ w.heap.size (.int .i64 ((n + 1 : Nat) : Int)) (by show w.heap.size ≠ g; omega)).trans hx2
  have hn3 := (heap_setCell_other w2 ⟨g, 3, none⟩ (w.heap.size + 1) (.int .i64 ((n + 1 : Nat) : Int)) (by show w.heap.size + 1 ≠ g; omega)).trans hn2
  have q3 := (cell_of_row _ _ 3 _ _ _ h3.blk).trans rfl
  have ei : (n : Int) + 1 = ((n + 1 : Nat) : Int) := by omega
  have hi6 : (n : Int) ≤ 600 := by omega
  by_cases hm : 600 < n + 1
  · have hm' : (600 : Int) < ((n + 1 : Nat) : Int) := by omega
    have c := fail_any h0 h3 4
    rw [show endedP E ex (all.drop i) n = .error (4, atP E (all.drop i)) by unfold endedP; rw [if_pos hm]]
    clear h h2 h3 hk2 hx2 hn2 hx3 hn3 hb2 hk
    generalize ((n + 1 : Nat) : Int) = vv at *
    go_enter Tryz.func99, Tryz.ntmps99
    go_wp2_with fail
    refine c.mono ?_
    rintro e w4 ⟨rfl, hb4⟩
    exact ⟨rfl, rfl, hk3.trans (Kept.of_below hb4)⟩
  · have hm' : ¬ (600 : Int) < ((n + 1 : Nat) : Int) := by omega
    rw [show endedP E ex (all.drop i) n = .ok (ex, all.drop i, n + 1) by unfold endedP; rw [if_neg hm]]
    have HF : Hid (∀ cs, PSt all E g v ((w2.setCell ⟨g, 3, none⟩ (.int .i64 ((n + 1 : Nat) : Int))).setRow (w.heap.size + 1) cs) i (n + 1)) := fun cs =>
      h.of_kept h0 (hk3.setRow (by omega) cs) ((setRow_other _ _ _ _ (by omega)).trans h3.blk) h3.le
    have hk4 := fun cs => hk3.setRow (k := w.heap.size + 1) (by omega) cs
    have HN : Hid (n + 1 ≤ 600) := by show n + 1 ≤ 600; omega
    have HK : Hid (KidsAt B d w (.slice ps ex.kids.length cs') ex.kids) := hk
    have HB : Hid (∀ k, B k → k ≠ g) := hB
    clear h h2 h3 hk2 hx2 hn2 hb2 hk hk3 hm
    generalize ((n + 1 : Nat) : Int) = vv at *
    go_enter Tryz.func99, Tryz.ntmps99
    go_wp2_with (first
      | (refine wpList_load_row rfl 31 _ rfl _ rfl _ _ _ _ hx3 exprType rfl (by kernel_rfl) ?_)
      | (refine wpList_store_row rfl 31 _ _ rfl _ _ rfl rfl _ _ hn3 (by kernel_rfl) (by simp) (by simp [Value.oneCell']) ?_))
    exact ex_ret 4 (by kernel_rfl) (w.heap.size + 1) _ _ _ _ _ rfl rfl (setRow_heap _ _ _ _ _ _ hn3) ⟨i, _, d, rfl, rfl, (hk4 _).kids HB.out HK.out, HF.out _, HN.out, hk4 _⟩
theorem kids_one {B : Nat → Prop} {w : World} {b d : Nat} {k : Ex} {s : Value} (hB : B b) (hb : w.heap[b]? = some (.cells #[.int .i64 k.kind, .int .i64 k.a, .int .i64 k.b, .string ⟨k.name.toArray⟩, s] 31 (0, 0))) (hk : KidsAt B d w s k.kids) :
    KidsAt B (d + 1) w (.slice (some ⟨b, 0, none⟩) 1 1) [k] := by
  refine .inr ⟨b, 0, 1, ⟨hB, _, _, hb⟩, rfl, by simp, fun j k' hj => ?_⟩
  match j, hj with
  | 0, hj =>
    have e : k = k' := by simpa using hj
    subst e
    exact ⟨s, (cell_of_row _ _ _ _ _ _ hb).trans rfl, (cell_of_row _ _ _ _ _ _ hb).trans rfl, (cell_of_row _ _ _ _ _ _ hb).trans rfl, (cell_of_row _ _ _ _ _ _ hb).trans rfl, (cell_of_row _ _ _ _ _ _ hb).trans rfl, hk⟩
theorem kids_two {B : Nat → Prop} {w : World} {b d d' : Nat} {k k' : Ex} {s s' : Value} (hB : B b)
    (hb : w.heap[b]? = some (.cells #[.int .i64 k.kind, .int .i64 k.a, .int .i64 k.b, .string ⟨k.name.toArray⟩, s, .int .i64 k'.kind, .int .i64 k'.a, .int .i64 k'.b, .string ⟨k'.name.toArray⟩, s'] 31 (0, 0))) (hk : KidsAt B d w s k.kids) (hk' : KidsAt B d' w s' k'.kids) :
    KidsAt B (max d d' + 1) w (.slice (some ⟨b, 0, none⟩) 2 2) [k, k'] := by
  refine .inr ⟨b, 0, 2, ⟨hB, _, _, hb⟩, rfl, by simp, fun j q hj => ?_⟩
  match j, hj with
  | 0, hj =>
    have e : k = q := by simpa using hj
    subst e
    exact ⟨s, (cell_of_row _ _ _ _ _ _ hb).trans rfl, (cell_of_row _ _ _ _ _ _ hb).trans rfl, (cell_of_row _ _ _ _ _ _ hb).trans rfl, (cell_of_row _ _ _ _ _ _ hb).trans rfl, (cell_of_row _ _ _ _ _ _ hb).trans rfl, hk.le (by omega)⟩
  | 1, hj =>
    have e : k' = q := by simpa using hj
    subst e
    exact ⟨s', (cell_of_row _ _ _ _ _ _ hb).trans rfl, (cell_of_row _ _ _ _ _ _ hb).trans rfl, (cell_of_row _ _ _ _ _ _ hb).trans rfl, (cell_of_row _ _ _ _ _ _ hb).trans rfl, (cell_of_row _ _ _ _ _ _ hb).trans rfl, hk'.le (by omega)⟩
set_option maxRecDepth 100000 in
set_option maxHeartbeats 1000000 in
theorem pair_any (h0 : PS0 all E g v) (h : PSt all E g v w i n) (hn6 : n ≤ 600) (B : Nat → Prop) (hB : ∀ k, B k → k ≠ g) (hf : ∀ k, w.heap.size ≤ k → B k) (kd : Int) (l r : Ex) (sl sr : Value) (d d' : Nat) (hl : KidsAt B d w sl l.kids) (hr : KidsAt B d' w sr r.kids) :
    Calls Tryz.prog 90 #[.pointer (some ⟨g, 0, none⟩), .int .i64 kd, exV l sl, exV r sr] w (OutE all E g v w B (endedP E ⟨kd, 0, 0, [], [l, r]⟩ (all.drop i) n)) := by
  obtain ⟨pl, cl, rfl⟩ := hl.form
  obtain ⟨pr, cr, rfl⟩ := hr.form
  have hgl := lt_of_block h.blk
  unfold exV
  have hb1 := (Below.refl w.heap.size w).alloc (Nat.le_refl _) (.cells #[.int .i64 l.kind, .int .i64 l.a, .int .i64 l.b, .string ⟨l.name.toArray⟩, .slice pl l.kids.length cl] 31)
  have hb2 := hb1.alloc hb1.size (.cells #[.int .i64 r.kind, .int .i64 r.a, .int .i64 r.b, .string ⟨r.name.toArray⟩, .slice pr r.kids.length cr] 31)
  have hb3 := hb2.alloc hb2.size (.cells #[.int .i64 0, .int .i64 0, .int .i64 0, .string ⟨#[]⟩, .slice none 0 0] 31)
  have hb4 := hb3.alloc hb3.size (.cells #[.int .i64 l.kind, .int .i64 l.a, .int .i64 l.b, .string ⟨l.name.toArray⟩, .slice pl l.kids.length cl, .int .i64 r.kind, .int .i64 r.a, .int .i64 r.b, .string ⟨r.name.toArray⟩, .slice pr r.kids.length cr] 31)
  have hz := heap_alloc_new ((w.alloc (.cells #[.int .i64 l.kind, .int .i64 l.a, .int .i64 l.b, .string ⟨l.name.toArray⟩, .slice pl l.kids.length cl] 31)).alloc (.cells #[.int .i64 r.kind, .int .i64 r.a, .int .i64 r.b, .string ⟨r.name.toArray⟩, .slice pr r.kids.length cr] 31)) (.cells #[.int .i64 0, .int .i64 0, .int .i64 0, .string ⟨#[]⟩, .slice none 0 0] 31)
  have hz4 := (Below.heap_alloc _ (.cells #[.int .i64 l.kind, .int .i64 l.a, .int .i64 l.b, .string ⟨l.name.toArray⟩, .slice pl l.kids.length cl, .int .i64 r.kind, .int .i64 r.a, .int .i64 r.b, .string ⟨r.name.toArray⟩, .slice pr r.kids.length cr] 31) _ (lt_of_block hz)).trans hz
  have hs4 := heap_alloc_new (((w.alloc (.cells #[.int .i64 l.kind, .int .i64 l.a, .int .i64 l.b, .string ⟨l.name.toArray⟩, .slice pl l.kids.length cl] 31)).alloc (.cells #[.int .i64 r.kind, .int .i64 r.a, .int .i64 r.b, .string ⟨r.name.toArray⟩, .slice pr r.kids.length cr] 31)).alloc (.cells #[.int .i64 0, .int .i64 0, .int .i64 0, .string ⟨#[]⟩, .slice none 0 0] 31)) (.cells #[.int .i64 l.kind, .int .i64 l.a, .int .i64 l.b, .string ⟨l.name.toArray⟩, .slice pl l.kids.length cl, .int .i64 r.kind, .int .i64 r.a, .int .i64 r.b, .string ⟨r.name.toArray⟩, .slice pr r.kids.length cr] 31)
  rw [show ((w.alloc (.cells #[.int .i64 l.kind, .int .i64 l.a, .int .i64 l.b, .string ⟨l.name.toArray⟩, .slice pl l.kids.length cl] 31)).alloc (.cells #[.int .i64 r.kind, .int .i64 r.a, .int .i64 r.b, .string ⟨r.name.toArray⟩, .slice pr r.kids.length cr] 31)).heap.size = w.heap.size + 2 by simp] at hz4
  rw [show (((w.alloc (.cells #[.int .i64 l.kind, .int .i64 l.a, .int .i64 l.b, .string ⟨l.name.toArray⟩, .slice pl l.kids.length cl] 31)).alloc (.cells #[.int .i64 r.kind, .int .i64 r.a, .int .i64 r.b, .string ⟨r.name.toArray⟩, .slice pr r.kids.length cr] 31)).alloc (.cells #[.int .i64 0, .int .i64 0, .int .i64 0, .string ⟨#[]⟩, .slice none 0 0] 31)).heap.size = w.heap.size + 3 by simp] at hs4
  have h4 := h.below hb4 h0
  have hk4 := Kept.of_below (g := g) hb4
  have hBB : ∀ k, (B k ∧ k ≠ w.heap.size + 2) → k ≠ g := fun k hk => hB k hk.1
  have hl' : KidsAt (fun k => B k ∧ k ≠ w.heap.size + 2) d w (.slice pl l.kids.length cl) l.kids := hl.lt.mono fun k hk => ⟨hk.1, by have := hk.2; omega⟩
  have hr' : KidsAt (fun k => B k ∧ k ≠ w.heap.size + 2) d' w (.slice pr r.kids.length cr) r.kids := hr.lt.mono fun k hk => ⟨hk.1, by have := hk.2; omega⟩
  have kk := kids_two (B := fun k => B k ∧ k ≠ w.heap.size + 2) ⟨hf _ (by omega), by omega⟩ hs4 (hk4.kids hBB hl') (hk4.kids hBB hr')
  clear hb1 hb2 hb3 hb4 hz hs4 hl hr hl' hr'
  generalize hw4 : ((((w.alloc (.cells #[.int .i64 l.kind, .int .i64 l.a, .int .i64 l.b, .string ⟨l.name.toArray⟩, .slice pl l.kids.length cl] 31)).alloc (.cells #[.int .i64 r.kind, .int .i64 r.a, .int .i64 r.b, .string ⟨r.name.toArray⟩, .slice pr r.kids.length cr] 31)).alloc (.cells #[.int .i64 0, .int .i64 0, .int .i64 0, .string ⟨#[]⟩, .slice none 0 0] 31)).alloc (.cells #[.int .i64 l.kind, .int .i64 l.a, .int .i64 l.b, .string ⟨l.name.toArray⟩, .slice pl l.kids.length cl, .int .i64 r.kind, .int .i64 r.a, .int .i64 r.b, .string ⟨r.name.toArray⟩, .slice pr r.kids.length cr] 31)) = w4 at *
  have c := ended_any h0 h4 hn6 _ hBB ⟨kd, 0, 0, [], [l, r]⟩ _ _ kk
  unfold exV at c
  clear kk
  go_enter Tryz.func90, Tryz.ntmps90
  go_wp2_with fail
  refine c.mono ?_
  intro e w5 ho
  clear c hw4
  cases hx : endedP E ⟨kd, 0, 0, [], [l, r]⟩ (all.drop i) n with
  | error q =>
    obtain ⟨er, at_⟩ := q
    rw [hx] at ho
    obtain ⟨rfl, hk5⟩ := ho
    exact ⟨rfl, rfl, hk4.trans hk5⟩
  | ok q =>
    obtain ⟨ex, rr, nn⟩ := q
    rw [hx] at ho
    obtain ⟨i', sl, dd, hr', rfl, hkd, h5, hn5, hk5⟩ := ho
    have hz5 := (hk5.block _ (lt_of_block hz4) (fun e => by have : w.heap.size + 2 = g := Option.some.inj e
                                                            omega)).trans hz4
    have hkw := hk4.trans hk5
    obtain ⟨p5, c5, rfl⟩ := hkd.form
    have hkd' := fun cs => hkd.kept (w' := w5.setRow (w.heap.size + 2) cs) fun k hk _ => setRow_other _ _ _ _ hk.2
    have HF : Hid (∀ cs, OutE all E g v w B (endedP E ⟨kd, 0, 0, [], [l, r]⟩ (all.drop i) n) (.returned (exV ex (.slice p5 ex.kids.length c5))) (w5.setRow (w.heap.size + 2) cs)) := fun cs => by
      rw [hx]
      exact ⟨i', _, dd, hr', rfl, (hkd' cs).mono fun k hk => hk.1, h.of_kept h0 (hkw.setRow (by omega) cs) ((setRow_other _ _ _ _ (by omega)).trans h5.blk) h5.le, hn5, hkw.setRow (by omega) cs⟩
    unfold exV at HF ⊢
    clear h h4 hk4 hk5 hkd hkd' h5 hkw hx hz4
    go_wp2_with (refine wpList_store_row rfl 31 _ _ rfl _ _ rfl rfl _ _ hz5 (by kernel_rfl) (by simp) (by simp [Value.oneCell']) ?_)
    exact ex_ret 8 (by kernel_rfl) (w.heap.size + 2) _ _ _ _ _ rfl rfl (setRow_heap _ _ _ _ _ _ hz5) (HF.out _)
end Go.Proofs.YtgfjbcdjpkcbkaaGreatDoor

/- What shift and day come to. -/
namespace Go.Proofs.YtgfjbcdjpkcbkaaGreatDoor
open Go.RowKit Lx
variable {all : List Tk} {E g : Nat} {v : Value} {w : World} {i n : Nat}
theorem num_bd (h0 : PS0 all E g v) (i : Nat) : 0 ≤ numP (all.drop i) ∧ numP (all.drop i) ≤ 999999 := by
  cases h : all.drop i with
  | nil => simp [numP]
  | cons p r =>
    have hm : p ∈ all := List.mem_of_mem_drop (h ▸ List.mem_cons_self)
    exact h0.num p hm
def shAt (all : List Tk) (i : Nat) : Nat := if isT wMinus (all.drop i) then i + 1 else i
def OutI (all : List Tk) (E g : Nat) (v : Value) (w : World) (n : Nat) (x : Except (Int × Nat) (Int × Nat)) (e : Ending) (w' : World) : Prop :=
  match x with
  | .error (er, at_) => e = .panicked (thrownV er at_) ∧ Kept g w w'
  | .ok (m, j) => e = .returned (.int .i64 m) ∧ PSt all E g v w' j n ∧ Kept g w w'
def shiftX (all : List Tk) (E i : Nat) : Except (Int × Nat) (Int × Nat) :=
  if kindP (all.drop (shAt all i)) ≠ 6 then .error (2, atP E (all.drop (shAt all i)))
  else if 1440 ≤ numP (all.drop (shAt all i)) ∨ numP (all.drop (shAt all i)) < 1 then .error (3, atP E (all.drop (shAt all i)))
  else .ok (if isT wMinus (all.drop i) then - numP (all.drop (shAt all i)) else numP (all.drop (shAt all i)), shAt all i + 1)
theorem OutI.weak {x : Except (Int × Nat) (Int × Nat)} {e : Ending} {w0 w' : World} (hk : Kept g w0 w) (h : OutI all E g v w n x e w') : OutI all E g v w0 n x e w' := by
  unfold OutI at h ⊢
  match x, h with
  | .error (er, at_), h => exact ⟨h.1, hk.trans h.2⟩
  | .ok (m, j), h => exact ⟨h.1, h.2.1, hk.trans h.2.2⟩
set_option maxRecDepth 100000 in
set_option maxHeartbeats 1000000 in
theorem shift_rest (h0 : PS0 all E g v) (sg : Int) (j : Nat) (hsg : sg = 1 ∨ sg = -1) (x : Except (Int × Nat) (Int × Nat))
    (hx : x = if kindP (all.drop j) ≠ 6 then .error (2, atP E (all.drop j)) else if 1440 ≤ numP (all.drop j) ∨ numP (all.drop j) < 1 then .error (3, atP E (all.drop j)) else .ok (sg * numP (all.drop j), j + 1))
    (c1 : Calls Tryz.prog 73 #[.pointer (some ⟨g, 0, none⟩), .string ⟨#[45]⟩] w fun e w' => e = .returned (.bool (decide (sg = -1))) ∧ PSt all E g v w' j n ∧ Kept g w w') :
    Calls Tryz.prog 103 #[.pointer (some ⟨g, 0, none⟩)] w (OutI all E g v w n x) := by
  have hnb := num_bd h0 j
  have cs := fun (w1 : World) (h1 : PSt all E g v w1 j n) => see_yes h0 h1 6
  have cn := fun (w1 : World) (h1 : PSt all E g v w1 j n) => see_no h0 h1 6
  have cf := fun (w1 : World) (h1 : PSt all E g v w1 j n) => fail_any h0 h1 3
  have ct := fun (w1 : World) (h1 : PSt all E g v w1 j n) => takeFrom_yes h0 h1 6 1 (by decide)
  have cr := fun (w1 : World) (h1 : PSt all E g v w1 j n) => takeFrom_range h0 h1 6 1
  unfold tokV at cs ct
  generalize hat : atP E (all.drop j) = at_ at *
  by_cases h6 : kindP (all.drop j) = 6
  · have cs' := fun w1 h1 => cs w1 h1 h6
    have ct' := fun w1 h1 => ct w1 h1 h6
    have cr' := fun w1 h1 => cr w1 h1 h6
    rw [if_neg (by simp [h6])] at hx
    clear cn cs ct cr
    by_cases hbig : 1440 ≤ numP (all.drop j)
    · rw [if_pos (.inl hbig)] at hx
      subst hx
      generalize numP (all.drop j) = N at *
      rcases hsg with rfl | rfl
      · have e1 : decide ((1 : Int) = -1) = false := by decide
        rw [e1] at c1
        go_enter Tryz.func103, Tryz.ntmps103
        go_wp2_with fail
        refine c1.mono ?_
        rintro e w1 ⟨rfl, h1, hk1⟩
        go_wp2_with fail
        refine (cs' _ h1).mono ?_
        rintro e w2 ⟨rfl, h2, hb2⟩
        go_wp2_with fail
        refine (cf _ h2).mono ?_
        rintro e w3 ⟨rfl, hb3⟩
        exact ⟨rfl, rfl, (hk1.trans (Kept.of_below hb2)).trans (Kept.of_below hb3)⟩
      · have e1 : decide ((-1 : Int) = -1) = true := by decide
        rw [e1] at c1
        go_enter Tryz.func103, Tryz.ntmps103
        go_wp2_with fail
        refine c1.mono ?_
        rintro e w1 ⟨rfl, h1, hk1⟩
        go_wp2_with fail
        refine (cs' _ h1).mono ?_
        rintro e w2 ⟨rfl, h2, hb2⟩
        go_wp2_with fail
        refine (cf _ h2).mono ?_
        rintro e w3 ⟨rfl, hb3⟩
        exact ⟨rfl, rfl, (hk1.trans (Kept.of_below hb2)).trans (Kept.of_below hb3)⟩
    · have hbig' : ¬ (1440 : Int) ≤ numP (all.drop j) := hbig
      by_cases hlow : numP (all.drop j) < 1
      · rw [if_pos (.inr hlow)] at hx
        have cr2 := fun w1 h1 => cr' w1 h1 hlow
        subst hx
        clear ct' cr' cf
        generalize numP (all.drop j) = N at *
        rcases hsg with rfl | rfl
        · have e1 : decide ((1 : Int) = -1) = false := by decide
          rw [e1] at c1
          go_enter Tryz.func103, Tryz.ntmps103
          go_wp2_with fail
          refine c1.mono ?_
          rintro e w1 ⟨rfl, h1, hk1⟩
          go_wp2_with fail
          refine (cs' _ h1).mono ?_
          rintro e w2 ⟨rfl, h2, hb2⟩
          go_wp2_with fail
          refine (cr2 _ h2).mono ?_
          rintro e w3 ⟨rfl, hk3⟩
          exact ⟨rfl, rfl, (hk1.trans (Kept.of_below hb2)).trans hk3⟩
        · have e1 : decide ((-1 : Int) = -1) = true := by decide
          rw [e1] at c1
          go_enter Tryz.func103, Tryz.ntmps103
          go_wp2_with fail
          refine c1.mono ?_
          rintro e w1 ⟨rfl, h1, hk1⟩
          go_wp2_with fail
          refine (cs' _ h1).mono ?_
          rintro e w2 ⟨rfl, h2, hb2⟩
          go_wp2_with fail
          refine (cr2 _ h2).mono ?_
          rintro e w3 ⟨rfl, hk3⟩
          exact ⟨rfl, rfl, (hk1.trans (Kept.of_below hb2)).trans hk3⟩
      · rw [if_neg (by omega)] at hx
        have ct2 := fun w1 h1 => ct' w1 h1 hlow
        subst hx
        clear ct' cr' cf hlow
        generalize numP (all.drop j) = N at *
        rcases hsg with rfl | rfl
        · have e1 : decide ((1 : Int) = -1) = false := by decide
          rw [e1] at c1
          go_enter Tryz.func103, Tryz.ntmps103
          go_wp2_with fail
          refine c1.mono ?_
          rintro e w1 ⟨rfl, h1, hk1⟩
          go_wp2_with fail
          refine (cs' _ h1).mono ?_
          rintro e w2 ⟨rfl, h2, hb2⟩
          go_wp2_with fail
          refine (ct2 _ h2).mono ?_
          rintro e w3 ⟨rfl, h3, hk3⟩
          go_wp2_with fail
          go_ret
          refine ⟨?_, h3, (hk1.trans (Kept.of_below hb2)).trans hk3⟩
          show Ending.returned (.int .i64 N) = .returned (.int .i64 (1 * N))
          rw [Int.one_mul]
        · have e1 : decide ((-1 : Int) = -1) = true := by decide
          rw [e1] at c1
          go_enter Tryz.func103, Tryz.ntmps103
          go_wp2_with fail
          refine c1.mono ?_
          rintro e w1 ⟨rfl, h1, hk1⟩
          go_wp2_with fail
          refine (cs' _ h1).mono ?_
          rintro e w2 ⟨rfl, h2, hb2⟩
          go_wp2_with fail
          refine (ct2 _ h2).mono ?_
          rintro e w3 ⟨rfl, h3, hk3⟩
          go_wp2_with fail
          go_ret
          refine ⟨?_, h3, (hk1.trans (Kept.of_below hb2)).trans hk3⟩
          show Ending.returned (.int .i64 (-N)) = .returned (.int .i64 (-1 * N))
          rw [Int.neg_mul, Int.one_mul]
  · rw [if_pos h6] at hx
    have cn' := fun w1 h1 => cn w1 h1 h6
    subst hx
    clear cs ct cr cf cn
    rcases hsg with rfl | rfl
    · have e1 : decide ((1 : Int) = -1) = false := by decide
      rw [e1] at c1
      go_enter Tryz.func103, Tryz.ntmps103
      go_wp2_with fail
      refine c1.mono ?_
      rintro e w1 ⟨rfl, h1, hk1⟩
      go_wp2_with fail
      refine (cn' _ h1).mono ?_
      rintro e w2 ⟨rfl, hb2⟩
      exact ⟨rfl, rfl, hk1.trans (Kept.of_below hb2)⟩
    · have e1 : decide ((-1 : Int) = -1) = true := by decide
      rw [e1] at c1
      go_enter Tryz.func103, Tryz.ntmps103
      go_wp2_with fail
      refine c1.mono ?_
      rintro e w1 ⟨rfl, h1, hk1⟩
      go_wp2_with fail
      refine (cn' _ h1).mono ?_
      rintro e w2 ⟨rfl, hb2⟩
      exact ⟨rfl, rfl, hk1.trans (Kept.of_below hb2)⟩
theorem shift_any (h0 : PS0 all E g v) (h : PSt all E g v w i n) : Calls Tryz.prog 103 #[.pointer (some ⟨g, 0, none⟩)] w (OutI all E g v w n (shiftX all E i)) := by
  cases hm : isT wMinus (all.drop i) with
  | true =>
    refine shift_rest h0 (-1) (i + 1) (.inr rfl) _ ?_ (skip_yes h0 h wMinus (by decide) hm)
    unfold shiftX shAt
    rw [hm]
    simp only [if_true, Int.neg_mul, Int.one_mul]
  | false =>
    refine shift_rest h0 1 i (.inl rfl) _ ?_ (skip_no h0 h wMinus hm)
    unfold shiftX shAt
    rw [hm]
    simp only [Bool.false_eq_true, if_false, Int.one_mul]
theorem day_at (x : List UInt8) (j : Nat) (hj : j < 7) (h : x = wDays.getD j []) : dayBit x = 2 ^ j := by
  subst h
  match j, hj with
  | 0, _ => rfl
  | 1, _ => rfl
  | 2, _ => rfl
  | 3, _ => rfl
  | 4, _ => rfl
  | 5, _ => rfl
  | 6, _ => rfl
theorem day_none (x : List UInt8) (h : ∀ j, j < 7 → x ≠ wDays.getD j []) : dayBit x = 0 := by
  unfold dayBit
  rw [if_neg (h 0 (by omega)), if_neg (h 1 (by omega)), if_neg (h 2 (by omega)), if_neg (h 3 (by omega)), if_neg (h 4 (by omega)), if_neg (h 5 (by omega)), if_neg (h 6 (by omega))]
def dayX (all : List Tk) (E i : Nat) : Except (Int × Nat) (Int × Nat) := if dayBit (textP (all.drop i)) = 0 then .error (2, atP E (all.drop i)) else .ok ((dayBit (textP (all.drop i)) : Int), i + 1)
theorem dayIdx0 (w : World) : (Instr.index 135 (.agg #[.string ⟨#[109, 111, 110]⟩, .string ⟨#[116, 117, 101]⟩, .string ⟨#[119, 101, 100]⟩, .string ⟨#[116, 104, 117]⟩, .string ⟨#[102, 114, 105]⟩, .string ⟨#[115, 97, 116]⟩, .string ⟨#[115, 117, 110]⟩]) (.int .i64 0)).run Tryz.prog w = .ok (.string ⟨#[109, 111, 110]⟩) w := by
  unfold Instr.index
  simp [go_sem]
theorem dayIdx1 (w : World) : (Instr.index 135 (.agg #[.string ⟨#[109, 111, 110]⟩, .string ⟨#[116, 117, 101]⟩, .string ⟨#[119, 101, 100]⟩, .string ⟨#[116, 104, 117]⟩, .string ⟨#[102, 114, 105]⟩, .string ⟨#[115, 97, 116]⟩, .string ⟨#[115, 117, 110]⟩]) (.int .i64 1)).run Tryz.prog w = .ok (.string ⟨#[116, 117, 101]⟩) w := by
  unfold Instr.index
  simp [go_sem]
theorem dayIdx2 (w : World) : (Instr.index 135 (.agg #[.string ⟨#[109, 111, 110]⟩, .string ⟨#[116, 117, 101]⟩, .string ⟨#[119, 101, 100]⟩, .string ⟨#[116, 104, 117]⟩, .string ⟨#[102, 114, 105]⟩, .string ⟨#[115, 97, 116]⟩, .string ⟨#[115, 117, 110]⟩]) (.int .i64 2)).run Tryz.prog w = .ok (.string ⟨#[119, 101, 100]⟩) w := by
  unfold Instr.index
  simp [go_sem]
theorem dayIdx3 (w : World) : (Instr.index 135 (.agg #[.string ⟨#[109, 111, 110]⟩, .string ⟨#[116, 117, 101]⟩, .string ⟨#[119, 101, 100]⟩, .string ⟨#[116, 104, 117]⟩, .string ⟨#[102, 114, 105]⟩, .string ⟨#[115, 97, 116]⟩, .string ⟨#[115, 117, 110]⟩]) (.int .i64 3)).run Tryz.prog w = .ok (.string ⟨#[116, 104, 117]⟩) w := by
  unfold Instr.index
  simp [go_sem]
theorem dayIdx4 (w : World) : (Instr.index 135 (.agg #[.string ⟨#[109, 111, 110]⟩, .string ⟨#[116, 117, 101]⟩, .string ⟨#[119, 101, 100]⟩, .string ⟨#[116, 104, 117]⟩, .string ⟨#[102, 114, 105]⟩, .string ⟨#[115, 97, 116]⟩, .string ⟨#[115, 117, 110]⟩]) (.int .i64 4)).run Tryz.prog w = .ok (.string ⟨#[102, 114, 105]⟩) w := by
  unfold Instr.index
  simp [go_sem]
theorem dayIdx5 (w : World) : (Instr.index 135 (.agg #[.string ⟨#[109, 111, 110]⟩, .string ⟨#[116, 117, 101]⟩, .string ⟨#[119, 101, 100]⟩, .string ⟨#[116, 104, 117]⟩, .string ⟨#[102, 114, 105]⟩, .string ⟨#[115, 97, 116]⟩, .string ⟨#[115, 117, 110]⟩]) (.int .i64 5)).run Tryz.prog w = .ok (.string ⟨#[115, 97, 116]⟩) w := by
  unfold Instr.index
  simp [go_sem]
theorem dayIdx6 (w : World) : (Instr.index 135 (.agg #[.string ⟨#[109, 111, 110]⟩, .string ⟨#[116, 117, 101]⟩, .string ⟨#[119, 101, 100]⟩, .string ⟨#[116, 104, 117]⟩, .string ⟨#[102, 114, 105]⟩, .string ⟨#[115, 97, 116]⟩, .string ⟨#[115, 117, 110]⟩]) (.int .i64 6)).run Tryz.prog w = .ok (.string ⟨#[115, 117, 110]⟩) w := by
  unfold Instr.index
  simp [go_sem]
attribute [local go_sem] dayIdx0 dayIdx1 dayIdx2 dayIdx3 dayIdx4 dayIdx5 dayIdx6
set_option maxRecDepth 100000 in
set_option maxHeartbeats 1000000 in
theorem day_any (h0 : PS0 all E g v) (h : PSt all E g v w i n) : Calls Tryz.prog 108 #[.pointer (some ⟨g, 0, none⟩)] w (OutI all E g v w n (dayX all E i)) := by
  have t0 := h.tab 0 (by omega)
  have t1 := h.tab 1 (by omega)
  have t2 := h.tab 2 (by omega)
  have t3 := h.tab 3 (by omega)
  have t4 := h.tab 4 (by omega)
  have t5 := h.tab 5 (by omega)
  have t6 := h.tab 6 (by omega)
  simp only [wDays, List.getD_cons_zero, List.getD_cons_succ] at t0 t1 t2 t3 t4 t5 t6
  go_enter Tryz.func108, Tryz.ntmps108
  go_wp2_with fail
  clear t0 t1 t2 t3 t4 t5 t6
  go_loopw [3, 4, 6] (fun _ _ q wr => ∃ j : Nat, q = .int .i64 (j : Int) ∧ j ≤ 7 ∧ PSt all E g v wr i n ∧ Kept g w wr ∧ ∀ k, k < j → textP (all.drop i) ≠ wDays.getD k []) (fun _ _ q _ => 7 - (intOf q).toNat)
  case atStart => exact ⟨0, rfl, by omega, h, Kept.refl _ _, fun k hk => by omega⟩
  case round =>
    obtain ⟨j, rfl, hj, hst, hkp, hall⟩ := hrel
    clear h
    have HA : Hid (∀ k, k < j → textP (all.drop i) ≠ wDays.getD k []) := hall
    clear hall
    by_cases hlt : j < 7
    · have hj7 : j = 0 ∨ j = 1 ∨ j = 2 ∨ j = 3 ∨ j = 4 ∨ j = 5 ∨ j = 6 := by omega
      rcases hj7 with rfl | rfl | rfl | rfl | rfl | rfl | rfl
      · by_cases hT : isT (wDays.getD 0 []) (all.drop i) = true
        · have HD : Hid (dayX all E i = .ok (((1 : Nat) : Int), i + 1)) := by
            have hb := day_at (textP (all.drop i)) 0 (by omega) (by simpa [isT] using hT)
            show _ = _
            unfold dayX
            rw [hb]
            rfl
          clear HA
          go_wp2_with fail
          refine (skip_yes h0 hst _ (by decide) hT).mono ?_
          rintro e w1 ⟨rfl, h1, hk1⟩
          go_wp2_with fail
          go_ret
          rw [HD.out]
          exact ⟨rfl, h1, hkp.trans hk1⟩
        · have hT' : isT (wDays.getD 0 []) (all.drop i) = false := by simpa using hT
          have HN : Hid (∀ k, k < 1 → textP (all.drop i) ≠ wDays.getD k []) := fun k hk => by
            by_cases q : k = 0
            · subst q; simpa [isT] using hT
            · exact HA.out k (by omega)
          clear HA hT
          go_wp2_with fail
          refine (skip_no h0 hst _ hT').mono ?_
          rintro e w1 ⟨rfl, h1, hk1⟩
          go_wp2_with fail
          go_roundw
          case rel => exact ⟨1, rfl, by omega, h1, hkp.trans hk1, HN.out⟩
          case measure => simp [intOf]
      · by_cases hT : isT (wDays.getD 1 []) (all.drop i) = true
        · have HD : Hid (dayX all E i = .ok (((2 : Nat) : Int), i + 1)) := by
            have hb := day_at (textP (all.drop i)) 1 (by omega) (by simpa [isT] using hT)
            show _ = _
            unfold dayX
            rw [hb]
            rfl
          clear HA
          go_wp2_with fail
          refine (skip_yes h0 hst _ (by decide) hT).mono ?_
          rintro e w1 ⟨rfl, h1, hk1⟩
          go_wp2_with fail
          go_ret
          rw [HD.out]
          exact ⟨rfl, h1, hkp.trans hk1⟩
        · have hT' : isT (wDays.getD 1 []) (all.drop i) = false := by simpa using hT
          have HN : Hid (∀ k, k < 2 → textP (all.drop i) ≠ wDays.getD k []) := fun k hk => by
            by_cases q : k = 1
            · subst q; simpa [isT] using hT
            · exact HA.out k (by omega)
          clear HA hT
          go_wp2_with fail
          refine (skip_no h0 hst _ hT').mono ?_
          rintro e w1 ⟨rfl, h1, hk1⟩
          go_wp2_with fail
          go_roundw
          case rel => exact ⟨2, rfl, by omega, h1, hkp.trans hk1, HN.out⟩
          case measure => simp [intOf]
      · by_cases hT : isT (wDays.getD 2 []) (all.drop i) = true
        · have HD : Hid (dayX all E i = .ok (((4 : Nat) : Int), i + 1)) := by
            have hb := day_at (textP (all.drop i)) 2 (by omega) (by simpa [isT] using hT)
            show _ = _
            unfold dayX
            rw [hb]
            rfl
          clear HA
          go_wp2_with fail
          refine (skip_yes h0 hst _ (by decide) hT).mono ?_
          rintro e w1 ⟨rfl, h1, hk1⟩
          go_wp2_with fail
          go_ret
          rw [HD.out]
          exact ⟨rfl, h1, hkp.trans hk1⟩
        · have hT' : isT (wDays.getD 2 []) (all.drop i) = false := by simpa using hT
          have HN : Hid (∀ k, k < 3 → textP (all.drop i) ≠ wDays.getD k []) := fun k hk => by
            by_cases q : k = 2
            · subst q; simpa [isT] using hT
            · exact HA.out k (by omega)
          clear HA hT
          go_wp2_with fail
          refine (skip_no h0 hst _ hT').mono ?_
          rintro e w1 ⟨rfl, h1, hk1⟩
          go_wp2_with fail
          go_roundw
          case rel => exact ⟨3, rfl, by omega, h1, hkp.trans hk1, HN.out⟩
          case measure => simp [intOf]
      · by_cases hT : isT (wDays.getD 3 []) (all.drop i) = true
        · have HD : Hid (dayX all E i = .ok (((8 : Nat) : Int), i + 1)) := by
            have hb := day_at (textP (all.drop i)) 3 (by omega) (by simpa [isT] using hT)
            show _ = _
            unfold dayX
            rw [hb]
            rfl
          clear HA
          go_wp2_with fail
          refine (skip_yes h0 hst _ (by decide) hT).mono ?_
          rintro e w1 ⟨rfl, h1, hk1⟩
          go_wp2_with fail
          go_ret
          rw [HD.out]
          exact ⟨rfl, h1, hkp.trans hk1⟩
        · have hT' : isT (wDays.getD 3 []) (all.drop i) = false := by simpa using hT
          have HN : Hid (∀ k, k < 4 → textP (all.drop i) ≠ wDays.getD k []) := fun k hk => by
            by_cases q : k = 3
            · subst q; simpa [isT] using hT
            · exact HA.out k (by omega)
          clear HA hT
          go_wp2_with fail
          refine (skip_no h0 hst _ hT').mono ?_
          rintro e w1 ⟨rfl, h1, hk1⟩
          go_wp2_with fail
          go_roundw
          case rel => exact ⟨4, rfl, by omega, h1, hkp.trans hk1, HN.out⟩
          case measure => simp [intOf]
      · by_cases hT : isT (wDays.getD 4 []) (all.drop i) = true
        · have HD : Hid (dayX all E i = .ok (((16 : Nat) : Int), i + 1)) := by
            have hb := day_at (textP (all.drop i)) 4 (by omega) (by simpa [isT] using hT)
            show _ = _
            unfold dayX
            rw [hb]
            rfl
          clear HA
          go_wp2_with fail
          refine (skip_yes h0 hst _ (by decide) hT).mono ?_
          rintro e w1 ⟨rfl, h1, hk1⟩
          go_wp2_with fail
          go_ret
          rw [HD.out]
          exact ⟨rfl, h1, hkp.trans hk1⟩
        · have hT' : isT (wDays.getD 4 []) (all.drop i) = false := by simpa using hT
          have HN : Hid (∀ k, k < 5 → textP (all.drop i) ≠ wDays.getD k []) := fun k hk => by
            by_cases q : k = 4
            · subst q; simpa [isT] using hT
            · exact HA.out k (by omega)
          clear HA hT
          go_wp2_with fail
          refine (skip_no h0 hst _ hT').mono ?_
          rintro e w1 ⟨rfl, h1, hk1⟩
          go_wp2_with fail
          go_roundw
          case rel => exact ⟨5, rfl, by omega, h1, hkp.trans hk1, HN.out⟩
          case measure => simp [intOf]
      · by_cases hT : isT (wDays.getD 5 []) (all.drop i) = true
        · have HD : Hid (dayX all E i = .ok (((32 : Nat) : Int), i + 1)) := by
            have hb := day_at (textP (all.drop i)) 5 (by omega) (by simpa [isT] using hT)
            show _ = _
            unfold dayX
            rw [hb]
            rfl
          clear HA
          go_wp2_with fail
          refine (skip_yes h0 hst _ (by decide) hT).mono ?_
          rintro e w1 ⟨rfl, h1, hk1⟩
          go_wp2_with fail
          go_ret
          rw [HD.out]
          exact ⟨rfl, h1, hkp.trans hk1⟩
        · have hT' : isT (wDays.getD 5 []) (all.drop i) = false := by simpa using hT
          have HN : Hid (∀ k, k < 6 → textP (all.drop i) ≠ wDays.getD k []) := fun k hk => by
            by_cases q : k = 5
            · subst q; simpa [isT] using hT
            · exact HA.out k (by omega)
          clear HA hT
          go_wp2_with fail
          refine (skip_no h0 hst _ hT').mono ?_
          rintro e w1 ⟨rfl, h1, hk1⟩
          go_wp2_with fail
          go_roundw
          case rel => exact ⟨6, rfl, by omega, h1, hkp.trans hk1, HN.out⟩
          case measure => simp [intOf]
      · by_cases hT : isT (wDays.getD 6 []) (all.drop i) = true
        · have HD : Hid (dayX all E i = .ok (((64 : Nat) : Int), i + 1)) := by
            have hb := day_at (textP (all.drop i)) 6 (by omega) (by simpa [isT] using hT)
            show _ = _
            unfold dayX
            rw [hb]
            rfl
          clear HA
          go_wp2_with fail
          refine (skip_yes h0 hst _ (by decide) hT).mono ?_
          rintro e w1 ⟨rfl, h1, hk1⟩
          go_wp2_with fail
          go_ret
          rw [HD.out]
          exact ⟨rfl, h1, hkp.trans hk1⟩
        · have hT' : isT (wDays.getD 6 []) (all.drop i) = false := by simpa using hT
          have HN : Hid (∀ k, k < 7 → textP (all.drop i) ≠ wDays.getD k []) := fun k hk => by
            by_cases q : k = 6
            · subst q; simpa [isT] using hT
            · exact HA.out k (by omega)
          clear HA hT
          go_wp2_with fail
          refine (skip_no h0 hst _ hT').mono ?_
          rintro e w1 ⟨rfl, h1, hk1⟩
          go_wp2_with fail
          go_roundw
          case rel => exact ⟨7, rfl, by omega, h1, hkp.trans hk1, HN.out⟩
          case measure => simp [intOf]
    · have e7 : j = 7 := by omega
      subst e7
      have HD : Hid (dayX all E i = .error (2, atP E (all.drop i))) := by
        show _ = _
        unfold dayX
        rw [if_pos (day_none _ HA.out)]
      clear HA
      go_wp2_with fail
      refine (fail_any h0 hst 2).mono ?_
      rintro e w1 ⟨rfl, hb1⟩
      refine ⟨rfl, ?_⟩
      rw [HD.out]
      exact ⟨rfl, hkp.trans (Kept.of_below hb1)⟩
end Go.Proofs.YtgfjbcdjpkcbkaaGreatDoor

/- What span, behindColon and dates come to. -/
namespace Go.Proofs.YtgfjbcdjpkcbkaaGreatDoor
open Go.RowKit Lx
variable {all : List Tk} {E g : Nat} {v : Value} {w : World} {i n : Nat}
def ex0C : Array Value := #[.int .i64 0, .int .i64 0, .int .i64 0, .string ⟨#[]⟩, .slice none 0 0]
theorem Kept.at {w' : World} {k : Nat} {o : Obj} (h : Kept g w w') (hk : w.heap[k]? = some o) (hne : k ≠ g) : w'.heap[k]? = some o := (h.block k (lt_of_block hk) (fun e => hne (Option.some.inj e))).trans hk
theorem out_split {w4 w5 : World} {X : Res} {e : Ending} (h : PSt all E g v w i n) (h0 : PS0 all E g v) (hk4 : Kept g w w4) (hz4 : w4.heap[w.heap.size]? = some (.cells ex0C 31 (0, 0)))
    (ho : OutE all E g v w4 (fun k => w.heap.size + 1 ≤ k) X e w5) :
    (∃ ch, e = .panicked ch ∧ OutE all E g v w (fun k => w.heap.size ≤ k) X e w5) ∨
    (∃ (a b c : Int) (x : ByteArray) (p : Option Addr) (q r : Nat), e = .returned (.agg #[.int .i64 a, .int .i64 b, .int .i64 c, .string x, .slice p q r]) ∧ w5.heap[w.heap.size]? = some (.cells ex0C 31 (0, 0)) ∧ ∀ cs, OutE all E g v w (fun k => w.heap.size ≤ k) X e (w5.setRow w.heap.size cs)) := by
  have hgl := lt_of_block h.blk
  cases hx : X with
  | error q =>
    obtain ⟨er, at_⟩ := q
    rw [hx] at ho
    obtain ⟨rfl, hk5⟩ := ho
    exact .inl ⟨_, rfl, rfl, hk4.trans hk5⟩
  | ok q =>
    obtain ⟨ex, rr, nn⟩ := q
    rw [hx] at ho
    obtain ⟨i', sl, dd, hr', rfl, hkd, h5, hn5, hk5⟩ := ho
    obtain ⟨p5, c5, rfl⟩ := hkd.form
    have hkw := hk4.trans hk5
    refine .inr ⟨_, _, _, _, p5, ex.kids.length, c5, rfl, hk5.at hz4 (by omega), fun cs => ?_⟩
    refine ⟨i', _, dd, hr', rfl, ?_, h.of_kept h0 (hkw.setRow (Nat.le_refl _) cs) ((setRow_other _ _ _ _ (by omega)).trans h5.blk) h5.le, hn5, hkw.setRow (Nat.le_refl _) cs⟩
    exact (hkd.kept fun k hk _ => setRow_other _ _ _ _ (by omega)).mono fun k hk => by omega
theorem tail_drop (i : Nat) : (all.drop i).tail = all.drop (i + 1) := by rw [List.tail_drop]
theorem zero_new (w : World) : (w.alloc (.cells #[.int .i64 0, .int .i64 0, .int .i64 0, .string ⟨#[]⟩, .slice none 0 0] 31)).heap[w.heap.size]? = some (.cells ex0C 31 (0, 0)) := heap_alloc_new w _
def spanR (E : Nat) (r : List Tk) (n : Nat) : Res :=
  if kindP r ≠ 4 then failP E 2 r
  else if isT wMinus r.tail then
    if kindP r.tail.tail ≠ 4 then failP E 2 r.tail.tail
    else if numP r.tail.tail < numP r + 1 then failP E 3 r.tail.tail
    else endedP E ⟨3, numP r, numP r.tail.tail, [], []⟩ r.tail.tail.tail n
  else failP E 2 r.tail
set_option maxRecDepth 100000 in
set_option maxHeartbeats 1000000 in
theorem span_any (h0 : PS0 all E g v) (h : PSt all E g v w i n) (hn6 : n ≤ 600) :
    Calls Tryz.prog 106 #[.pointer (some ⟨g, 0, none⟩)] w (OutE all E g v w (fun k => w.heap.size ≤ k) (spanR E (all.drop i) n)) := by
  have hgl := lt_of_block h.blk
  have hb0 : Below w.heap.size w (w.alloc (.cells #[.int .i64 0, .int .i64 0, .int .i64 0, .string ⟨#[]⟩, .slice none 0 0] 31)) := (Below.refl _ _).alloc (Nat.le_refl _) _
  have hz := zero_new w
  have hA := h.below hb0 h0
  have hkA := Kept.of_below (g := g) hb0
  have hsz : (w.alloc (.cells #[.int .i64 0, .int .i64 0, .int .i64 0, .string ⟨#[]⟩, .slice none 0 0] 31)).heap.size = w.heap.size + 1 := by simp
  have n1 := num_bd h0 i
  unfold spanR failP
  simp only [tail_drop]
  generalize hwA : w.alloc (.cells #[.int .i64 0, .int .i64 0, .int .i64 0, .string ⟨#[]⟩, .slice none 0 0] 31) = wA at *
  by_cases h4 : kindP (all.drop i) = 4
  · have c1 := take_yes h0 hA 4 (by decide) h4
    rw [if_neg (by simp [h4])]
    unfold tokV at c1
    generalize numP (all.drop i) = N at *
    generalize kindP (all.drop i) = t0 at *
    clear h4
    by_cases hm : isT wMinus (all.drop (i + 1)) = true
    · rw [if_pos hm]
      have c2 := fun (w1 : World) (h1 : PSt all E g v w1 (i + 1) n) => must_yes h0 h1 wMinus (by decide) hm
      clear hm
      by_cases h4 : kindP (all.drop (i + 1 + 1)) = 4
      · rw [if_neg (by simp [h4])]
        by_cases hlt : numP (all.drop (i + 1 + 1)) < N + 1
        · rw [if_pos hlt]
          have c3 := fun (w1 : World) (h1 : PSt all E g v w1 (i + 1 + 1) n) => takeFrom_range h0 h1 4 (N + 1) h4 hlt
          clear h4 hlt
          go_enter Tryz.func106, Tryz.ntmps106
          go_wp2_with fail
          refine c1.mono ?_
          rintro e w1 ⟨rfl, h1, hk1⟩
          go_wp2_with fail
          refine (c2 _ h1).mono ?_
          rintro e w2 ⟨rfl, h2, hk2⟩
          go_wp2_with fail
          refine (c3 _ h2).mono ?_
          rintro e w3 ⟨rfl, hk3⟩
          exact ⟨rfl, rfl, ((hkA.trans hk1).trans hk2).trans hk3⟩
        · rw [if_neg hlt]
          have c3 := fun (w1 : World) (h1 : PSt all E g v w1 (i + 1 + 1) n) => takeFrom_yes h0 h1 4 (N + 1) (by decide) h4 hlt
          unfold tokV at c3
          have n2 := num_bd h0 (i + 1 + 1)
          generalize numP (all.drop (i + 1 + 1)) = M at *
          have c4 := fun (w1 : World) (h1 : PSt all E g v w1 (i + 1 + 1 + 1) n) => ended_any h0 h1 hn6 (fun k => w.heap.size + 1 ≤ k) (fun k hk => by omega) ⟨3, N, M, [], []⟩ (.slice none 0 0) 0 (KidsAt.nil _ _ _ _ _)
          unfold exV at c4
          clear h4 hlt
          go_enter Tryz.func106, Tryz.ntmps106
          go_wp2_with fail
          refine c1.mono ?_
          rintro e w1 ⟨rfl, h1, hk1⟩
          go_wp2_with fail
          refine (c2 _ h1).mono ?_
          rintro e w2 ⟨rfl, h2, hk2⟩
          go_wp2_with fail
          refine (c3 _ h2).mono ?_
          rintro e w3 ⟨rfl, h3, hk3⟩
          have hk4 := ((hkA.trans hk1).trans hk2).trans hk3
          have hz3 := ((hk1.trans hk2).trans hk3).at hz (by omega)
          clear c1 c2 c3
          go_wp2_with fail
          refine (c4 _ h3).mono ?_
          intro e w5 ho
          rcases out_split h h0 hk4 hz3 ho with ⟨ch, rfl, hO⟩ | ⟨a, b, c, x, p, q, r, rfl, hz5, hO⟩
          · exact ⟨rfl, hO⟩
          · clear c4 ho h1 h2 h3 hk1 hk2 hk3 hk4 hz3 hz
            go_wp2_with (refine wpList_store_row rfl 31 _ _ rfl _ _ rfl rfl _ _ hz5 (by kernel_rfl) (by rfl) (by simp [Value.oneCell']) ?_)
            exact ex_ret 2 (by kernel_rfl) w.heap.size _ _ _ _ _ rfl rfl (setRow_heap _ _ _ _ _ _ hz5) (hO _)
      · rw [if_pos h4]
        have c3 := fun (w1 : World) (h1 : PSt all E g v w1 (i + 1 + 1) n) => takeFrom_kind h0 h1 4 (N + 1) h4
        clear h4
        go_enter Tryz.func106, Tryz.ntmps106
        go_wp2_with fail
        refine c1.mono ?_
        rintro e w1 ⟨rfl, h1, hk1⟩
        go_wp2_with fail
        refine (c2 _ h1).mono ?_
        rintro e w2 ⟨rfl, h2, hk2⟩
        go_wp2_with fail
        refine (c3 _ h2).mono ?_
        rintro e w3 ⟨rfl, hk3⟩
        exact ⟨rfl, rfl, ((hkA.trans hk1).trans hk2).trans hk3⟩
    · have hm' : isT wMinus (all.drop (i + 1)) = false := by simpa using hm
      rw [if_neg hm]
      have c2 := fun (w1 : World) (h1 : PSt all E g v w1 (i + 1) n) => must_no h0 h1 wMinus hm'
      clear hm hm'
      go_enter Tryz.func106, Tryz.ntmps106
      go_wp2_with fail
      refine c1.mono ?_
      rintro e w1 ⟨rfl, h1, hk1⟩
      go_wp2_with fail
      refine (c2 _ h1).mono ?_
      rintro e w2 ⟨rfl, hk2⟩
      exact ⟨rfl, rfl, (hkA.trans hk1).trans hk2⟩
  · have c1 := take_no h0 hA 4 h4
    rw [if_pos h4]
    go_enter Tryz.func106, Tryz.ntmps106
    go_wp2_with fail
    refine c1.mono ?_
    rintro e w1 ⟨rfl, hk1⟩
    exact ⟨rfl, rfl, hkA.trans hk1⟩
def RC (all : List Tk) (E g : Nat) (v : Value) (f : FuncId) (m i : Nat) : Prop := ∀ (w : World) (n d : Nat), PSt all E g v w i n → n ≤ 600 → d ≤ 41 →
  Calls Tryz.prog f #[.pointer (some ⟨g, 0, none⟩), .int .i64 (d : Int)] w (OutE all E g v w (fun k => w.heap.size ≤ k) (rd E m d ex0 (all.drop i) n))
def OutK (all : List Tk) (E g : Nat) (v : Value) (w : World) (B : Nat → Prop) (x : Res) (e : Ending) (w' : World) : Prop :=
  match x with
  | .error (er, at_) => e = .panicked (thrownV er at_) ∧ Kept g w w'
  | .ok (k, r, n) => ∃ (i b d : Nat), r = all.drop i ∧ e = .returned (.slice (some ⟨b, 0, none⟩) 1 1) ∧ KidsAt B d w' (.slice (some ⟨b, 0, none⟩) 1 1) [k] ∧ PSt all E g v w' i n ∧ n ≤ 600 ∧ Kept g w w'
def colonR (E d : Nat) (r : List Tk) (n : Nat) : Res := if isT wColon r then rd E 4 (d + 1) ex0 r.tail n else failP E 2 r
set_option maxRecDepth 100000 in
set_option maxHeartbeats 1000000 in
theorem colon_any (h0 : PS0 all E g v) (h : PSt all E g v w i n) (hn6 : n ≤ 600) (d : Nat) (hd : d ≤ 40) (hF : RC all E g v 98 4 (i + 1)) :
    Calls Tryz.prog 109 #[.pointer (some ⟨g, 0, none⟩), .int .i64 (d : Int)] w (OutK all E g v w (fun k => w.heap.size ≤ k) (colonR E d (all.drop i) n)) := by
  have hgl := lt_of_block h.blk
  unfold colonR
  rw [tail_drop]
  by_cases hm : isT wColon (all.drop i) = true
  · rw [if_pos hm]
    have c1 := must_yes h0 h wColon (by decide) hm
    have c2 : ∀ (w1 : World), PSt all E g v w1 (i + 1) n → Calls Tryz.prog 98 #[.pointer (some ⟨g, 0, none⟩), .int .i64 ((d : Int) + 1)] w1 (OutE all E g v w1 (fun k => w1.heap.size ≤ k) (rd E 4 (d + 1) ex0 (all.drop (i + 1)) n)) := fun w1 h1 => hF w1 n (d + 1) h1 hn6 (by omega)
    have hd' : (d : Int) ≤ 40 := by omega
    have hd0 : (0 : Int) ≤ (d : Int) := by omega
    clear hm
    go_enter Tryz.func109, Tryz.ntmps109
    go_wp2_with fail
    refine c1.mono ?_
    rintro e w1 ⟨rfl, h1, hk1⟩
    go_wp2_with fail
    refine (c2 _ h1).mono ?_
    intro e w2 ho
    cases hx : rd E 4 (d + 1) ex0 (all.drop (i + 1)) n with
    | error q =>
      obtain ⟨er, at_⟩ := q
      rw [hx] at ho
      obtain ⟨rfl, hk2⟩ := ho
      refine ⟨rfl, ?_⟩
      rw [hx]
      exact ⟨rfl, hk1.trans hk2⟩
    | ok q =>
      obtain ⟨ex, rr, nn⟩ := q
      rw [hx] at ho
      obtain ⟨i', sl, dd, hr', rfl, hkd, h2, hn2, hk2⟩ := ho
      obtain ⟨p5, c5, rfl⟩ := hkd.form
      have hs1 := hk1.size
      have hs2 := hk2.size
      have hkw := (hk1.trans hk2).alloc (.cells #[.int .i64 ex.kind, .int .i64 ex.a, .int .i64 ex.b, .string ⟨ex.name.toArray⟩, .slice p5 ex.kids.length c5] 31)
      have hb3 : Below w2.heap.size w2 (w2.alloc (.cells #[.int .i64 ex.kind, .int .i64 ex.a, .int .i64 ex.b, .string ⟨ex.name.toArray⟩, .slice p5 ex.kids.length c5] 31)) := (Below.refl _ _).alloc (Nat.le_refl _) _
      have hkd3 := (Kept.of_below (g := g) hb3).kids (B := fun k => w.heap.size ≤ k) (fun k hk => by omega) (hkd.mono fun k hk => by omega)
      have kk := kids_one (B := fun k => w.heap.size ≤ k) (by show w.heap.size ≤ w2.heap.size; omega) (heap_alloc_new w2 (.cells #[.int .i64 ex.kind, .int .i64 ex.a, .int .i64 ex.b, .string ⟨ex.name.toArray⟩, .slice p5 ex.kids.length c5] 31)) hkd3
      have h3 := h2.below hb3 h0
      have HO : Hid (OutK all E g v w (fun k => w.heap.size ≤ k) (rd E 4 (d + 1) ex0 (all.drop (i + 1)) n) (.returned (.slice (some ⟨w2.heap.size, 0, none⟩) 1 1)) (w2.alloc (.cells #[.int .i64 ex.kind, .int .i64 ex.a, .int .i64 ex.b, .string ⟨ex.name.toArray⟩, .slice p5 ex.kids.length c5] 31))) := by
        show OutK _ _ _ _ _ _ _ _ _
        rw [hx]
        exact ⟨i', _, _, hr', rfl, kk, h3, hn2, hkw⟩
      unfold exV
      clear c1 c2 h1 h2 h3 hk1 hk2 hkw hb3 hkd hkd3 kk hx
      go_wp2_with fail
      go_ret
      exact HO.out
  · have hm' : isT wColon (all.drop i) = false := by simpa using hm
    rw [if_neg hm]
    have c1 := must_no h0 h wColon hm'
    clear hm hm'
    go_enter Tryz.func109, Tryz.ntmps109
    go_wp2_with fail
    refine c1.mono ?_
    rintro e w1 ⟨rfl, hk1⟩
    exact ⟨rfl, rfl, hk1⟩
theorem rd8_colon (E d : Nat) (e : Ex) (r : List Tk) (n : Nat) : rd E 8 d e r n = andThen (colonR E d r n) fun k r n => endedP E ⟨e.kind, e.a, e.b, [], [k]⟩ r n := by
  rw [rd_8]
  unfold colonR
  split
  · rfl
  · rfl
end Go.Proofs.YtgfjbcdjpkcbkaaGreatDoor
