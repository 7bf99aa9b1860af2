/- What take, takeFrom and ended come to. -/
import Derived.Test.YtllcpoibnmhghaaGreatDoorTb07
namespace Go.Proofs.YtllcpoibnmhghaaGreatDoor
open Go.RowKit Lx
variable {all : List Tk} {E g : Nat} {v : Value} {w : World} {i n : Nat}

theorem Kept.setRow {w' : World} {k : Nat} (h : Kept g w w') (hk : w.heap.size ≤ k) (cs : Array Value) : Kept g w (w'.setRow k cs) :=
  ⟨h.os, h.tape, h.output, by simpa [World.setRow] using h.size, fun j hj hne => (setRow_other w' k j cs (by omega)).trans (h.block j hj hne)⟩
theorem Kept.alloc {w' : World} (h : Kept g w w') (o : Obj) : Kept g w (w'.alloc o) := h.trans (Kept.of_below ((Below.refl _ _).alloc (Nat.le_refl _) o))
theorem kind_len {all : List Tk} {i : Nat} (h : kindP (all.drop i) ≠ 0) : i + 1 ≤ all.length := by
  have := kindP_cons h
  simp at this; omega

set_option maxRecDepth 100000 in
set_option maxHeartbeats 1000000 in
theorem take_yes (h0 : PS0 all E g v) (h : PSt all E g v w i n) (kd : Int) (hkd : kd ≠ 0) (hk : kindP (all.drop i) = kd) :
    Calls Tryz.prog 76 #[.pointer (some ⟨g, 0, none⟩), .int .i64 kd] w fun e w' => e = .returned (tokV E (all.drop i)) ∧ PSt all E g v w' (i + 1) n ∧ Kept g w w' := by
  have hgl := lt_of_block h.blk
  have hlen := h0.len
  have hi : i + 1 ≤ all.length := kind_len (by rw [hk]; exact hkd)
  have hb0 : Below w.heap.size w (w.alloc (.cells #[.int .i64 0, .int .i64 0, .int .i64 0, .string ⟨#[]⟩] 101)) := (Below.refl _ _).alloc (Nat.le_refl _) _
  have hn := heap_alloc_new w (.cells #[.int .i64 0, .int .i64 0, .int .i64 0, .string ⟨#[]⟩] 101)
  have hA := h.below hb0 h0
  have c := see_yes h0 hA kd hk
  unfold tokV at c ⊢
  clear hk hkd
  generalize kindP (all.drop i) = t0 at *
  generalize numP (all.drop i) = t1 at *
  generalize (atP E (all.drop i) : Int) = t2 at *
  generalize (⟨(textP (all.drop i)).toArray⟩ : ByteArray) = t3 at *
  generalize hw1 : w.alloc (.cells #[.int .i64 0, .int .i64 0, .int .i64 0, .string ⟨#[]⟩] 101) = wA at *
  go_enter Tryz.func76, Tryz.ntmps76
  go_wp2_with fail
  refine c.mono ?_
  rintro e w1 ⟨rfl, h1, hb1⟩
  have hn1 := (hb1.block _ (lt_of_block hn)).trans hn
  have hbw1 := hb0.trans (hb1.mono hb0.size)
  have hws := lt_of_block hn1
  have hb2 : Below w1.heap.size w1 (w1.alloc (.cells #[.int .i64 t0, .int .i64 t1, .int .i64 t2, .string t3] 101)) := (Below.refl _ _).alloc (Nat.le_refl _) _
  have h2 := h1.below hb2 h0
  have hx2 := heap_alloc_new w1 (.cells #[.int .i64 t0, .int .i64 t1, .int .i64 t2, .string t3] 101)
  have hn2 := (hb2.block _ (lt_of_block hn1)).trans hn1
  have hk2 : Kept g w (w1.alloc (.cells #[.int .i64 t0, .int .i64 t1, .int .i64 t2, .string t3] 101)) := (Kept.of_below hbw1).alloc _
  clear c hA hb1 hw1 hn hb0 hbw1 hn1 h1 hb2
  generalize hw2 : w1.alloc (.cells #[.int .i64 t0, .int .i64 t1, .int .i64 t2, .string t3] 101) = w2 at *
  have k1 := (cell_of_row _ _ 1 _ _ _ h2.blk).trans rfl
  have y1 := frozen_of_row _ _ 1 _ _ h2.blk
  have h3 := h2.set h0 hi
  have hk3 := hk2.trans (Kept.set w2 g 1 (.int .i64 ((i + 1 : Nat) : Int)))
  have hx3 := (heap_setCell_other w2 ⟨g, 1, none⟩ w1.heap.size (.int .i64 ((i + 1 : Nat) : Int)) (by show w1.heap.size ≠ g; omega)).trans hx2
  have hn3 := (heap_setCell_other w2 ⟨g, 1, none⟩ w.heap.size (.int .i64 ((i + 1 : Nat) : Int)) (by show w.heap.size ≠ g; omega)).trans hn2
  have ei : (i : Int) + 1 = ((i + 1 : Nat) : Int) := by omega
  have hi6 : (i : Int) ≤ 6000 := by omega
  have HF : Hid (∀ cs, PSt all E g v ((w2.setCell ⟨g, 1, none⟩ (.int .i64 ((i + 1 : Nat) : Int))).setRow w.heap.size cs) (i + 1) n) := fun cs =>
    h.of_kept h0 (hk3.setRow (Nat.le_refl _) cs) ((setRow_other _ _ _ _ (by omega)).trans h3.blk) h3.le
  have hk4 := fun cs => hk3.setRow (Nat.le_refl _) cs
  generalize ((i + 1 : Nat) : Int) = vv at *
  clear h h2 h3 hk2 hk3 hx2 hn2
  go_wp2_with (first
    | (refine wpList_load_row rfl 101 _ rfl _ rfl _ _ _ _ hx3 tokType rfl (by kernel_rfl) ?_)
    | (refine wpList_store_row rfl 101 _ _ rfl _ _ rfl rfl _ _ hn3 (by kernel_rfl) (by simp) (by simp [Value.oneCell']) ?_))
  exact tok_ret 4 (by kernel_rfl) w.heap.size _ _ _ _ rfl rfl (setRow_heap _ _ _ _ _ _ hn3) ⟨rfl, HF.out _, hk4 _⟩
set_option maxRecDepth 100000 in
theorem take_no (h0 : PS0 all E g v) (h : PSt all E g v w i n) (kd : Int) (hk : kindP (all.drop i) ≠ kd) :
    Calls Tryz.prog 76 #[.pointer (some ⟨g, 0, none⟩), .int .i64 kd] w fun e w' => e = .panicked (thrownV 2 (atP E (all.drop i))) ∧ Kept g w w' := by
  have hb0 : Below w.heap.size w (w.alloc (.cells #[.int .i64 0, .int .i64 0, .int .i64 0, .string ⟨#[]⟩] 101)) := (Below.refl _ _).alloc (Nat.le_refl _) _
  have hA := h.below hb0 h0
  have c := see_no h0 hA kd hk
  generalize hw1 : w.alloc (.cells #[.int .i64 0, .int .i64 0, .int .i64 0, .string ⟨#[]⟩] 101) = wA at *
  go_enter Tryz.func76, Tryz.ntmps76
  go_wp2_with fail
  refine c.mono ?_
  rintro e w1 ⟨rfl, hb1⟩
  exact ⟨rfl, rfl, Kept.of_below (hb0.trans (hb1.mono hb0.size))⟩
set_option maxRecDepth 100000 in
theorem takeFrom_kind (h0 : PS0 all E g v) (h : PSt all E g v w i n) (kd m : Int) (hk : kindP (all.drop i) ≠ kd) :
    Calls Tryz.prog 110 #[.pointer (some ⟨g, 0, none⟩), .int .i64 kd, .int .i64 m] w fun e w' => e = .panicked (thrownV 2 (atP E (all.drop i))) ∧ Kept g w w' := by
  have hb0 : Below w.heap.size w (w.alloc (.cells #[.int .i64 0, .int .i64 0, .int .i64 0, .string ⟨#[]⟩] 101)) := (Below.refl _ _).alloc (Nat.le_refl _) _
  have hA := h.below hb0 h0
  have c := see_no h0 hA kd hk
  generalize hw1 : w.alloc (.cells #[.int .i64 0, .int .i64 0, .int .i64 0, .string ⟨#[]⟩] 101) = wA at *
  go_enter Tryz.func110, Tryz.ntmps110
  go_wp2_with fail
  refine c.mono ?_
  rintro e w1 ⟨rfl, hb1⟩
  exact ⟨rfl, rfl, Kept.of_below (hb0.trans (hb1.mono hb0.size))⟩
set_option maxRecDepth 100000 in
theorem takeFrom_range (h0 : PS0 all E g v) (h : PSt all E g v w i n) (kd m : Int) (hk : kindP (all.drop i) = kd) (hm : numP (all.drop i) < m) :
    Calls Tryz.prog 110 #[.pointer (some ⟨g, 0, none⟩), .int .i64 kd, .int .i64 m] w fun e w' => e = .panicked (thrownV 3 (atP E (all.drop i))) ∧ Kept g w w' := by
  have hb0 : Below w.heap.size w (w.alloc (.cells #[.int .i64 0, .int .i64 0, .int .i64 0, .string ⟨#[]⟩] 101)) := (Below.refl _ _).alloc (Nat.le_refl _) _
  have hA := h.below hb0 h0
  have c := see_yes h0 hA kd hk
  have c2 := fun (w1 : World) (h1 : PSt all E g v w1 i n) => fail_any h0 h1 3
  unfold tokV at c
  clear hk
  generalize kindP (all.drop i) = t0 at *
  generalize numP (all.drop i) = t1 at *
  generalize hw1 : w.alloc (.cells #[.int .i64 0, .int .i64 0, .int .i64 0, .string ⟨#[]⟩] 101) = wA at *
  go_enter Tryz.func110, Tryz.ntmps110
  go_wp2_with fail
  refine c.mono ?_
  rintro e w1 ⟨rfl, h1, hb1⟩
  have hbw1 := hb0.trans (hb1.mono hb0.size)
  clear c hA hb1 hw1 hb0
  go_wp2_with fail
  refine (c2 _ h1).mono ?_
  rintro e w2 ⟨rfl, hb2⟩
  exact ⟨rfl, rfl, Kept.of_below (hbw1.trans (hb2.mono hbw1.size))⟩
set_option maxRecDepth 100000 in
set_option maxHeartbeats 1000000 in
theorem takeFrom_yes (h0 : PS0 all E g v) (h : PSt all E g v w i n) (kd m : Int) (hkd : kd ≠ 0) (hk : kindP (all.drop i) = kd) (hm : ¬ numP (all.drop i) < m) :
    Calls Tryz.prog 110 #[.pointer (some ⟨g, 0, none⟩), .int .i64 kd, .int .i64 m] w fun e w' => e = .returned (tokV E (all.drop i)) ∧ PSt all E g v w' (i + 1) n ∧ Kept g w w' := by
  have hgl := lt_of_block h.blk
  have hb0 : Below w.heap.size w (w.alloc (.cells #[.int .i64 0, .int .i64 0, .int .i64 0, .string ⟨#[]⟩] 101)) := (Below.refl _ _).alloc (Nat.le_refl _) _
  have hn := heap_alloc_new w (.cells #[.int .i64 0, .int .i64 0, .int .i64 0, .string ⟨#[]⟩] 101)
  have hA := h.below hb0 h0
  have c := see_yes h0 hA kd hk
  have c2 := fun (w1 : World) (h1 : PSt all E g v w1 i n) => take_yes h0 h1 kd hkd hk
  unfold tokV at c c2 ⊢
  clear hk hkd
  generalize kindP (all.drop i) = t0 at *
  generalize numP (all.drop i) = t1 at *
  generalize (atP E (all.drop i) : Int) = t2 at *
  generalize (⟨(textP (all.drop i)).toArray⟩ : ByteArray) = t3 at *
  generalize hw1 : w.alloc (.cells #[.int .i64 0, .int .i64 0, .int .i64 0, .string ⟨#[]⟩] 101) = wA at *
  go_enter Tryz.func110, Tryz.ntmps110
  go_wp2_with fail
  refine c.mono ?_
  rintro e w1 ⟨rfl, h1, hb1⟩
  have hn1 := (hb1.block _ (lt_of_block hn)).trans hn
  have hbw1 := hb0.trans (hb1.mono hb0.size)
  clear c hA hb1 hw1 hn hb0
  go_wp2_with fail
  refine (c2 _ h1).mono ?_
  rintro e w2 ⟨rfl, h2, hk2⟩
  have hn2 := (hk2.block _ (lt_of_block hn1) (fun e => by have : w.heap.size = g := Option.some.inj e
                                                          omega)).trans hn1
  have hkw2 := (Kept.of_below (g := g) hbw1).trans hk2
  have HF : Hid (∀ cs, PSt all E g v (w2.setRow w.heap.size cs) (i + 1) n) := fun cs =>
    h.of_kept h0 (hkw2.setRow (Nat.le_refl _) cs) ((setRow_other _ _ _ _ (by omega)).trans h2.blk) h2.le
  have hk4 := fun cs => hkw2.setRow (Nat.le_refl _) cs
  clear h h1 h2 hk2 hkw2 hn1 hbw1 c2
  go_wp2_with (refine wpList_store_row rfl 101 _ _ rfl _ _ rfl rfl _ _ hn2 (by kernel_rfl) (by simp) (by simp [Value.oneCell']) ?_)
  exact tok_ret 6 (by kernel_rfl) w.heap.size _ _ _ _ rfl rfl (setRow_heap _ _ _ _ _ _ hn2) ⟨rfl, HF.out _, hk4 _⟩
end Go.Proofs.YtllcpoibnmhghaaGreatDoor

/- What ended and pair come to. -/
namespace Go.Proofs.YtllcpoibnmhghaaGreatDoor
open Go.RowKit Lx
variable {all : List Tk} {E g : Nat} {v : Value} {w : World} {i n : Nat}

/-- What a function of the reader hands back where the plain reader tells x: what is wrong is thrown; else the expression lies in memory, and the reader stands ahead of what is left. -/
def OutE (all : List Tk) (E g : Nat) (v : Value) (w : World) (B : Nat → Prop) (x : Res) (e : Ending) (w' : World) : Prop :=
  match x with
  | .error (er, at_) => e = .panicked (thrownV er at_) ∧ Kept g w w'
  | .ok (ex, r, n) => ∃ (i : Nat) (sl : Value) (d : Nat), r = all.drop i ∧ e = .returned (exV ex sl) ∧ KidsAt B d w' sl ex.kids ∧ PSt all E g v w' i n ∧ n ≤ 600 ∧ Kept g w w'
theorem OutE.weak {B B' : Nat → Prop} {x : Res} {e : Ending} {w0 w' : World} (hk : Kept g w0 w) (hB : ∀ k, B k → B' k) (h : OutE all E g v w B x e w') : OutE all E g v w0 B' x e w' := by
  unfold OutE at h ⊢
  match x, h with
  | .error (er, at_), h => exact ⟨h.1, hk.trans h.2⟩
  | .ok (ex, r, n), h =>
    obtain ⟨i, sl, d, a, b, c, d', f, k⟩ := h
    exact ⟨i, sl, d, a, b, c.mono hB, d', f, hk.trans k⟩

set_option maxRecDepth 100000 in
set_option maxHeartbeats 1000000 in
theorem ended_any (h0 : PS0 all E g v) (h : PSt all E g v w i n) (hn6 : n ≤ 600) (B : Nat → Prop) (hB : ∀ k, B k → k ≠ g) (ex : Ex) (sl : Value) (d : Nat) (hk : KidsAt B d w sl ex.kids) :
    Calls Tryz.prog 101 #[.pointer (some ⟨g, 0, none⟩), exV ex sl] w (OutE all E g v w B (endedP E ex (all.drop i) n)) := by
  obtain ⟨ps, cs', rfl⟩ := hk.form
  have hgl := lt_of_block h.blk
  have hb1 : Below w.heap.size w (w.alloc (.cells #[.int .i64 ex.kind, .int .i64 ex.a, .int .i64 ex.b, .string ⟨ex.name.toArray⟩, .slice ps ex.kids.length cs'] 25)) := (Below.refl _ _).alloc (Nat.le_refl _) _
  have hb2 : Below w.heap.size w ((w.alloc (.cells #[.int .i64 ex.kind, .int .i64 ex.a, .int .i64 ex.b, .string ⟨ex.name.toArray⟩, .slice ps ex.kids.length cs'] 25)).alloc (.cells #[.int .i64 0, .int .i64 0, .int .i64 0, .string ⟨#[]⟩, .slice none 0 0] 25)) := hb1.alloc hb1.size _
  have hx1 := heap_alloc_new w (.cells #[.int .i64 ex.kind, .int .i64 ex.a, .int .i64 ex.b, .string ⟨ex.name.toArray⟩, .slice ps ex.kids.length cs'] 25)
  have hx2 := (Below.heap_alloc _ (.cells #[.int .i64 0, .int .i64 0, .int .i64 0, .string ⟨#[]⟩, .slice none 0 0] 25) _ (lt_of_block hx1)).trans hx1
  have hn2 := heap_alloc_new (w.alloc (.cells #[.int .i64 ex.kind, .int .i64 ex.a, .int .i64 ex.b, .string ⟨ex.name.toArray⟩, .slice ps ex.kids.length cs'] 25)) (.cells #[.int .i64 0, .int .i64 0, .int .i64 0, .string ⟨#[]⟩, .slice none 0 0] 25)
  have hsz : (w.alloc (.cells #[.int .i64 ex.kind, .int .i64 ex.a, .int .i64 ex.b, .string ⟨ex.name.toArray⟩, .slice ps ex.kids.length cs'] 25)).heap.size = w.heap.size + 1 := by simp
  rw [hsz] at hn2
  have h2 := h.below hb2 h0
  have hk2 := Kept.of_below (g := g) hb2
  unfold exV
  clear hx1 hb1 hsz
  generalize hw2 : ((w.alloc (.cells #[.int .i64 ex.kind, .int .i64 ex.a, .int .i64 ex.b, .string ⟨ex.name.toArray⟩, .slice ps ex.kids.length cs'] 25)).alloc (.cells #[.int .i64 0, .int .i64 0, .int .i64 0, .string ⟨#[]⟩, .slice none 0 0] 25)) = w2 at *
  have k3 := (cell_of_row _ _ 3 _ _ _ h2.blk).trans rfl
  have y3 := frozen_of_row _ _ 3 _ _ h2.blk
  have h3 := h2.setN h0 (n + 1)
  have hk3 := hk2.trans (Kept.set w2 g 3 (.int .i64 ((n + 1 : Nat) : Int)))
  have hx3 := (heap_setCell_other w2 ⟨g, 3, none⟩ w.heap.size (.int .i64 ((n + 1 : Nat) : Int)) (by show w.heap.size ≠ g; omega)).trans hx2
  have hn3 := (heap_setCell_other w2 ⟨g, 3, none⟩ (w.heap.size + 1) (.int .i64 ((n + 1 : Nat) : Int)) (by show w.heap.size + 1 ≠ g; omega)).trans hn2
  have q3 := (cell_of_row _ _ 3 _ _ _ h3.blk).trans rfl
  have ei : (n : Int) + 1 = ((n + 1 : Nat) : Int) := by omega
  have hi6 : (n : Int) ≤ 600 := by omega
  by_cases hm : 600 < n + 1
  · have hm' : (600 : Int) < ((n + 1 : Nat) : Int) := by omega
    have c := fail_any h0 h3 4
    rw [show endedP E ex (all.drop i) n = .error (4, atP E (all.drop i)) by unfold endedP; rw [if_pos hm]]
    clear h h2 h3 hk2 hx2 hn2 hx3 hn3 hb2 hk
    generalize ((n + 1 : Nat) : Int) = vv at *
    go_enter Tryz.func101, Tryz.ntmps101
    go_wp2_with fail
    refine c.mono ?_
    rintro e w4 ⟨rfl, hb4⟩
    exact ⟨rfl, rfl, hk3.trans (Kept.of_below hb4)⟩
  · have hm' : ¬ (600 : Int) < ((n + 1 : Nat) : Int) := by omega
    rw [show endedP E ex (all.drop i) n = .ok (ex, all.drop i, n + 1) by unfold endedP; rw [if_neg hm]]
    have HF : Hid (∀ cs, PSt all E g v ((w2.setCell ⟨g, 3, none⟩ (.int .i64 ((n + 1 : Nat) : Int))).setRow (w.heap.size + 1) cs) i (n + 1)) := fun cs =>
      h.of_kept h0 (hk3.setRow (by omega) cs) ((setRow_other _ _ _ _ (by omega)).trans h3.blk) h3.le
    have hk4 := fun cs => hk3.setRow (k := w.heap.size + 1) (by omega) cs
    have HN : Hid (n + 1 ≤ 600) := by show n + 1 ≤ 600; omega
    have HK : Hid (KidsAt B d w (.slice ps ex.kids.length cs') ex.kids) := hk
    have HB : Hid (∀ k, B k → k ≠ g) := hB
    clear h h2 h3 hk2 hx2 hn2 hb2 hk hk3 hm
    generalize ((n + 1 : Nat) : Int) = vv at *
    go_enter Tryz.func101, Tryz.ntmps101
    go_wp2_with (first
      | (refine wpList_load_row rfl 25 _ rfl _ rfl _ _ _ _ hx3 exprType rfl (by kernel_rfl) ?_)
      | (refine wpList_store_row rfl 25 _ _ rfl _ _ rfl rfl _ _ hn3 (by kernel_rfl) (by simp) (by simp [Value.oneCell']) ?_))
    exact ex_ret 4 (by kernel_rfl) (w.heap.size + 1) _ _ _ _ _ rfl rfl (setRow_heap _ _ _ _ _ _ hn3) ⟨i, _, d, rfl, rfl, (hk4 _).kids HB.out HK.out, HF.out _, HN.out, hk4 _⟩
/-- The cells of an expression. -/
def exC (e : Ex) (sl : Value) : List Value := [.int .i64 e.kind, .int .i64 e.a, .int .i64 e.b, .string ⟨e.name.toArray⟩, sl]
theorem kids_one {B : Nat → Prop} {w : World} {b d : Nat} {k : Ex} {s : Value} (hB : B b) (hb : w.heap[b]? = some (.cells #[.int .i64 k.kind, .int .i64 k.a, .int .i64 k.b, .string ⟨k.name.toArray⟩, s] 25 (0, 0))) (hk : KidsAt B d w s k.kids) :
    KidsAt B (d + 1) w (.slice (some ⟨b, 0, none⟩) 1 1) [k] := by
  refine .inr ⟨b, 0, 1, ⟨hB, _, _, hb⟩, rfl, by simp, fun j k' hj => ?_⟩
  match j, hj with
  | 0, hj =>
    have e : k = k' := by simpa using hj
    subst e
    exact ⟨s, (cell_of_row _ _ _ _ _ _ hb).trans rfl, (cell_of_row _ _ _ _ _ _ hb).trans rfl, (cell_of_row _ _ _ _ _ _ hb).trans rfl, (cell_of_row _ _ _ _ _ _ hb).trans rfl, (cell_of_row _ _ _ _ _ _ hb).trans rfl, hk⟩
theorem kids_two {B : Nat → Prop} {w : World} {b d d' : Nat} {k k' : Ex} {s s' : Value} (hB : B b)
    (hb : w.heap[b]? = some (.cells #[.int .i64 k.kind, .int .i64 k.a, .int .i64 k.b, .string ⟨k.name.toArray⟩, s, .int .i64 k'.kind, .int .i64 k'.a, .int .i64 k'.b, .string ⟨k'.name.toArray⟩, s'] 25 (0, 0))) (hk : KidsAt B d w s k.kids) (hk' : KidsAt B d' w s' k'.kids) :
    KidsAt B (max d d' + 1) w (.slice (some ⟨b, 0, none⟩) 2 2) [k, k'] := by
  refine .inr ⟨b, 0, 2, ⟨hB, _, _, hb⟩, rfl, by simp, fun j q hj => ?_⟩
  match j, hj with
  | 0, hj =>
    have e : k = q := by simpa using hj
    subst e
    exact ⟨s, (cell_of_row _ _ _ _ _ _ hb).trans rfl, (cell_of_row _ _ _ _ _ _ hb).trans rfl, (cell_of_row _ _ _ _ _ _ hb).trans rfl, (cell_of_row _ _ _ _ _ _ hb).trans rfl, (cell_of_row _ _ _ _ _ _ hb).trans rfl, hk.le (by omega)⟩
  | 1, hj =>
    have e : k' = q := by simpa using hj
    subst e
    exact ⟨s', (cell_of_row _ _ _ _ _ _ hb).trans rfl, (cell_of_row _ _ _ _ _ _ hb).trans rfl, (cell_of_row _ _ _ _ _ _ hb).trans rfl, (cell_of_row _ _ _ _ _ _ hb).trans rfl, (cell_of_row _ _ _ _ _ _ hb).trans rfl, hk'.le (by omega)⟩

set_option maxRecDepth 100000 in
set_option maxHeartbeats 1000000 in
theorem pair_any (h0 : PS0 all E g v) (h : PSt all E g v w i n) (hn6 : n ≤ 600) (B : Nat → Prop) (hB : ∀ k, B k → k ≠ g) (hf : ∀ k, w.heap.size ≤ k → B k) (kd : Int) (l r : Ex) (sl sr : Value) (d d' : Nat) (hl : KidsAt B d w sl l.kids) (hr : KidsAt B d' w sr r.kids) :
    Calls Tryz.prog 89 #[.pointer (some ⟨g, 0, none⟩), .int .i64 kd, exV l sl, exV r sr] w (OutE all E g v w B (endedP E ⟨kd, 0, 0, [], [l, r]⟩ (all.drop i) n)) := by
  obtain ⟨pl, cl, rfl⟩ := hl.form
  obtain ⟨pr, cr, rfl⟩ := hr.form
  have hgl := lt_of_block h.blk
  unfold exV
  have hb1 := (Below.refl w.heap.size w).alloc (Nat.le_refl _) (.cells #[.int .i64 l.kind, .int .i64 l.a, .int .i64 l.b, .string ⟨l.name.toArray⟩, .slice pl l.kids.length cl] 25)
  have hb2 := hb1.alloc hb1.size (.cells #[.int .i64 r.kind, .int .i64 r.a, .int .i64 r.b, .string ⟨r.name.toArray⟩, .slice pr r.kids.length cr] 25)
  have hb3 := hb2.alloc hb2.size (.cells #[.int .i64 0, .int .i64 0, .int .i64 0, .string ⟨#[]⟩, .slice none 0 0] 25)
  have hb4 := hb3.alloc hb3.size (.cells #[.int .i64 l.kind, .int .i64 l.a, .int .i64 l.b, .string ⟨l.name.toArray⟩, .slice pl l.kids.length cl, .int .i64 r.kind, .int .i64 r.a, .int .i64 r.b, .string ⟨r.name.toArray⟩, .slice pr r.kids.length cr] 25)
  have hz := heap_alloc_new ((w.alloc (.cells #[.int .i64 l.kind, .int .i64 l.a, .int .i64 l.b, .string ⟨l.name.toArray⟩, .slice pl l.kids.length cl] 25)).alloc (.cells #[.int .i64 r.kind, .int .i64 r.a, .int .i64 r.b, .string ⟨r.name.toArray⟩, .slice pr r.kids.length cr] 25)) (.cells #[.int .i64 0, .int .i64 0, .int .i64 0, .string ⟨#[]⟩, .slice none 0 0] 25)
  have hz4 := (Below.heap_alloc _ (.cells #[.int .i64 l.kind, .int .i64 l.a, .int .i64 l.b, .string ⟨l.name.toArray⟩, .slice pl l.kids.length cl, .int .i64 r.kind, .int .i64 r.a, .int .i64 r.b, .string ⟨r.name.toArray⟩, .slice pr r.kids.length cr] 25) _ (lt_of_block hz)).trans hz
  have hs4 := heap_alloc_new (((w.alloc (.cells #[.int .i64 l.kind, .int .i64 l.a, .int .i64 l.b, .string ⟨l.name.toArray⟩, .slice pl l.kids.length cl] 25)).alloc (.cells #[.int .i64 r.kind, .int .i64 r.a, .int .i64 r.b, .string ⟨r.name.toArray⟩, .slice pr r.kids.length cr] 25)).alloc (.cells #[.int .i64 0, .int .i64 0, .int .i64 0, .string ⟨#[]⟩, .slice none 0 0] 25)) (.cells #[.int .i64 l.kind, .int .i64 l.a, .int .i64 l.b, .string ⟨l.name.toArray⟩, .slice pl l.kids.length cl, .int .i64 r.kind, .int .i64 r.a, .int .i64 r.b, .string ⟨r.name.toArray⟩, .slice pr r.kids.length cr] 25)
  rw [show ((w.alloc (.cells #[.int .i64 l.kind, .int .i64 l.a, .int .i64 l.b, .string ⟨l.name.toArray⟩, .slice pl l.kids.length cl] 25)).alloc (.cells #[.int .i64 r.kind, .int .i64 r.a, .int .i64 r.b, .string ⟨r.name.toArray⟩, .slice pr r.kids.length cr] 25)).heap.size = w.heap.size + 2 by simp] at hz4
  rw [show (((w.alloc (.cells #[.int .i64 l.kind, .int .i64 l.a, .int .i64 l.b, .string ⟨l.name.toArray⟩, .slice pl l.kids.length cl] 25)).alloc (.cells #[.int .i64 r.kind, .int .i64 r.a, .int .i64 r.b, .string ⟨r.name.toArray⟩, .slice pr r.kids.length cr] 25)).alloc (.cells #[.int .i64 0, .int .i64 0, .int .i64 0, .string ⟨#[]⟩, .slice none 0 0] 25)).heap.size = w.heap.size + 3 by simp] at hs4
  have h4 := h.below hb4 h0
  have hk4 := Kept.of_below (g := g) hb4
  have hBB : ∀ k, (B k ∧ k ≠ w.heap.size + 2) → k ≠ g := fun k hk => hB k hk.1
  have hl' : KidsAt (fun k => B k ∧ k ≠ w.heap.size + 2) d w (.slice pl l.kids.length cl) l.kids := hl.lt.mono fun k hk => ⟨hk.1, by have := hk.2; omega⟩
  have hr' : KidsAt (fun k => B k ∧ k ≠ w.heap.size + 2) d' w (.slice pr r.kids.length cr) r.kids := hr.lt.mono fun k hk => ⟨hk.1, by have := hk.2; omega⟩
  have kk := kids_two (B := fun k => B k ∧ k ≠ w.heap.size + 2) ⟨hf _ (by omega), by omega⟩ hs4 (hk4.kids hBB hl') (hk4.kids hBB hr')
  clear hb1 hb2 hb3 hb4 hz hs4 hl hr hl' hr'
  generalize hw4 : ((((w.alloc (.cells #[.int .i64 l.kind, .int .i64 l.a, .int .i64 l.b, .string ⟨l.name.toArray⟩, .slice pl l.kids.length cl] 25)).alloc (.cells #[.int .i64 r.kind, .int .i64 r.a, .int .i64 r.b, .string ⟨r.name.toArray⟩, .slice pr r.kids.length cr] 25)).alloc (.cells #[.int .i64 0, .int .i64 0, .int .i64 0, .string ⟨#[]⟩, .slice none 0 0] 25)).alloc (.cells #[.int .i64 l.kind, .int .i64 l.a, .int .i64 l.b, .string ⟨l.name.toArray⟩, .slice pl l.kids.length cl, .int .i64 r.kind, .int .i64 r.a, .int .i64 r.b, .string ⟨r.name.toArray⟩, .slice pr r.kids.length cr] 25)) = w4 at *
  have c := ended_any h0 h4 hn6 _ hBB ⟨kd, 0, 0, [], [l, r]⟩ _ _ kk
  unfold exV at c
  clear kk
  go_enter Tryz.func89, Tryz.ntmps89
  go_wp2_with fail
  refine c.mono ?_
  intro e w5 ho
  clear c hw4
  cases hx : endedP E ⟨kd, 0, 0, [], [l, r]⟩ (all.drop i) n with
  | error q =>
    obtain ⟨er, at_⟩ := q
    rw [hx] at ho
    obtain ⟨rfl, hk5⟩ := ho
    exact ⟨rfl, rfl, hk4.trans hk5⟩
  | ok q =>
    obtain ⟨ex, rr, nn⟩ := q
    rw [hx] at ho
    obtain ⟨i', sl, dd, hr', rfl, hkd, h5, hn5, hk5⟩ := ho
    have hz5 := (hk5.block _ (lt_of_block hz4) (fun e => by have : w.heap.size + 2 = g := Option.some.inj e
                                                            omega)).trans hz4
    have hkw := hk4.trans hk5
    obtain ⟨p5, c5, rfl⟩ := hkd.form
    have hkd' := fun cs => hkd.kept (w' := w5.setRow (w.heap.size + 2) cs) fun k hk _ => setRow_other _ _ _ _ hk.2
    have HF : Hid (∀ cs, OutE all E g v w B (endedP E ⟨kd, 0, 0, [], [l, r]⟩ (all.drop i) n) (.returned (exV ex (.slice p5 ex.kids.length c5))) (w5.setRow (w.heap.size + 2) cs)) := fun cs => by
      rw [hx]
      exact ⟨i', _, dd, hr', rfl, (hkd' cs).mono fun k hk => hk.1, h.of_kept h0 (hkw.setRow (by omega) cs) ((setRow_other _ _ _ _ (by omega)).trans h5.blk) h5.le, hn5, hkw.setRow (by omega) cs⟩
    unfold exV at HF ⊢
    clear h h4 hk4 hk5 hkd hkd' h5 hkw hx hz4
    go_wp2_with (refine wpList_store_row rfl 25 _ _ rfl _ _ rfl rfl _ _ hz5 (by kernel_rfl) (by simp) (by simp [Value.oneCell']) ?_)
    exact ex_ret 8 (by kernel_rfl) (w.heap.size + 2) _ _ _ _ _ rfl rfl (setRow_heap _ _ _ _ _ _ hz5) (HF.out _)
end Go.Proofs.YtllcpoibnmhghaaGreatDoor
