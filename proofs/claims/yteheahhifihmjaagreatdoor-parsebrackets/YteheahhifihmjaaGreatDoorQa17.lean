/- What met and fail come to. -/
import Derived.Test.YteheahhifihmjaaGreatDoorQa15
namespace Go.Proofs.YteheahhifihmjaaGreatDoor
open Go.RowKit Lx

set_option maxRecDepth 100000 in
set_option maxHeartbeats 1000000 in
theorem met_any {all : List Tk} {E g : Nat} {v : Value} {w : World} {i n : Nat} (h0 : PS0 all E g v) (h : PSt all E g v w i n) :
    Calls Tryz.prog 48 #[.pointer (some ⟨g, 0, none⟩)] w fun e w' => e = .returned (tokV E (all.drop i)) ∧ Below w.heap.size w w' := by
  have hgl := lt_of_block h.blk
  have hA := (Below.heap_alloc w (.cells #[.int .i64 0, .int .i64 0, .int .i64 0, .string ⟨#[]⟩] 69) _ hgl).trans h.blk
  have k0 := (cell_of_row _ _ 0 _ _ _ hA).trans rfl
  have k1 := (cell_of_row _ _ 1 _ _ _ hA).trans rfl
  have k2 := (cell_of_row _ _ 2 _ _ _ hA).trans rfl
  have hb0 : Below w.heap.size w (w.alloc (.cells #[.int .i64 0, .int .i64 0, .int .i64 0, .string ⟨#[]⟩] 69)) := (Below.refl _ _).alloc (Nat.le_refl _) _
  have hn := heap_alloc_new w (.cells #[.int .i64 0, .int .i64 0, .int .i64 0, .string ⟨#[]⟩] 69)
  have hlen := h0.len
  have hle := h.le
  have hrow := h.row
  by_cases hi : i < all.length
  · have hi' : (i : Int) < (all.length : Int) := by omega
    have hi0 : (0 : Int) ≤ (i : Int) := by omega
    rcases hrow with ⟨_, _, e⟩ | ⟨gt, o, c, rfl, _, hc⟩
    · rw [e] at hi; simp at hi
    obtain ⟨⟨t, k⟩, htk⟩ : ∃ q, all[i]? = some q := ⟨all[i], List.getElem?_eq_getElem hi⟩
    obtain ⟨c0, c1, c2, c3⟩ := hc i t k htk
    have d0 := (hb0.cell (block_lt_of_cell c0)).trans c0
    have d1 := (hb0.cell (block_lt_of_cell c1)).trans c1
    have d2 := (hb0.cell (block_lt_of_cell c2)).trans c2
    have d3 := (hb0.cell (block_lt_of_cell c3)).trans c3
    have ed : all.drop i = (t, k) :: all.drop (i + 1) := by
      obtain ⟨h1, h2⟩ := List.getElem?_eq_some_iff.1 htk
      rw [List.drop_eq_getElem_cons h1, h2]
    have HR : Hid (tokV E (all.drop i) = .agg #[.int .i64 t.kind, .int .i64 t.n, .int .i64 (k : Int), .string ⟨t.text.toArray⟩]) := by
      show _ = _
      rw [ed]; rfl
    clear hA hgl ed h hc c0 c1 c2 c3 htk
    generalize (⟨t.text.toArray⟩ : ByteArray) = x at *
    generalize hw1 : w.alloc (.cells #[.int .i64 0, .int .i64 0, .int .i64 0, .string ⟨#[]⟩] 69) = w1 at *
    go_enter Tryz.func48, Tryz.ntmps48
    go_wp2
    go_quiet (fail)
    have hn2 : (w1.drewN nq).heap[w.heap.size]? = some (.cells #[.int .i64 0, .int .i64 0, .int .i64 0, .string ⟨#[]⟩] 69 (0, 0)) := hn
    have e0 : (w1.drewN nq).cell? ⟨g, 0, none⟩ = some (.slice (some ⟨gt, o, none⟩) all.length c) := k0
    have e1 : (w1.drewN nq).cell? ⟨g, 1, none⟩ = some (.int .i64 (i : Int)) := k1
    have f0 : (w1.drewN nq).cell? ⟨gt, o + i * 4, none⟩ = some (.int .i64 t.kind) := d0
    have f1 : (w1.drewN nq).cell? ⟨gt, o + i * 4 + 1, none⟩ = some (.int .i64 t.n) := d1
    have f2 : (w1.drewN nq).cell? ⟨gt, o + i * 4 + 2, none⟩ = some (.int .i64 (k : Int)) := d2
    have f3 : (w1.drewN nq).cell? ⟨gt, o + i * 4 + 3, none⟩ = some (.string x) := d3
    have hb2 := below_drewN hb0 nq
    clear hw1 k0 k1 k2 hn hb0 d0 d1 d2 d3
    generalize w1.drewN nq = w2 at *
    have z0 := (cell_of_row _ _ 0 _ _ _ hn2).trans rfl
    have z1 := (cell_of_row _ _ 1 _ _ _ hn2).trans rfl
    have z2 := (cell_of_row _ _ 2 _ _ _ hn2).trans rfl
    have z3 := (cell_of_row _ _ 3 _ _ _ hn2).trans rfl
    have y0 := frozen_of_row _ _ 0 _ _ hn2
    have y1 := frozen_of_row _ _ 1 _ _ hn2
    have y2 := frozen_of_row _ _ 2 _ _ hn2
    have y3 := frozen_of_row _ _ 3 _ _ hn2
    have hm : ((((w2.setCell ⟨w.heap.size, 0, none⟩ (.int .i64 t.kind)).setCell ⟨w.heap.size, 1, none⟩ (.int .i64 t.n)).setCell ⟨w.heap.size, 2, none⟩ (.int .i64 (k : Int))).setCell ⟨w.heap.size, 3, none⟩ (.string x)).heap[w.heap.size]? = some (.cells #[.int .i64 t.kind, .int .i64 t.n, .int .i64 (k : Int), .string x] 69 (0, 0)) :=
      heap_setCell_same _ _ 3 _ _ _ (heap_setCell_same _ _ 2 _ _ _ (heap_setCell_same _ _ 1 _ _ _ (heap_setCell_same _ _ 0 _ _ _ hn2)))
    have hb3 := (((hb2.setCell (p := ⟨w.heap.size, 0, none⟩) (Nat.le_refl _) (.int .i64 t.kind)).setCell (p := ⟨w.heap.size, 1, none⟩) (Nat.le_refl _) (.int .i64 t.n)).setCell (p := ⟨w.heap.size, 2, none⟩) (Nat.le_refl _) (.int .i64 (k : Int))).setCell (p := ⟨w.heap.size, 3, none⟩) (Nat.le_refl _) (.string x)
    go_wp2
    go_region
    go_wp2
    exact tok_ret 2 (by kernel_rfl) w.heap.size (.int .i64 t.kind) (.int .i64 t.n) (.int .i64 (k : Int)) (.string x) rfl rfl hm ⟨by rw [HR.out], below_drewN hb3 1⟩
  · have hi' : ¬ (i : Int) < (all.length : Int) := by omega
    obtain ⟨p, c, rfl⟩ := TRow.form hrow
    have ed : all.drop i = [] := List.drop_eq_nil_of_le (by omega)
    rw [ed]
    clear hA hgl ed hrow h
    generalize hw1 : w.alloc (.cells #[.int .i64 0, .int .i64 0, .int .i64 0, .string ⟨#[]⟩] 69) = w1 at *
    go_enter Tryz.func48, Tryz.ntmps48
    go_wp2
    go_quiet (fail)
    have hn2 : (w1.drewN nq).heap[w.heap.size]? = some (.cells #[.int .i64 0, .int .i64 0, .int .i64 0, .string ⟨#[]⟩] 69 (0, 0)) := hn
    have e2 : (w1.drewN nq).cell? ⟨g, 2, none⟩ = some (.int .i64 (E : Int)) := k2
    have hb2 := below_drewN hb0 nq
    clear hw1 k0 k1 k2 hn hb0
    generalize w1.drewN nq = w2 at *
    go_wp2_with (refine wpList_store_row rfl 69 _ _ rfl _ _ rfl rfl _ _ hn2 (by kernel_rfl) (by simp) (by simp [Value.oneCell']) ?_)
    exact tok_ret 2 (by kernel_rfl) w.heap.size _ _ _ _ rfl rfl (setRow_heap _ _ _ _ _ _ hn2) ⟨rfl, below_setRow hb2 (Nat.le_refl _) _⟩
/-- What is thrown. -/
def thrownV (er : Int) (at_ : Nat) : List PanicEntry := [{ v := .iface 58 (.agg #[.int .i64 er, .int .i64 (at_ : Int)]), recovered := false }]
set_option maxRecDepth 100000 in
theorem fail_any {all : List Tk} {E g : Nat} {v : Value} {w : World} {i n : Nat} (h0 : PS0 all E g v) (h : PSt all E g v w i n) (er : Int) :
    Calls Tryz.prog 28 #[.pointer (some ⟨g, 0, none⟩), .int .i64 er] w fun e w' => e = .panicked (thrownV er (atP E (all.drop i))) ∧ Below w.heap.size w w' := by
  have c := met_any h0 h
  unfold tokV at c
  generalize atP E (all.drop i) = a at *
  go_enter Tryz.func28, Tryz.ntmps28
  go_wp2_with fail
  refine c.mono ?_
  rintro e w1 ⟨rfl, hb1⟩
  go_wp2_with fail
  exact ⟨rfl, rfl, hb1⟩
/-- How a text reads in memory. -/
theorem str_eq (x y : List UInt8) : ((⟨x.toArray⟩ : ByteArray).toList == (⟨y.toArray⟩ : ByteArray).toList) = (x == y) := by rw [Lib.toList_data, Lib.toList_data]
theorem Kept.set (w : World) (g j : Nat) (u : Value) : Kept g w (w.setCell ⟨g, j, none⟩ u) := ⟨rfl, rfl, rfl, by simp, fun k _ hk => heap_setCell_other w ⟨g, j, none⟩ k u (fun e => hk (by rw [e]))⟩
theorem PSt.of_kept {all : List Tk} {E g : Nat} {v : Value} {w : World} {i n i' n' : Nat} {w' : World} (h : PSt all E g v w i n) (h0 : PS0 all E g v) (hk : Kept g w w') (hb : w'.heap[g]? = some (.cells #[v, .int .i64 (i' : Int), .int .i64 (E : Int), .int .i64 (n' : Int)] 60 (0, 0))) (hi : i' ≤ all.length) : PSt all E g v w' i' n' :=
  ⟨hb, hk.row h0.own h.row, hi, hk.days h0.glob h.tab⟩
theorem PSt.set {all : List Tk} {E g : Nat} {v : Value} {w : World} {i n : Nat} (h : PSt all E g v w i n) (h0 : PS0 all E g v) (hi : i + 1 ≤ all.length) : PSt all E g v (w.setCell ⟨g, 1, none⟩ (.int .i64 ((i + 1 : Nat) : Int))) (i + 1) n :=
  h.of_kept h0 (Kept.set _ _ _ _) (heap_setCell_same _ _ 1 _ _ _ h.blk) hi
theorem PSt.setN {all : List Tk} {E g : Nat} {v : Value} {w : World} {i n : Nat} (h : PSt all E g v w i n) (h0 : PS0 all E g v) (m : Nat) : PSt all E g v (w.setCell ⟨g, 3, none⟩ (.int .i64 (m : Int))) i m :=
  h.of_kept h0 (Kept.set _ _ _ _) (heap_setCell_same _ _ 3 _ _ _ h.blk) h.le
theorem isT_len {x : List UInt8} {all : List Tk} {i : Nat} (hx : x ≠ []) (h : isT x (all.drop i) = true) : i + 1 ≤ all.length := by
  have := isT_cons hx h
  simp at this; omega

set_option maxRecDepth 100000 in
theorem skip_yes {all : List Tk} {E g : Nat} {v : Value} {w : World} {i n : Nat} (h0 : PS0 all E g v) (h : PSt all E g v w i n) (x : List UInt8) (hx : x ≠ []) (hT : isT x (all.drop i) = true) :
    Calls Tryz.prog 47 #[.pointer (some ⟨g, 0, none⟩), .string ⟨x.toArray⟩] w fun e w' => e = .returned (.bool true) ∧ PSt all E g v w' (i + 1) n ∧ Kept g w w' := by
  have c := met_any h0 h
  have hlen := h0.len
  have hi := isT_len hx hT
  have he : ((⟨(textP (all.drop i)).toArray⟩ : ByteArray).toList == (⟨x.toArray⟩ : ByteArray).toList) = true := by rw [str_eq]; exact hT
  unfold tokV at c
  generalize (⟨(textP (all.drop i)).toArray⟩ : ByteArray) = tx at *
  generalize (⟨x.toArray⟩ : ByteArray) = xx at *
  go_enter Tryz.func47, Tryz.ntmps47
  go_wp2_with fail
  refine c.mono ?_
  rintro e w1 ⟨rfl, hb1⟩
  have h1 := h.below hb1 h0
  have k1 := (cell_of_row _ _ 1 _ _ _ h1.blk).trans rfl
  have y1 := frozen_of_row _ _ 1 _ _ h1.blk
  have h2 := h1.set h0 hi
  have hk2 := (Kept.of_below (g := g) hb1).trans (Kept.set w1 g 1 (.int .i64 ((i + 1 : Nat) : Int)))
  have ei : (i : Int) + 1 = ((i + 1 : Nat) : Int) := by omega
  have hi6 : (i : Int) ≤ 6000 := by omega
  generalize ((i + 1 : Nat) : Int) = vv at *
  clear c h h1 hb1 hT
  go_wp2_with fail
  go_ret
  exact ⟨rfl, h2, hk2⟩
end Go.Proofs.YteheahhifihmjaaGreatDoor

/- What skip, must, see, take, takeFrom, ended and pair come to. -/
namespace Go.Proofs.YteheahhifihmjaaGreatDoor
open Go.RowKit Lx
variable {all : List Tk} {E g : Nat} {v : Value} {w : World} {i n : Nat}

set_option maxRecDepth 100000 in
theorem skip_no (h0 : PS0 all E g v) (h : PSt all E g v w i n) (x : List UInt8) (hT : isT x (all.drop i) = false) :
    Calls Tryz.prog 47 #[.pointer (some ⟨g, 0, none⟩), .string ⟨x.toArray⟩] w fun e w' => e = .returned (.bool false) ∧ PSt all E g v w' i n ∧ Kept g w w' := by
  have c := met_any h0 h
  have he : ((⟨(textP (all.drop i)).toArray⟩ : ByteArray).toList == (⟨x.toArray⟩ : ByteArray).toList) = false := by rw [str_eq]; exact hT
  unfold tokV at c
  generalize (⟨(textP (all.drop i)).toArray⟩ : ByteArray) = tx at *
  generalize (⟨x.toArray⟩ : ByteArray) = xx at *
  clear hT
  go_enter Tryz.func47, Tryz.ntmps47
  go_wp2_with fail
  refine c.mono ?_
  rintro e w1 ⟨rfl, hb1⟩
  have h1 := h.below hb1 h0
  have hk1 := Kept.of_below (g := g) hb1
  clear c h hb1
  go_wp2_with fail
  go_ret
  exact ⟨rfl, h1, hk1⟩
theorem must_yes (h0 : PS0 all E g v) (h : PSt all E g v w i n) (x : List UInt8) (hx : x ≠ []) (hT : isT x (all.drop i) = true) :
    Calls Tryz.prog 27 #[.pointer (some ⟨g, 0, none⟩), .string ⟨x.toArray⟩] w fun e w' => e = .returned (.tuple #[]) ∧ PSt all E g v w' (i + 1) n ∧ Kept g w w' := by
  have c := skip_yes h0 h x hx hT
  clear hT h
  go_enter Tryz.func27, Tryz.ntmps27
  go_wp2_with fail
  refine c.mono ?_
  rintro e w1 ⟨rfl, h1, hk1⟩
  go_wp2_with fail
  go_end0
  exact ⟨rfl, h1, hk1⟩
theorem must_no (h0 : PS0 all E g v) (h : PSt all E g v w i n) (x : List UInt8) (hT : isT x (all.drop i) = false) :
    Calls Tryz.prog 27 #[.pointer (some ⟨g, 0, none⟩), .string ⟨x.toArray⟩] w fun e w' => e = .panicked (thrownV 2 (atP E (all.drop i))) ∧ Kept g w w' := by
  have c := skip_no h0 h x hT
  clear hT h
  go_enter Tryz.func27, Tryz.ntmps27
  go_wp2_with fail
  refine c.mono ?_
  rintro e w1 ⟨rfl, h1, hk1⟩
  go_wp2_with fail
  refine (fail_any h0 h1 2).mono ?_
  rintro e w2 ⟨rfl, hb2⟩
  exact ⟨rfl, rfl, hk1.trans (Kept.of_below hb2)⟩

set_option maxRecDepth 100000 in
theorem see_yes (h0 : PS0 all E g v) (h : PSt all E g v w i n) (kd : Int) (hk : kindP (all.drop i) = kd) :
    Calls Tryz.prog 64 #[.pointer (some ⟨g, 0, none⟩), .int .i64 kd] w fun e w' => e = .returned (tokV E (all.drop i)) ∧ PSt all E g v w' i n ∧ Below w.heap.size w w' := by
  have hb0 : Below w.heap.size w (w.alloc (.cells #[.int .i64 0, .int .i64 0, .int .i64 0, .string ⟨#[]⟩] 69)) := (Below.refl _ _).alloc (Nat.le_refl _) _
  have hn := heap_alloc_new w (.cells #[.int .i64 0, .int .i64 0, .int .i64 0, .string ⟨#[]⟩] 69)
  have hA := h.below hb0 h0
  have c := met_any h0 hA
  have c2 := fun (w1 : World) (h1 : PSt all E g v w1 i n) => met_any h0 h1
  unfold tokV at c c2 ⊢
  rw [hk] at c
  generalize hw1 : w.alloc (.cells #[.int .i64 0, .int .i64 0, .int .i64 0, .string ⟨#[]⟩] 69) = wA at *
  go_enter Tryz.func64, Tryz.ntmps64
  go_wp2_with fail
  refine c.mono ?_
  rintro e w1 ⟨rfl, hb1⟩
  have h1 := hA.below hb1 h0
  have hn1 := (hb1.block _ (lt_of_block hn)).trans hn
  have hbw1 := hb0.trans (hb1.mono hb0.size)
  have hne : (kd != kd) = false := by simp
  clear c hA hb1 hw1 hn hb0 hk
  go_wp2_with fail
  refine (c2 _ h1).mono ?_
  rintro e w2 ⟨rfl, hb2⟩
  have h2 := h1.below hb2 h0
  have hn2 := (hb2.block _ (lt_of_block hn1)).trans hn1
  have hbw2 := hbw1.trans (hb2.mono hbw1.size)
  clear c2 h1 hb2 hn1 hbw1
  have hs : Below w.heap.size w (w2.setRow w.heap.size #[.int .i64 (kindP (all.drop i)), .int .i64 (numP (all.drop i)), .int .i64 (atP E (all.drop i) : Int), .string ⟨(textP (all.drop i)).toArray⟩]) := below_setRow hbw2 (Nat.le_refl _) _
  go_wp2_with (refine wpList_store_row rfl 69 _ _ rfl _ _ rfl rfl _ _ hn2 (by kernel_rfl) (by simp) (by simp [Value.oneCell']) ?_)
  exact tok_ret 4 (by kernel_rfl) w.heap.size _ _ _ _ rfl rfl (setRow_heap _ _ _ _ _ _ hn2) ⟨rfl, h.below hs h0, hs⟩
set_option maxRecDepth 100000 in
theorem see_no (h0 : PS0 all E g v) (h : PSt all E g v w i n) (kd : Int) (hk : kindP (all.drop i) ≠ kd) :
    Calls Tryz.prog 64 #[.pointer (some ⟨g, 0, none⟩), .int .i64 kd] w fun e w' => e = .panicked (thrownV 2 (atP E (all.drop i))) ∧ Below w.heap.size w w' := by
  have hb0 : Below w.heap.size w (w.alloc (.cells #[.int .i64 0, .int .i64 0, .int .i64 0, .string ⟨#[]⟩] 69)) := (Below.refl _ _).alloc (Nat.le_refl _) _
  have hA := h.below hb0 h0
  have c := met_any h0 hA
  unfold tokV at c
  have hne : (kindP (all.drop i) != kd) = true := by simpa using hk
  have c2 := fun (w1 : World) (h1 : PSt all E g v w1 i n) => fail_any h0 h1 2
  generalize kindP (all.drop i) = kq at *
  generalize hw1 : w.alloc (.cells #[.int .i64 0, .int .i64 0, .int .i64 0, .string ⟨#[]⟩] 69) = wA at *
  clear hk
  go_enter Tryz.func64, Tryz.ntmps64
  go_wp2_with fail
  refine c.mono ?_
  rintro e w1 ⟨rfl, hb1⟩
  have h1 := hA.below hb1 h0
  have hbw1 := hb0.trans (hb1.mono hb0.size)
  clear c hA hb1 hw1 hb0
  go_wp2_with fail
  refine (c2 _ h1).mono ?_
  rintro e w2 ⟨rfl, hb2⟩
  exact ⟨rfl, rfl, hbw1.trans (hb2.mono hbw1.size)⟩
end Go.Proofs.YteheahhifihmjaaGreatDoor

/- What take, takeFrom and ended come to. -/
namespace Go.Proofs.YteheahhifihmjaaGreatDoor
open Go.RowKit Lx
variable {all : List Tk} {E g : Nat} {v : Value} {w : World} {i n : Nat}

theorem Kept.setRow {w' : World} {k : Nat} (h : Kept g w w') (hk : w.heap.size ≤ k) (cs : Array Value) : Kept g w (w'.setRow k cs) :=
  ⟨h.os, h.tape, h.output, by simpa [World.setRow] using h.size, fun j hj hne => (setRow_other w' k j cs (by omega)).trans (h.block j hj hne)⟩
theorem Kept.alloc {w' : World} (h : Kept g w w') (o : Obj) : Kept g w (w'.alloc o) := h.trans (Kept.of_below ((Below.refl _ _).alloc (Nat.le_refl _) o))
theorem kind_len {all : List Tk} {i : Nat} (h : kindP (all.drop i) ≠ 0) : i + 1 ≤ all.length := by
  have := kindP_cons h
  simp at this; omega

set_option maxRecDepth 100000 in
set_option maxHeartbeats 1000000 in
theorem take_yes (h0 : PS0 all E g v) (h : PSt all E g v w i n) (kd : Int) (hkd : kd ≠ 0) (hk : kindP (all.drop i) = kd) :
    Calls Tryz.prog 49 #[.pointer (some ⟨g, 0, none⟩), .int .i64 kd] w fun e w' => e = .returned (tokV E (all.drop i)) ∧ PSt all E g v w' (i + 1) n ∧ Kept g w w' := by
  have hgl := lt_of_block h.blk
  have hlen := h0.len
  have hi : i + 1 ≤ all.length := kind_len (by rw [hk]; exact hkd)
  have hb0 : Below w.heap.size w (w.alloc (.cells #[.int .i64 0, .int .i64 0, .int .i64 0, .string ⟨#[]⟩] 69)) := (Below.refl _ _).alloc (Nat.le_refl _) _
  have hn := heap_alloc_new w (.cells #[.int .i64 0, .int .i64 0, .int .i64 0, .string ⟨#[]⟩] 69)
  have hA := h.below hb0 h0
  have c := see_yes h0 hA kd hk
  unfold tokV at c ⊢
  clear hk hkd
  generalize kindP (all.drop i) = t0 at *
  generalize numP (all.drop i) = t1 at *
  generalize (atP E (all.drop i) : Int) = t2 at *
  generalize (⟨(textP (all.drop i)).toArray⟩ : ByteArray) = t3 at *
  generalize hw1 : w.alloc (.cells #[.int .i64 0, .int .i64 0, .int .i64 0, .string ⟨#[]⟩] 69) = wA at *
  go_enter Tryz.func49, Tryz.ntmps49
  go_wp2_with fail
  refine c.mono ?_
  rintro e w1 ⟨rfl, h1, hb1⟩
  have hn1 := (hb1.block _ (lt_of_block hn)).trans hn
  have hbw1 := hb0.trans (hb1.mono hb0.size)
  have hws := lt_of_block hn1
  have hb2 : Below w1.heap.size w1 (w1.alloc (.cells #[.int .i64 t0, .int .i64 t1, .int .i64 t2, .string t3] 69)) := (Below.refl _ _).alloc (Nat.le_refl _) _
  have h2 := h1.below hb2 h0
  have hx2 := heap_alloc_new w1 (.cells #[.int .i64 t0, .int .i64 t1, .int .i64 t2, .string t3] 69)
  have hn2 := (hb2.block _ (lt_of_block hn1)).trans hn1
  have hk2 : Kept g w (w1.alloc (.cells #[.int .i64 t0, .int .i64 t1, .int .i64 t2, .string t3] 69)) := (Kept.of_below hbw1).alloc _
  clear c hA hb1 hw1 hn hb0 hbw1 hn1 h1 hb2
  generalize hw2 : w1.alloc (.cells #[.int .i64 t0, .int .i64 t1, .int .i64 t2, .string t3] 69) = w2 at *
  have k1 := (cell_of_row _ _ 1 _ _ _ h2.blk).trans rfl
  have y1 := frozen_of_row _ _ 1 _ _ h2.blk
  have h3 := h2.set h0 hi
  have hk3 := hk2.trans (Kept.set w2 g 1 (.int .i64 ((i + 1 : Nat) : Int)))
  have hx3 := (heap_setCell_other w2 ⟨g, 1, none⟩ w1.heap.size (.int .i64 ((i + 1 : Nat) : Int)) (by show w1.heap.size ≠ g; omega)).trans hx2
  have hn3 := (heap_setCell_other w2 ⟨g, 1, none⟩ w.heap.size (.int .i64 ((i + 1 : Nat) : Int)) (by show w.heap.size ≠ g; omega)).trans hn2
  have ei : (i : Int) + 1 = ((i + 1 : Nat) : Int) := by omega
  have hi6 : (i : Int) ≤ 6000 := by omega
  have HF : Hid (∀ cs, PSt all E g v ((w2.setCell ⟨g, 1, none⟩ (.int .i64 ((i + 1 : Nat) : Int))).setRow w.heap.size cs) (i + 1) n) := fun cs =>
    h.of_kept h0 (hk3.setRow (Nat.le_refl _) cs) ((setRow_other _ _ _ _ (by omega)).trans h3.blk) h3.le
  have hk4 := fun cs => hk3.setRow (Nat.le_refl _) cs
  generalize ((i + 1 : Nat) : Int) = vv at *
  clear h h2 h3 hk2 hk3 hx2 hn2
  go_wp2_with (first
    | (refine wpList_load_row rfl 69 _ rfl _ rfl _ _ _ _ hx3 tokType rfl (by kernel_rfl) ?_)
    | (refine wpList_store_row rfl 69 _ _ rfl _ _ rfl rfl _ _ hn3 (by kernel_rfl) (by simp) (by simp [Value.oneCell']) ?_))
  exact tok_ret 4 (by kernel_rfl) w.heap.size _ _ _ _ rfl rfl (setRow_heap _ _ _ _ _ _ hn3) ⟨rfl, HF.out _, hk4 _⟩
set_option maxRecDepth 100000 in
theorem take_no (h0 : PS0 all E g v) (h : PSt all E g v w i n) (kd : Int) (hk : kindP (all.drop i) ≠ kd) :
    Calls Tryz.prog 49 #[.pointer (some ⟨g, 0, none⟩), .int .i64 kd] w fun e w' => e = .panicked (thrownV 2 (atP E (all.drop i))) ∧ Kept g w w' := by
  have hb0 : Below w.heap.size w (w.alloc (.cells #[.int .i64 0, .int .i64 0, .int .i64 0, .string ⟨#[]⟩] 69)) := (Below.refl _ _).alloc (Nat.le_refl _) _
  have hA := h.below hb0 h0
  have c := see_no h0 hA kd hk
  generalize hw1 : w.alloc (.cells #[.int .i64 0, .int .i64 0, .int .i64 0, .string ⟨#[]⟩] 69) = wA at *
  go_enter Tryz.func49, Tryz.ntmps49
  go_wp2_with fail
  refine c.mono ?_
  rintro e w1 ⟨rfl, hb1⟩
  exact ⟨rfl, rfl, Kept.of_below (hb0.trans (hb1.mono hb0.size))⟩
set_option maxRecDepth 100000 in
theorem takeFrom_kind (h0 : PS0 all E g v) (h : PSt all E g v w i n) (kd m : Int) (hk : kindP (all.drop i) ≠ kd) :
    Calls Tryz.prog 108 #[.pointer (some ⟨g, 0, none⟩), .int .i64 kd, .int .i64 m] w fun e w' => e = .panicked (thrownV 2 (atP E (all.drop i))) ∧ Kept g w w' := by
  have hb0 : Below w.heap.size w (w.alloc (.cells #[.int .i64 0, .int .i64 0, .int .i64 0, .string ⟨#[]⟩] 69)) := (Below.refl _ _).alloc (Nat.le_refl _) _
  have hA := h.below hb0 h0
  have c := see_no h0 hA kd hk
  generalize hw1 : w.alloc (.cells #[.int .i64 0, .int .i64 0, .int .i64 0, .string ⟨#[]⟩] 69) = wA at *
  go_enter Tryz.func108, Tryz.ntmps108
  go_wp2_with fail
  refine c.mono ?_
  rintro e w1 ⟨rfl, hb1⟩
  exact ⟨rfl, rfl, Kept.of_below (hb0.trans (hb1.mono hb0.size))⟩
set_option maxRecDepth 100000 in
theorem takeFrom_range (h0 : PS0 all E g v) (h : PSt all E g v w i n) (kd m : Int) (hk : kindP (all.drop i) = kd) (hm : numP (all.drop i) < m) :
    Calls Tryz.prog 108 #[.pointer (some ⟨g, 0, none⟩), .int .i64 kd, .int .i64 m] w fun e w' => e = .panicked (thrownV 3 (atP E (all.drop i))) ∧ Kept g w w' := by
  have hb0 : Below w.heap.size w (w.alloc (.cells #[.int .i64 0, .int .i64 0, .int .i64 0, .string ⟨#[]⟩] 69)) := (Below.refl _ _).alloc (Nat.le_refl _) _
  have hA := h.below hb0 h0
  have c := see_yes h0 hA kd hk
  have c2 := fun (w1 : World) (h1 : PSt all E g v w1 i n) => fail_any h0 h1 3
  unfold tokV at c
  clear hk
  generalize kindP (all.drop i) = t0 at *
  generalize numP (all.drop i) = t1 at *
  generalize hw1 : w.alloc (.cells #[.int .i64 0, .int .i64 0, .int .i64 0, .string ⟨#[]⟩] 69) = wA at *
  go_enter Tryz.func108, Tryz.ntmps108
  go_wp2_with fail
  refine c.mono ?_
  rintro e w1 ⟨rfl, h1, hb1⟩
  have hbw1 := hb0.trans (hb1.mono hb0.size)
  clear c hA hb1 hw1 hb0
  go_wp2_with fail
  refine (c2 _ h1).mono ?_
  rintro e w2 ⟨rfl, hb2⟩
  exact ⟨rfl, rfl, Kept.of_below (hbw1.trans (hb2.mono hbw1.size))⟩
set_option maxRecDepth 100000 in
set_option maxHeartbeats 1000000 in
theorem takeFrom_yes (h0 : PS0 all E g v) (h : PSt all E g v w i n) (kd m : Int) (hkd : kd ≠ 0) (hk : kindP (all.drop i) = kd) (hm : ¬ numP (all.drop i) < m) :
    Calls Tryz.prog 108 #[.pointer (some ⟨g, 0, none⟩), .int .i64 kd, .int .i64 m] w fun e w' => e = .returned (tokV E (all.drop i)) ∧ PSt all E g v w' (i + 1) n ∧ Kept g w w' := by
  have hgl := lt_of_block h.blk
  have hb0 : Below w.heap.size w (w.alloc (.cells #[.int .i64 0, .int .i64 0, .int .i64 0, .string ⟨#[]⟩] 69)) := (Below.refl _ _).alloc (Nat.le_refl _) _
  have hn := heap_alloc_new w (.cells #[.int .i64 0, .int .i64 0, .int .i64 0, .string ⟨#[]⟩] 69)
  have hA := h.below hb0 h0
  have c := see_yes h0 hA kd hk
  have c2 := fun (w1 : World) (h1 : PSt all E g v w1 i n) => take_yes h0 h1 kd hkd hk
  unfold tokV at c c2 ⊢
  clear hk hkd
  generalize kindP (all.drop i) = t0 at *
  generalize numP (all.drop i) = t1 at *
  generalize (atP E (all.drop i) : Int) = t2 at *
  generalize (⟨(textP (all.drop i)).toArray⟩ : ByteArray) = t3 at *
  generalize hw1 : w.alloc (.cells #[.int .i64 0, .int .i64 0, .int .i64 0, .string ⟨#[]⟩] 69) = wA at *
  go_enter Tryz.func108, Tryz.ntmps108
  go_wp2_with fail
  refine c.mono ?_
  rintro e w1 ⟨rfl, h1, hb1⟩
  have hn1 := (hb1.block _ (lt_of_block hn)).trans hn
  have hbw1 := hb0.trans (hb1.mono hb0.size)
  clear c hA hb1 hw1 hn hb0
  go_wp2_with fail
  refine (c2 _ h1).mono ?_
  rintro e w2 ⟨rfl, h2, hk2⟩
  have hn2 := (hk2.block _ (lt_of_block hn1) (fun e => by have : w.heap.size = g := Option.some.inj e
                                                          omega)).trans hn1
  have hkw2 := (Kept.of_below (g := g) hbw1).trans hk2
  have HF : Hid (∀ cs, PSt all E g v (w2.setRow w.heap.size cs) (i + 1) n) := fun cs =>
    h.of_kept h0 (hkw2.setRow (Nat.le_refl _) cs) ((setRow_other _ _ _ _ (by omega)).trans h2.blk) h2.le
  have hk4 := fun cs => hkw2.setRow (Nat.le_refl _) cs
  clear h h1 h2 hk2 hkw2 hn1 hbw1 c2
  go_wp2_with (refine wpList_store_row rfl 69 _ _ rfl _ _ rfl rfl _ _ hn2 (by kernel_rfl) (by simp) (by simp [Value.oneCell']) ?_)
  exact tok_ret 6 (by kernel_rfl) w.heap.size _ _ _ _ rfl rfl (setRow_heap _ _ _ _ _ _ hn2) ⟨rfl, HF.out _, hk4 _⟩
end Go.Proofs.YteheahhifihmjaaGreatDoor
