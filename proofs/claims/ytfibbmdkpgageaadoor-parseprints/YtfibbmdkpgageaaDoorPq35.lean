/- The document's reader in memory, and what its small functions come to. -/
import Derived.Test.YtfibbmdkpgageaaDoorPq34
namespace Go.Proofs.YtfibbmdkpgageaaDoor
open Go.RowKit Lx
variable {all : List Tk} {E g : Nat} {v : Value} {w : World} {i n : Nat} {er at_ : Int}

def signW : List (List UInt8) := [wPlus, wMinus, wAnd, wOpen, wShut, wComma, wColon, wSemi, wIs, wTo]
/-- A token's text tells its kind. -/
def TkOK (t : T1) : Prop := (t.text ∈ signW → t.kind = 3) ∧ (t.text ∈ wordsL → t.kind = 2)
/-- What holds all the while. -/
structure WS0 (all : List Tk) (E g : Nat) (v : Value) : Prop where
  len : all.length ≤ 6000
  fin : E ≤ 6000
  own : v.ownBlock ≠ some g
  num : ∀ p ∈ all, 0 ≤ p.1.n ∧ p.1.n ≤ 999999
  kind : ∀ p ∈ all, TkOK p.1
/-- The reader stands ahead of token i; so many expressions are made; what is wrong so far, and where. -/
structure WSt (all : List Tk) (E g : Nat) (v : Value) (w : World) (i n : Nat) (er at_ : Int) : Prop where
  blk : w.heap[g]? = some (.cells #[v, .int .i64 (i : Int), .int .i64 (E : Int), .int .i64 (n : Int), .int .i64 er, .int .i64 at_] 52 (0, 0))
  row : TRow w v all
  le : i ≤ all.length
theorem WSt.of_kept {i' n' : Nat} {er' at' : Int} {w' : World} (h : WSt all E g v w i n er at_) (h0 : WS0 all E g v) (hk : Kept g w w') (hb : w'.heap[g]? = some (.cells #[v, .int .i64 (i' : Int), .int .i64 (E : Int), .int .i64 (n' : Int), .int .i64 er', .int .i64 at'] 52 (0, 0))) (hi : i' ≤ all.length) : WSt all E g v w' i' n' er' at' :=
  ⟨hb, hk.row h0.own h.row, hi⟩
theorem WSt.below {w' : World} (h : WSt all E g v w i n er at_) (hb : Below w.heap.size w w') (h0 : WS0 all E g v) : WSt all E g v w' i n er at_ :=
  h.of_kept h0 (Kept.of_below hb) ((hb.block g (lt_of_block h.blk)).trans h.blk) h.le
theorem WSt.set (h : WSt all E g v w i n er at_) (h0 : WS0 all E g v) (hi : i + 1 ≤ all.length) : WSt all E g v (w.setCell ⟨g, 1, none⟩ (.int .i64 ((i + 1 : Nat) : Int))) (i + 1) n er at_ :=
  h.of_kept h0 (Kept.set _ _ _ _) (heap_setCell_same _ _ 1 _ _ _ h.blk) hi
theorem WSt.setN (h : WSt all E g v w i n er at_) (h0 : WS0 all E g v) (m : Nat) : WSt all E g v (w.setCell ⟨g, 3, none⟩ (.int .i64 (m : Int))) i m er at_ :=
  h.of_kept h0 (Kept.set _ _ _ _) (heap_setCell_same _ _ 3 _ _ _ h.blk) h.le

set_option maxRecDepth 100000 in
set_option maxHeartbeats 1000000 in
theorem next_any (h0 : WS0 all E g v) (h : WSt all E g v w i n er at_) :
    Calls Tryd.prog 25 #[.pointer (some ⟨g, 0, none⟩)] w fun e w' => e = .returned (tokV E (all.drop i)) ∧ Below w.heap.size w w' := by
  have hgl := lt_of_block h.blk
  have hA := (Below.heap_alloc w (.cells #[.int .i64 0, .int .i64 0, .int .i64 0, .string ⟨#[]⟩] 30) _ hgl).trans h.blk
  have k0 := (cell_of_row _ _ 0 _ _ _ hA).trans rfl
  have k1 := (cell_of_row _ _ 1 _ _ _ hA).trans rfl
  have k2 := (cell_of_row _ _ 2 _ _ _ hA).trans rfl
  have hb0 : Below w.heap.size w (w.alloc (.cells #[.int .i64 0, .int .i64 0, .int .i64 0, .string ⟨#[]⟩] 30)) := (Below.refl _ _).alloc (Nat.le_refl _) _
  have hn := heap_alloc_new w (.cells #[.int .i64 0, .int .i64 0, .int .i64 0, .string ⟨#[]⟩] 30)
  have hlen := h0.len
  have hle := h.le
  have hrow := h.row
  by_cases hi : i < all.length
  · have hi' : (i : Int) < (all.length : Int) := by omega
    have hi0 : (0 : Int) ≤ (i : Int) := by omega
    rcases hrow with ⟨_, _, e⟩ | ⟨gt, o, c, rfl, _, hc⟩
    · rw [e] at hi; simp at hi
    obtain ⟨⟨t, k⟩, htk⟩ : ∃ q, all[i]? = some q := ⟨all[i], List.getElem?_eq_getElem hi⟩
    obtain ⟨c0, c1, c2, c3⟩ := hc i t k htk
    have d0 := (hb0.cell (block_lt_of_cell c0)).trans c0
    have d1 := (hb0.cell (block_lt_of_cell c1)).trans c1
    have d2 := (hb0.cell (block_lt_of_cell c2)).trans c2
    have d3 := (hb0.cell (block_lt_of_cell c3)).trans c3
    have ed : all.drop i = (t, k) :: all.drop (i + 1) := by
      obtain ⟨h1, h2⟩ := List.getElem?_eq_some_iff.1 htk
      rw [List.drop_eq_getElem_cons h1, h2]
    have HR : Hid (tokV E (all.drop i) = .agg #[.int .i64 t.kind, .int .i64 t.n, .int .i64 (k : Int), .string ⟨t.text.toArray⟩]) := by
      show _ = _
      rw [ed]; rfl
    clear hA hgl ed h hc c0 c1 c2 c3 htk
    generalize (⟨t.text.toArray⟩ : ByteArray) = x at *
    generalize hw1 : w.alloc (.cells #[.int .i64 0, .int .i64 0, .int .i64 0, .string ⟨#[]⟩] 30) = w1 at *
    go_enter Tryd.func25, Tryd.ntmps25
    go_wp2
    go_quiet (fail)
    have hn2 : (w1.drewN nq).heap[w.heap.size]? = some (.cells #[.int .i64 0, .int .i64 0, .int .i64 0, .string ⟨#[]⟩] 30 (0, 0)) := hn
    have e0 : (w1.drewN nq).cell? ⟨g, 0, none⟩ = some (.slice (some ⟨gt, o, none⟩) all.length c) := k0
    have e1 : (w1.drewN nq).cell? ⟨g, 1, none⟩ = some (.int .i64 (i : Int)) := k1
    have f0 : (w1.drewN nq).cell? ⟨gt, o + i * 4, none⟩ = some (.int .i64 t.kind) := d0
    have f1 : (w1.drewN nq).cell? ⟨gt, o + i * 4 + 1, none⟩ = some (.int .i64 t.n) := d1
    have f2 : (w1.drewN nq).cell? ⟨gt, o + i * 4 + 2, none⟩ = some (.int .i64 (k : Int)) := d2
    have f3 : (w1.drewN nq).cell? ⟨gt, o + i * 4 + 3, none⟩ = some (.string x) := d3
    have hb2 := below_drewN hb0 nq
    clear hw1 k0 k1 k2 hn hb0 d0 d1 d2 d3
    generalize w1.drewN nq = w2 at *
    have z0 := (cell_of_row _ _ 0 _ _ _ hn2).trans rfl
    have z1 := (cell_of_row _ _ 1 _ _ _ hn2).trans rfl
    have z2 := (cell_of_row _ _ 2 _ _ _ hn2).trans rfl
    have z3 := (cell_of_row _ _ 3 _ _ _ hn2).trans rfl
    have y0 := frozen_of_row _ _ 0 _ _ hn2
    have y1 := frozen_of_row _ _ 1 _ _ hn2
    have y2 := frozen_of_row _ _ 2 _ _ hn2
    have y3 := frozen_of_row _ _ 3 _ _ hn2
    have hm : ((((w2.setCell ⟨w.heap.size, 0, none⟩ (.int .i64 t.kind)).setCell ⟨w.heap.size, 1, none⟩ (.int .i64 t.n)).setCell ⟨w.heap.size, 2, none⟩ (.int .i64 (k : Int))).setCell ⟨w.heap.size, 3, none⟩ (.string x)).heap[w.heap.size]? = some (.cells #[.int .i64 t.kind, .int .i64 t.n, .int .i64 (k : Int), .string x] 30 (0, 0)) :=
      heap_setCell_same _ _ 3 _ _ _ (heap_setCell_same _ _ 2 _ _ _ (heap_setCell_same _ _ 1 _ _ _ (heap_setCell_same _ _ 0 _ _ _ hn2)))
    have hb3 := (((hb2.setCell (p := ⟨w.heap.size, 0, none⟩) (Nat.le_refl _) (.int .i64 t.kind)).setCell (p := ⟨w.heap.size, 1, none⟩) (Nat.le_refl _) (.int .i64 t.n)).setCell (p := ⟨w.heap.size, 2, none⟩) (Nat.le_refl _) (.int .i64 (k : Int))).setCell (p := ⟨w.heap.size, 3, none⟩) (Nat.le_refl _) (.string x)
    go_wp2
    go_region
    go_wp2
    exact tok_ret 2 (by kernel_rfl) w.heap.size (.int .i64 t.kind) (.int .i64 t.n) (.int .i64 (k : Int)) (.string x) rfl rfl hm ⟨by rw [HR.out], below_drewN hb3 1⟩
  · have hi' : ¬ (i : Int) < (all.length : Int) := by omega
    obtain ⟨p, c, rfl⟩ := TRow.form hrow
    have ed : all.drop i = [] := List.drop_eq_nil_of_le (by omega)
    rw [ed]
    clear hA hgl ed hrow h
    generalize hw1 : w.alloc (.cells #[.int .i64 0, .int .i64 0, .int .i64 0, .string ⟨#[]⟩] 30) = w1 at *
    go_enter Tryd.func25, Tryd.ntmps25
    go_wp2
    go_quiet (fail)
    have hn2 : (w1.drewN nq).heap[w.heap.size]? = some (.cells #[.int .i64 0, .int .i64 0, .int .i64 0, .string ⟨#[]⟩] 30 (0, 0)) := hn
    have e2 : (w1.drewN nq).cell? ⟨g, 2, none⟩ = some (.int .i64 (E : Int)) := k2
    have hb2 := below_drewN hb0 nq
    clear hw1 k0 k1 k2 hn hb0
    generalize w1.drewN nq = w2 at *
    go_wp2_with (refine wpList_store_row rfl 30 _ _ rfl _ _ rfl rfl _ _ hn2 (by kernel_rfl) (by simp) (by simp [Value.oneCell']) ?_)
    exact tok_ret 2 (by kernel_rfl) w.heap.size _ _ _ _ rfl rfl (setRow_heap _ _ _ _ _ _ hn2) ⟨rfl, below_setRow hb2 (Nat.le_refl _) _⟩

theorem good_any (h : WSt all E g v w i n er at_) : Calls Tryd.prog 22 #[.pointer (some ⟨g, 0, none⟩)] w fun e w' => e = .returned (.bool (er == 0)) ∧ w' = w := by
  have k4 := (cell_of_row _ _ 4 _ _ _ h.blk).trans rfl
  clear h
  go_enter Tryd.func22, Tryd.ntmps22
  go_wp2
  go_ret
  exact ⟨rfl, rfl⟩
set_option maxRecDepth 100000 in
theorem stop_good (h0 : WS0 all E g v) (h : WSt all E g v w i n 0 at_) (e' a' : Int) :
    Calls Tryd.prog 24 #[.pointer (some ⟨g, 0, none⟩), .int .i64 e', .int .i64 a'] w fun e w' => e = .returned (.tuple #[]) ∧ WSt all E g v w' i n e' a' ∧ Kept g w w' := by
  have c := good_any h
  have k4 := (cell_of_row _ _ 4 _ _ _ h.blk).trans rfl
  have k5 := (cell_of_row _ _ 5 _ _ _ h.blk).trans rfl
  have y4 := frozen_of_row _ _ 4 _ _ h.blk
  have y5 := frozen_of_row _ _ 5 _ _ h.blk
  have hk : Kept g w ((w.setCell ⟨g, 4, none⟩ (.int .i64 e')).setCell ⟨g, 5, none⟩ (.int .i64 a')) := (Kept.set _ _ _ _).trans (Kept.set _ _ _ _)
  have hF : WSt all E g v ((w.setCell ⟨g, 4, none⟩ (.int .i64 e')).setCell ⟨g, 5, none⟩ (.int .i64 a')) i n e' a' := h.of_kept h0 hk (heap_setCell_same _ _ 5 _ _ _ (heap_setCell_same _ _ 4 _ _ _ h.blk)) h.le
  clear h
  go_enter Tryd.func24, Tryd.ntmps24
  go_wp2_with fail
  refine c.mono ?_
  rintro e w1 ⟨rfl, h1⟩
  subst w1
  go_wp2_with fail
  go_end0
  exact ⟨rfl, hF, hk⟩
theorem stop_bad (h : WSt all E g v w i n er at_) (he : er ≠ 0) (e' a' : Int) :
    Calls Tryd.prog 24 #[.pointer (some ⟨g, 0, none⟩), .int .i64 e', .int .i64 a'] w fun e w' => e = .returned (.tuple #[]) ∧ w' = w := by
  have c := good_any h
  have hb : (er == 0) = false := by simpa using he
  rw [hb] at c
  clear h he hb
  go_enter Tryd.func24, Tryd.ntmps24
  go_wp2_with fail
  refine c.mono ?_
  rintro e w1 ⟨rfl, h1⟩
  subst w1
  go_wp2_with fail
  go_end0
  exact ⟨rfl, rfl⟩
/-- Is a token of that kind and text met, and is nothing wrong so far? -/
def onB (all : List Tk) (i : Nat) (er kd : Int) (x : List UInt8) : Bool := (er == 0) && ((kindP (all.drop i) == kd) && isT x (all.drop i))
set_option maxRecDepth 100000 in
set_option maxHeartbeats 1000000 in
theorem on_any (h0 : WS0 all E g v) (h : WSt all E g v w i n er at_) (kd : Int) (x : List UInt8) :
    Calls Tryd.prog 23 #[.pointer (some ⟨g, 0, none⟩), .int .i64 kd, .string ⟨x.toArray⟩] w fun e w' => e = .returned (.bool (onB all i er kd x)) ∧ Below w.heap.size w w' := by
  have c := next_any h0 h
  unfold tokV at c
  have he : ((⟨(textP (all.drop i)).toArray⟩ : ByteArray).toList == (⟨x.toArray⟩ : ByteArray).toList) = isT x (all.drop i) := by rw [str_eq]; rfl
  unfold onB
  generalize isT x (all.drop i) = bT at *
  have cg := fun (w1 : World) (h1 : WSt all E g v w1 i n er at_) => good_any h1
  generalize kindP (all.drop i) = t0 at *
  generalize numP (all.drop i) = t1 at *
  generalize (atP E (all.drop i) : Int) = t2 at *
  generalize (⟨(textP (all.drop i)).toArray⟩ : ByteArray) = tx at *
  generalize (⟨x.toArray⟩ : ByteArray) = xx at *
  go_enter Tryd.func23, Tryd.ntmps23
  go_wp2_with fail
  refine c.mono ?_
  rintro e w1 ⟨rfl, hb1⟩
  have h1 := h.below hb1 h0
  have hb2 : Below w1.heap.size w1 (w1.alloc (.cells #[.int .i64 t0, .int .i64 t1, .int .i64 t2, .string tx] 30)) := (Below.refl _ _).alloc (Nat.le_refl _) _
  have h2 := h1.below hb2 h0
  have hbw2 := hb1.trans (hb2.mono hb1.size)
  clear c h h1 hb1 hb2
  cases hg : (er == 0) with
  | false =>
    have cg' := cg _ h2
    rw [hg] at cg'
    go_wp2_with fail
    refine cg'.mono ?_
    rintro e w3 ⟨rfl, h3⟩
    subst w3
    go_wp2_with fail
    go_ret
    exact ⟨by rw [hg]; rfl, hbw2⟩
  | true =>
    have cg' := cg _ h2
    rw [hg] at cg'
    cases hk : (t0 == kd) with
    | false =>
      go_wp2_with fail
      refine cg'.mono ?_
      rintro e w3 ⟨rfl, h3⟩
      subst w3
      go_wp2_with fail
      go_ret
      exact ⟨by rw [hg, hk]; rfl, hbw2⟩
    | true =>
      go_wp2_with fail
      refine cg'.mono ?_
      rintro e w3 ⟨rfl, h3⟩
      subst w3
      go_wp2_with fail
      go_ret
      exact ⟨by rw [hg, hk]; rfl, hbw2⟩
end Go.Proofs.YtfibbmdkpgageaaDoor

/- What the document's need, get and made come to. -/
namespace Go.Proofs.YtfibbmdkpgageaaDoor
open Go.RowKit Lx
variable {all : List Tk} {E g : Nat} {v : Value} {w : World} {i n : Nat} {er at_ : Int}

theorem on_len {kd : Int} {x : List UInt8} (hx : x ≠ []) (h : onB all i er kd x = true) : i + 1 ≤ all.length := by
  unfold onB at h
  simp only [Bool.and_eq_true] at h
  exact isT_len hx h.2.2
set_option maxRecDepth 100000 in
set_option maxHeartbeats 1000000 in
theorem need_yes (h0 : WS0 all E g v) (h : WSt all E g v w i n er at_) (x : List UInt8) (hx : x ≠ []) (hT : onB all i er 3 x = true) :
    Calls Tryd.prog 27 #[.pointer (some ⟨g, 0, none⟩), .string ⟨x.toArray⟩] w fun e w' => e = .returned (.tuple #[]) ∧ WSt all E g v w' (i + 1) n er at_ ∧ Kept g w w' := by
  have c := on_any h0 h 3 x
  have hi := on_len hx hT
  have hlen := h0.len
  rw [hT] at c
  generalize (⟨x.toArray⟩ : ByteArray) = xx at *
  clear hT
  go_enter Tryd.func27, Tryd.ntmps27
  go_wp2_with fail
  refine c.mono ?_
  rintro e w1 ⟨rfl, hb1⟩
  have h1 := h.below hb1 h0
  have k1 := (cell_of_row _ _ 1 _ _ _ h1.blk).trans rfl
  have y1 := frozen_of_row _ _ 1 _ _ h1.blk
  have h2 := h1.set h0 hi
  have hk2 := (Kept.of_below (g := g) hb1).trans (Kept.set w1 g 1 (.int .i64 ((i + 1 : Nat) : Int)))
  have ei : (i : Int) + 1 = ((i + 1 : Nat) : Int) := by omega
  have hi6 : (i : Int) ≤ 6000 := by omega
  generalize ((i + 1 : Nat) : Int) = vv at *
  clear c h h1 hb1
  go_wp2_with fail
  go_end0
  exact ⟨rfl, h2, hk2⟩
set_option maxRecDepth 100000 in
set_option maxHeartbeats 1000000 in
theorem need_no (h0 : WS0 all E g v) (h : WSt all E g v w i n 0 at_) (x : List UInt8) (hT : onB all i 0 3 x = false) :
    Calls Tryd.prog 27 #[.pointer (some ⟨g, 0, none⟩), .string ⟨x.toArray⟩] w fun e w' => e = .returned (.tuple #[]) ∧ WSt all E g v w' i n 2 (atP E (all.drop i)) ∧ Kept g w w' := by
  have c := on_any h0 h 3 x
  rw [hT] at c
  have cn := fun (w1 : World) (h1 : WSt all E g v w1 i n 0 at_) => next_any h0 h1
  have cs := fun (w1 : World) (h1 : WSt all E g v w1 i n 0 at_) => stop_good h0 h1 2 (atP E (all.drop i))
  unfold tokV at cn
  generalize (⟨x.toArray⟩ : ByteArray) = xx at *
  generalize (atP E (all.drop i) : Int) = t2 at *
  clear hT
  go_enter Tryd.func27, Tryd.ntmps27
  go_wp2_with fail
  refine c.mono ?_
  rintro e w1 ⟨rfl, hb1⟩
  have h1 := h.below hb1 h0
  go_wp2_with fail
  refine (cn _ h1).mono ?_
  rintro e w2 ⟨rfl, hb2⟩
  have h2 := h1.below hb2 h0
  have hk2 := (Kept.of_below (g := g) hb1).trans (Kept.of_below hb2)
  clear c cn h h1 hb1 hb2
  go_wp2_with fail
  refine (cs _ h2).mono ?_
  rintro e w3 ⟨rfl, h3, hk3⟩
  go_wp2_with fail
  refine bodyPost_ret (results_none rfl _ _ _) rfl ?_
  exact ⟨rfl, h3, hk2.trans hk3⟩
set_option maxRecDepth 100000 in
set_option maxHeartbeats 1000000 in
theorem need_bad (h0 : WS0 all E g v) (h : WSt all E g v w i n er at_) (he : er ≠ 0) (x : List UInt8) :
    Calls Tryd.prog 27 #[.pointer (some ⟨g, 0, none⟩), .string ⟨x.toArray⟩] w fun e w' => e = .returned (.tuple #[]) ∧ WSt all E g v w' i n er at_ ∧ Kept g w w' := by
  have c := on_any h0 h 3 x
  have hT : onB all i er 3 x = false := by
    unfold onB
    rw [show (er == 0) = false by simpa using he]; rfl
  rw [hT] at c
  have cn := fun (w1 : World) (h1 : WSt all E g v w1 i n er at_) => next_any h0 h1
  have cs := fun (w1 : World) (h1 : WSt all E g v w1 i n er at_) => stop_bad h1 he 2 (atP E (all.drop i))
  unfold tokV at cn
  generalize (⟨x.toArray⟩ : ByteArray) = xx at *
  generalize (atP E (all.drop i) : Int) = t2 at *
  clear hT he
  go_enter Tryd.func27, Tryd.ntmps27
  go_wp2_with fail
  refine c.mono ?_
  rintro e w1 ⟨rfl, hb1⟩
  have h1 := h.below hb1 h0
  go_wp2_with fail
  refine (cn _ h1).mono ?_
  rintro e w2 ⟨rfl, hb2⟩
  have h2 := h1.below hb2 h0
  have hk2 := (Kept.of_below (g := g) hb1).trans (Kept.of_below hb2)
  clear c cn h h1 hb1 hb2
  go_wp2_with fail
  refine (cs _ h2).mono ?_
  rintro e w3 ⟨rfl, h3⟩
  subst w3
  go_wp2_with fail
  refine bodyPost_ret (results_none rfl _ _ _) rfl ?_
  exact ⟨rfl, h2, hk2⟩
end Go.Proofs.YtfibbmdkpgageaaDoor

/- What the document's get and made come to. -/
namespace Go.Proofs.YtfibbmdkpgageaaDoor
open Go.RowKit Lx
variable {all : List Tk} {E g : Nat} {v : Value} {w : World} {i n : Nat} {er at_ : Int}

set_option maxRecDepth 100000 in
set_option maxHeartbeats 2000000 in
/-- get, in whatever state: the token that is met is handed back. -/
theorem get_any (h0 : WS0 all E g v) (h : WSt all E g v w i n er at_) (kd : Int) (hkd : kd ≠ 0) :
    Calls Tryd.prog 26 #[.pointer (some ⟨g, 0, none⟩), .int .i64 kd] w fun e w' => e = .returned (tokV E (all.drop i)) ∧ Kept g w w' ∧
      ((er ≠ 0 → WSt all E g v w' i n er at_) ∧ (er = 0 → kindP (all.drop i) ≠ kd → WSt all E g v w' i n 2 (atP E (all.drop i))) ∧ (er = 0 → kindP (all.drop i) = kd → WSt all E g v w' (i + 1) n 0 at_)) := by
  have hgl := lt_of_block h.blk
  have hlen := h0.len
  have hb0 : Below w.heap.size w (w.alloc (.cells #[.int .i64 0, .int .i64 0, .int .i64 0, .string ⟨#[]⟩] 30)) := (Below.refl _ _).alloc (Nat.le_refl _) _
  have hn := heap_alloc_new w (.cells #[.int .i64 0, .int .i64 0, .int .i64 0, .string ⟨#[]⟩] 30)
  have hA := h.below hb0 h0
  have c := next_any h0 hA
  have hil : kindP (all.drop i) = kd → i + 1 ≤ all.length := fun e => kind_len (by rw [e]; exact hkd)
  have cS := fun (w1 : World) (at' : Int) (h1 : WSt all E g v w1 i n 0 at') => stop_good h0 h1 2 (atP E (all.drop i))
  have cB := fun (w1 : World) (h1 : WSt all E g v w1 i n er at_) (he : er ≠ 0) => stop_bad h1 he 2 (atP E (all.drop i))
  unfold tokV at c ⊢
  generalize hkq : kindP (all.drop i) = t0 at *
  generalize numP (all.drop i) = t1 at *
  generalize (atP E (all.drop i) : Int) = t2 at *
  generalize (⟨(textP (all.drop i)).toArray⟩ : ByteArray) = t3 at *
  generalize hw1 : w.alloc (.cells #[.int .i64 0, .int .i64 0, .int .i64 0, .string ⟨#[]⟩] 30) = wA at *
  clear hkq
  go_enter Tryd.func26, Tryd.ntmps26
  go_wp2_with fail
  refine c.mono ?_
  rintro e w1 ⟨rfl, hb1⟩
  have h1 := hA.below hb1 h0
  have hn1 := (hb1.block _ (lt_of_block hn)).trans hn
  have hbw1 := hb0.trans (hb1.mono hb0.size)
  have hws := lt_of_block hn1
  have hb2 : Below w1.heap.size w1 (w1.alloc (.cells #[.int .i64 t0, .int .i64 t1, .int .i64 t2, .string t3] 30)) := (Below.refl _ _).alloc (Nat.le_refl _) _
  have h2 := h1.below hb2 h0
  have hx2 := heap_alloc_new w1 (.cells #[.int .i64 t0, .int .i64 t1, .int .i64 t2, .string t3] 30)
  have hn2 := (hb2.block _ (lt_of_block hn1)).trans hn1
  have hk2 : Kept g w (w1.alloc (.cells #[.int .i64 t0, .int .i64 t1, .int .i64 t2, .string t3] 30)) := (Kept.of_below hbw1).alloc _
  have kd0 : (w1.alloc (.cells #[.int .i64 t0, .int .i64 t1, .int .i64 t2, .string t3] 30)).cell? ⟨w1.heap.size, 0, none⟩ = some (.int .i64 t0) := (cell_of_row _ _ 0 _ _ _ hx2).trans rfl
  have kd2 : (w1.alloc (.cells #[.int .i64 t0, .int .i64 t1, .int .i64 t2, .string t3] 30)).cell? ⟨w1.heap.size, 2, none⟩ = some (.int .i64 t2) := (cell_of_row _ _ 2 _ _ _ hx2).trans rfl
  clear c hA hb1 hw1 hn hb0 hbw1 hn1 h1 hb2
  generalize hw2 : w1.alloc (.cells #[.int .i64 t0, .int .i64 t1, .int .i64 t2, .string t3] 30) = w2 at *
  have cg := good_any h2
  by_cases he : er = 0
  · subst he
    by_cases hk : t0 = kd
    · have hne : (t0 != kd) = false := by simpa using hk
      have hi := hil hk
      have k1 := (cell_of_row _ _ 1 _ _ _ h2.blk).trans rfl
      have y1 := frozen_of_row _ _ 1 _ _ h2.blk
      have h3 := h2.set h0 hi
      have hk3 := hk2.trans (Kept.set w2 g 1 (.int .i64 ((i + 1 : Nat) : Int)))
      have hx3 := (heap_setCell_other w2 ⟨g, 1, none⟩ w1.heap.size (.int .i64 ((i + 1 : Nat) : Int)) (by show w1.heap.size ≠ g; omega)).trans hx2
      have hn3 := (heap_setCell_other w2 ⟨g, 1, none⟩ w.heap.size (.int .i64 ((i + 1 : Nat) : Int)) (by show w.heap.size ≠ g; omega)).trans hn2
      have ei : (i : Int) + 1 = ((i + 1 : Nat) : Int) := by omega
      have hi6 : (i : Int) ≤ 6000 := by omega
      have HF : Hid (∀ cs, WSt all E g v ((w2.setCell ⟨g, 1, none⟩ (.int .i64 ((i + 1 : Nat) : Int))).setRow w.heap.size cs) (i + 1) n 0 at_) := fun cs =>
        h.of_kept h0 (hk3.setRow (Nat.le_refl _) cs) ((setRow_other _ _ _ _ (by omega)).trans h3.blk) h3.le
      have hk4 := fun cs => hk3.setRow (Nat.le_refl _) cs
      have HK : Hid (t0 = kd) := hk
      generalize ((i + 1 : Nat) : Int) = vv at *
      clear h h2 h3 hk2 hk3 hx2 hn2 hil cS cB hk
      go_wp2_with fail
      refine cg.mono ?_
      rintro e w3 ⟨rfl, hw3⟩
      subst w3
      go_wp2_with (first
        | (refine wpList_load_row rfl 30 _ rfl _ rfl _ _ _ _ hx3 tokType rfl (by kernel_rfl) ?_)
        | (refine wpList_store_row rfl 30 _ _ rfl _ _ rfl rfl _ _ hn3 (by kernel_rfl) (by simp) (by simp [Value.oneCell']) ?_))
      exact tok_ret 4 (by kernel_rfl) w.heap.size _ _ _ _ rfl rfl (setRow_heap _ _ _ _ _ _ hn3) ⟨rfl, hk4 _, fun h => absurd HK.out h, fun _ => HF.out _⟩
    · have hne : (t0 != kd) = true := by simpa using hk
      have cS' := cS _ _ h2
      have HK : Hid (t0 ≠ kd) := hk
      clear hil cS cB hk
      go_wp2_with fail
      refine cg.mono ?_
      rintro e w3 ⟨rfl, hw3⟩
      subst w3
      go_wp2_with fail
      refine cS'.mono ?_
      rintro e w4 ⟨rfl, h4, hk4'⟩
      have hx4 := hk4'.at hx2 (by omega)
      have hn4 := hk4'.at hn2 (by omega)
      have hkw := hk2.trans hk4'
      have HF : Hid (∀ cs, WSt all E g v (w4.setRow w.heap.size cs) i n 2 t2) := fun cs =>
        h.of_kept h0 (hkw.setRow (Nat.le_refl _) cs) ((setRow_other _ _ _ _ (by omega)).trans h4.blk) h4.le
      have hk4 := fun cs => hkw.setRow (Nat.le_refl _) cs
      clear h h2 h4 hk2 hk4' hkw hx2 hn2 cS' cg kd0 kd2
      go_wp2_with (first
        | (refine wpList_load_row rfl 30 _ rfl _ rfl _ _ _ _ hx4 tokType rfl (by kernel_rfl) ?_)
        | (refine wpList_store_row rfl 30 _ _ rfl _ _ rfl rfl _ _ hn4 (by kernel_rfl) (by simp) (by simp [Value.oneCell']) ?_))
      exact tok_ret 4 (by kernel_rfl) w.heap.size _ _ _ _ rfl rfl (setRow_heap _ _ _ _ _ _ hn4) ⟨rfl, hk4 _, fun _ => HF.out _, fun h => absurd h HK.out⟩
  · have hb : (er == 0) = false := by simpa using he
    rw [hb] at cg
    have cB' := cB _ h2 he
    have HE : Hid (er ≠ 0) := he
    have HF : Hid (∀ cs, WSt all E g v (w2.setRow w.heap.size cs) i n er at_) := fun cs =>
      h.of_kept h0 (hk2.setRow (Nat.le_refl _) cs) ((setRow_other _ _ _ _ (by omega)).trans h2.blk) h2.le
    have hk4 := fun cs => hk2.setRow (Nat.le_refl _) cs
    clear hil cS cB he h h2 hk2 hb
    go_wp2_with fail
    refine cg.mono ?_
    rintro e w3 ⟨rfl, hw3⟩
    subst w3
    go_wp2_with fail
    refine cB'.mono ?_
    rintro e w4 ⟨rfl, hw4⟩
    subst w4
    go_wp2_with (first
      | (refine wpList_load_row rfl 30 _ rfl _ rfl _ _ _ _ hx2 tokType rfl (by kernel_rfl) ?_)
      | (refine wpList_store_row rfl 30 _ _ rfl _ _ rfl rfl _ _ hn2 (by kernel_rfl) (by simp) (by simp [Value.oneCell']) ?_))
    exact tok_ret 4 (by kernel_rfl) w.heap.size _ _ _ _ rfl rfl (setRow_heap _ _ _ _ _ _ hn2) ⟨rfl, hk4 _, fun _ => HF.out _, fun h => absurd h HE.out, fun h => absurd h HE.out⟩
/-- What a function of the document's reader hands back where the plain reader tells x. -/
def OutW (all : List Tk) (E g : Nat) (v : Value) (w : World) (B : Nat → Prop) (x : Res) (e : Ending) (w' : World) : Prop :=
  match x with
  | .error (er, at_) => er ≠ 0 ∧ (∃ (a b c : Int) (x : ByteArray) (p : Option Addr) (q r : Nat), e = .returned (.agg #[.int .i64 a, .int .i64 b, .int .i64 c, .string x, .slice p q r])) ∧ (∃ i n, WSt all E g v w' i n er (at_ : Int)) ∧ Kept g w w'
  | .ok (ex, r, n) => ∃ (i : Nat) (sl : Value) (d : Nat), r = all.drop i ∧ e = .returned (exV ex sl) ∧ KidsAt B d w' sl ex.kids ∧ WSt all E g v w' i n 0 0 ∧ n ≤ 600 ∧ Kept g w w'

set_option maxRecDepth 100000 in
set_option maxHeartbeats 1000000 in
theorem made_any (h0 : WS0 all E g v) (h : WSt all E g v w i n 0 0) (hn6 : n ≤ 600) (B : Nat → Prop) (hB : ∀ k, B k → k ≠ g) (ex : Ex) (sl : Value) (d : Nat) (hk : KidsAt B d w sl ex.kids) :
    Calls Tryd.prog 55 #[.pointer (some ⟨g, 0, none⟩), exV ex sl] w (OutW all E g v w B (endedP E ex (all.drop i) n)) := by
  obtain ⟨ps, cs', rfl⟩ := hk.form
  have hgl := lt_of_block h.blk
  have hb1 : Below w.heap.size w (w.alloc (.cells #[.int .i64 ex.kind, .int .i64 ex.a, .int .i64 ex.b, .string ⟨ex.name.toArray⟩, .slice ps ex.kids.length cs'] 60)) := (Below.refl _ _).alloc (Nat.le_refl _) _
  have hb2 : Below w.heap.size w ((w.alloc (.cells #[.int .i64 ex.kind, .int .i64 ex.a, .int .i64 ex.b, .string ⟨ex.name.toArray⟩, .slice ps ex.kids.length cs'] 60)).alloc (.cells #[.int .i64 0, .int .i64 0, .int .i64 0, .string ⟨#[]⟩, .slice none 0 0] 60)) := hb1.alloc hb1.size _
  have hx1 := heap_alloc_new w (.cells #[.int .i64 ex.kind, .int .i64 ex.a, .int .i64 ex.b, .string ⟨ex.name.toArray⟩, .slice ps ex.kids.length cs'] 60)
  have hx2 := (Below.heap_alloc _ (.cells #[.int .i64 0, .int .i64 0, .int .i64 0, .string ⟨#[]⟩, .slice none 0 0] 60) _ (lt_of_block hx1)).trans hx1
  have hn2 := heap_alloc_new (w.alloc (.cells #[.int .i64 ex.kind, .int .i64 ex.a, .int .i64 ex.b, .string ⟨ex.name.toArray⟩, .slice ps ex.kids.length cs'] 60)) (.cells #[.int .i64 0, .int .i64 0, .int .i64 0, .string ⟨#[]⟩, .slice none 0 0] 60)
  have hsz : (w.alloc (.cells #[.int .i64 ex.kind, .int .i64 ex.a, .int .i64 ex.b, .string ⟨ex.name.toArray⟩, .slice ps ex.kids.length cs'] 60)).heap.size = w.heap.size + 1 := by simp
  rw [hsz] at hn2
  have h2 := h.below hb2 h0
  have hk2 := Kept.of_below (g := g) hb2
  unfold exV
  clear hx1 hb1 hsz
  generalize hw2 : ((w.alloc (.cells #[.int .i64 ex.kind, .int .i64 ex.a, .int .i64 ex.b, .string ⟨ex.name.toArray⟩, .slice ps ex.kids.length cs'] 60)).alloc (.cells #[.int .i64 0, .int .i64 0, .int .i64 0, .string ⟨#[]⟩, .slice none 0 0] 60)) = w2 at *
  have k3 := (cell_of_row _ _ 3 _ _ _ h2.blk).trans rfl
  have y3 := frozen_of_row _ _ 3 _ _ h2.blk
  have h3 := h2.setN h0 (n + 1)
  have hk3 := hk2.trans (Kept.set w2 g 3 (.int .i64 ((n + 1 : Nat) : Int)))
  have hx3 := (heap_setCell_other w2 ⟨g, 3, none⟩ w.heap.size (.int .i64 ((n + 1 : Nat) : Int)) (by show w.heap.size ≠ g; omega)).trans hx2
  have hn3 := (heap_setCell_other w2 ⟨g, 3, none⟩ (w.heap.size + 1) (.int .i64 ((n + 1 : Nat) : Int)) (by show w.heap.size + 1 ≠ g; omega)).trans hn2
  have q3 := (cell_of_row _ _ 3 _ _ _ h3.blk).trans rfl
  have ei : (n : Int) + 1 = ((n + 1 : Nat) : Int) := by omega
  have hi6 : (n : Int) ≤ 600 := by omega
  by_cases hm : 600 < n + 1
  · have hm' : (600 : Int) < ((n + 1 : Nat) : Int) := by omega
    have cn := next_any h0 h3
    have cs := fun (w1 : World) (h1 : WSt all E g v w1 i (n + 1) 0 0) => stop_good h0 h1 4 (atP E (all.drop i))
    unfold tokV at cn
    rw [show endedP E ex (all.drop i) n = .error (4, atP E (all.drop i)) by unfold endedP; rw [if_pos hm]]
    generalize hat : atP E (all.drop i) = t2 at *
    clear h2 hk2 hx2 hn2 hb2 hk hm
    generalize ((n + 1 : Nat) : Int) = vv at *
    go_enter Tryd.func55, Tryd.ntmps55
    go_wp2_with fail
    refine cn.mono ?_
    rintro e w4 ⟨rfl, hb4⟩
    have h4 := h3.below hb4 h0
    go_wp2_with fail
    refine (cs _ h4).mono ?_
    rintro e w5 ⟨rfl, h5, hk5⟩
    have hx5 := hk5.at ((hb4.block _ (lt_of_block hx3)).trans hx3) (by omega)
    have hn5 := hk5.at ((hb4.block _ (lt_of_block hn3)).trans hn3) (by omega)
    have hkw := (hk3.trans (Kept.of_below hb4)).trans hk5
    have HF : Hid (∀ cs, WSt all E g v (w5.setRow (w.heap.size + 1) cs) i (n + 1) 4 (t2 : Int)) := fun cs =>
      h.of_kept h0 (hkw.setRow (by omega) cs) ((setRow_other _ _ _ _ (by omega)).trans h5.blk) h5.le
    have hk6 := fun cs => hkw.setRow (k := w.heap.size + 1) (by omega) cs
    clear cn cs h h3 h4 h5 hb4 hk5 hkw hx3 hn3 hk3 hw2
    go_wp2_with (first
      | (refine wpList_load_row rfl 60 _ rfl _ rfl _ _ _ _ hx5 exprType rfl (by kernel_rfl) ?_)
      | (refine wpList_store_row rfl 60 _ _ rfl _ _ rfl rfl _ _ hn5 (by kernel_rfl) (by simp) (by simp [Value.oneCell']) ?_))
    exact ex_ret 4 (by kernel_rfl) (w.heap.size + 1) _ _ _ _ _ rfl rfl (setRow_heap _ _ _ _ _ _ hn5) ⟨by decide, ⟨_, _, _, _, _, _, _, rfl⟩, ⟨i, n + 1, HF.out _⟩, hk6 _⟩
  · have hm' : ¬ (600 : Int) < ((n + 1 : Nat) : Int) := by omega
    rw [show endedP E ex (all.drop i) n = .ok (ex, all.drop i, n + 1) by unfold endedP; rw [if_neg hm]]
    have HF : Hid (∀ cs, WSt all E g v ((w2.setCell ⟨g, 3, none⟩ (.int .i64 ((n + 1 : Nat) : Int))).setRow (w.heap.size + 1) cs) i (n + 1) 0 0) := fun cs =>
      h.of_kept h0 (hk3.setRow (by omega) cs) ((setRow_other _ _ _ _ (by omega)).trans h3.blk) h3.le
    have hk4 := fun cs => hk3.setRow (k := w.heap.size + 1) (by omega) cs
    have HN : Hid (n + 1 ≤ 600) := by show n + 1 ≤ 600; omega
    have HK : Hid (KidsAt B d w (.slice ps ex.kids.length cs') ex.kids) := hk
    have HB : Hid (∀ k, B k → k ≠ g) := hB
    clear h h2 h3 hk2 hx2 hn2 hb2 hk hk3 hm
    generalize ((n + 1 : Nat) : Int) = vv at *
    go_enter Tryd.func55, Tryd.ntmps55
    go_wp2_with (first
      | (refine wpList_load_row rfl 60 _ rfl _ rfl _ _ _ _ hx3 exprType rfl (by kernel_rfl) ?_)
      | (refine wpList_store_row rfl 60 _ _ rfl _ _ rfl rfl _ _ hn3 (by kernel_rfl) (by simp) (by simp [Value.oneCell']) ?_))
    exact ex_ret 4 (by kernel_rfl) (w.heap.size + 1) _ _ _ _ _ rfl rfl (setRow_heap _ _ _ _ _ _ hn3) ⟨i, _, d, rfl, rfl, (hk4 _).kids HB.out HK.out, HF.out _, HN.out, hk4 _⟩
end Go.Proofs.YtfibbmdkpgageaaDoor
