/- What eachName comes to with the closure of spoken; and what spoken comes to. -/
import Derived.Test.YtgfjbcdjpkcbkaaGreatDoorDu13
import Derived.Deep.QuietTactic
import Derived.BigQuiet
namespace Lx
theorem spoken_app (l : List Ru) (acc : List Int) (xs ys : List (List UInt8)) : spoken l acc (xs ++ ys) = spoken l (spoken l acc xs) ys := by
  unfold spoken
  rw [List.foldl_append]
theorem addN_len (acc : List Int) (n : Int) : (addN acc n).length ≤ acc.length + 1 := by
  unfold addN
  split <;> simp
theorem spoken_le (l : List Ru) : ∀ (xs : List (List UInt8)) (acc : List Int), (spoken l acc xs).length ≤ acc.length + xs.length
  | [], acc => by simp [spoken]
  | y :: xs, acc => by
    have h1 := spoken_le l xs (addN acc (atP5 l y))
    have h2 := addN_len acc (atP5 l y)
    show (spoken l (addN acc (atP5 l y)) xs).length ≤ _
    simp only [List.length_cons]
    omega
theorem nmsL_snoc {ks : List Ex} {j : Nat} {k : Ex} (h : ks[j]? = some k) : nmsL (ks.take (j + 1)) = nmsL (ks.take j) ++ nms k := by
  unfold nmsL
  rw [List.take_add_one, h, Option.toList_some, List.map_append, List.flatten_append]
  simp
theorem nmsL_len {ks : List Ex} {j : Nat} {k : Ex} (h : ks[j]? = some k) : (nmsL (ks.take j)).length + (nms k).length ≤ (nmsL ks).length := by
  rw [← List.length_append, ← nmsL_snoc h]
  unfold nmsL
  have : ks = ks.take (j + 1) ++ ks.drop (j + 1) := (List.take_append_drop _ _).symm
  conv => rhs; rw [this, List.map_append, List.flatten_append, List.length_append]
  omega
theorem nms_shape : ∀ (N : Nat) (e : Ex) (deep n : Nat), sizeOf e ≤ N → (shapeP e deep n).1 = 0 → n + (nms e).length + 1 ≤ (shapeP e deep n).2 + 1 ∧ n + 1 ≤ (shapeP e deep n).2
  | 0, e, _, _, hN, _ => by cases e; simp at hN
  | N + 1, e, deep, n, hN, h => by
    rw [shapeP_eq] at h ⊢
    by_cases c1 : 600 < n + 1 ∨ 40 < deep
    · rw [if_pos c1] at h; cases h
    rw [if_neg c1] at h ⊢
    by_cases c2 : aloneP e ≠ 0
    · rw [if_pos c2] at h; exact absurd h c2
    rw [if_neg c2] at h ⊢
    have aux : ∀ (ks : List Ex), (∀ k ∈ ks, sizeOf k ≤ N) → ∀ m : Nat, (shapeL ks (deep + 1) (0, m)).1 = 0 → m + (nmsL ks).length ≤ (shapeL ks (deep + 1) (0, m)).2 := by
      intro ks
      induction ks with
      | nil => intro _ m _; simp [nmsL, shapeL_nil]
      | cons k ks ih =>
        intro hk m h0
        rw [shapeL_cons, if_neg (by simp)] at h0 ⊢
        have hz : (shapeP k (deep + 1) m).1 = 0 := by
          by_cases hz : (shapeP k (deep + 1) m).1 = 0
          · exact hz
          · rw [shapeL_bad hz] at h0; exact h0
        obtain ⟨i1, i2⟩ := nms_shape N k (deep + 1) m (hk k List.mem_cons_self) hz
        obtain ⟨m', e'⟩ : ∃ m', shapeP k (deep + 1) m = (0, m') := ⟨_, Prod.ext hz rfl⟩
        rw [e'] at h0 i1 ⊢
        have := ih (fun q hq => hk q (List.mem_cons_of_mem _ hq)) m' h0
        have hl : (nmsL (k :: ks)).length = (nms k).length + (nmsL ks).length := by simp [nmsL]
        rw [hl]
        dsimp only at i1
        omega
    have hb := aux e.kids (fun k hk => by have := kid_lt hk; omega) (n + 1) h
    have hl : (nms e).length ≤ 1 + (nmsL e.kids).length := by
      rw [nms_eq, List.length_append]
      split <;> simp
    omega
end Lx
namespace Go.Proofs.YtgfjbcdjpkcbkaaGreatDoor
open Go.RowKit Lx
def sayV (w : World) (gi : Nat) : Value := .func (.func 32) #[] #[.pointer (some ⟨w.heap.size, 0, none⟩), .pointer (some ⟨w.heap.size + 1 + 1, 0, none⟩), .pointer (some ⟨gi, 0, none⟩)]
def ERel (w : World) (l : List Ru) (n mb gi i : Nat) (ls0 : List (List Int)) (r : List Int) (ks : List Ex) (w0 : World) (t : Value) (wr : World) : Prop := ∃ j : Nat, t = .int .i64 (j : Int) ∧ j ≤ ks.length ∧ SpS w l n mb gi i (ls0.set i (spoken l r (nmsL (ks.take j)))) wr ∧ KT w0 wr
set_option maxRecDepth 100000 in
set_option maxHeartbeats 2000000 in
theorem eachName_step (w : World) (l : List Ru) (n mb gi i : Nat) (ls0 : List (List Int)) (hM : MapN w mb l) (hin : i < n) (hn : n ≤ 1000000) (hl0 : ls0.length = n)
    (e : Ex) (pe : Option Addr) (ce : Nat) (r : List Int) (wr : World) (h : SpS w l n mb gi i (ls0.set i r) wr) (hr : r.length + (nms e).length ≤ 1000000) (hlk : (e.kids.length : Int) < 9223372036854775808)
    (hkk : ∀ (j : Nat) (k : Ex), e.kids[j]? = some k → ∃ (g o : Nat) (ps : Option Addr) (cs : Nat), pe = some ⟨g, o, none⟩ ∧
        w.cell? ⟨g, o + j * 5, none⟩ = some (.int .i64 k.kind) ∧ w.cell? ⟨g, o + j * 5 + 1, none⟩ = some (.int .i64 k.a) ∧ w.cell? ⟨g, o + j * 5 + 2, none⟩ = some (.int .i64 k.b) ∧
        w.cell? ⟨g, o + j * 5 + 3, none⟩ = some (.string ⟨k.name.toArray⟩) ∧ w.cell? ⟨g, o + j * 5 + 4, none⟩ = some (.slice ps k.kids.length cs) ∧
        ∀ (q : List Int) (W : World), SpS w l n mb gi i (ls0.set i q) W → q.length + (nms k).length ≤ 1000000 → Calls Tryz.prog 31 #[exV k (.slice ps k.kids.length cs), sayV w gi] W (OutS1 w l n mb gi i (ls0.set i (spoken l q (nms k))) W)) :
    Calls Tryz.prog 31 #[exV e (.slice pe e.kids.length ce), sayV w gi] wr (OutS1 w l n mb gi i (ls0.set i (spoken l r (nms e))) wr) := by
  have HK := hid5 hkk
  have hb0 : Below wr.heap.size wr (wr.alloc (.cells #[.int .i64 e.kind, .int .i64 e.a, .int .i64 e.b, .string ⟨e.name.toArray⟩, .slice pe e.kids.length ce] 31)) := (Below.refl _ _).alloc (Nat.le_refl _) _
  have hx0 := heap_alloc_new wr (.cells #[.int .i64 e.kind, .int .i64 e.a, .int .i64 e.b, .string ⟨e.name.toArray⟩, .slice pe e.kids.length ce] 31)
  have hA := h.below hb0
  unfold exV
  clear hkk h
  generalize hwA : wr.alloc (.cells #[.int .i64 e.kind, .int .i64 e.a, .int .i64 e.b, .string ⟨e.name.toArray⟩, .slice pe e.kids.length ce] 31) = wA at *
  have z0 := (cell_of_row _ _ 0 _ _ _ hx0).trans rfl
  have z3 := (cell_of_row _ _ 3 _ _ _ hx0).trans rfl
  have z4 := (cell_of_row _ _ 4 _ _ _ hx0).trans rfl
  have hne := nms_eq e
  unfold sayV
  go_enter Tryz.func31, Tryz.ntmps31
  go_upto_if 8 with fail
  rename_i K1 hK1
  have key : ∀ (x8 x9 x10 x11 x12 : Value) (q : List Int) (W : World), SpS w l n mb gi i (ls0.set i q) W → KT wr W → q.length + (nmsL e.kids).length ≤ 1000000 → spoken l q (nmsL e.kids) = spoken l r (nms e) → W.cell? ⟨wr.heap.size, 4, none⟩ = some (.slice pe e.kids.length ce) →
      K1 ⟨#[.agg #[.int .i64 e.kind, .int .i64 e.a, .int .i64 e.b, .string ⟨e.name.toArray⟩, .slice pe e.kids.length ce], .func (.func 32) #[] #[.pointer (some ⟨w.heap.size, 0, none⟩), .pointer (some ⟨w.heap.size + 1 + 1, 0, none⟩), .pointer (some ⟨gi, 0, none⟩)], .pointer (some ⟨wr.heap.size, 0, none⟩), undef, undef, undef, .pointer (some ⟨wr.heap.size, 0, none⟩), .int .i64 e.kind, x8, x9, x10, x11, x12, undef, undef, undef, undef, undef, undef, undef, undef, undef, undef, undef], []⟩ W := by
    intro x8 x9 x10 x11 x12 q W hW hkt hql hqe hc4
    refine hK1 _ _ ?_
    have Hqe := hid5 hqe
    have Hkt := hid5 hkt
    clear hkt
    clear hK1 hA hx0 z0 z3 z4 hb0 hne hqe hwA hr
    go_wp2_with fail
    clear hc4
    go_loopw [5, 16] (fun _ t wq => ERel w l n mb gi i ls0 q e.kids wr t wq) (fun _ t _ => e.kids.length - (intOf t).toNat)
    case atStart => exact ⟨0, rfl, by omega, hW, Hkt.out⟩
    case round =>
      obtain ⟨j, rfl, hj, hst, hktj⟩ := hrel
      have Hktj := hid5 hktj
      clear hW hktj Hkt
      have hj0 : (0 : Int) ≤ (j : Int) := by omega
      by_cases hlt : j < e.kids.length
      · have hlt' : (j : Int) < (e.kids.length : Int) := by omega
        obtain ⟨k, hjk⟩ : ∃ k, e.kids[j]? = some k := ⟨e.kids[j], List.getElem?_eq_getElem hlt⟩
        obtain ⟨g, o, ps, cs, hpe, c0, c1, c2, c3, c4, cK⟩ := HK.out j k hjk
        have hsn := nmsL_snoc hjk
        have hnl := nmsL_len hjk
        have hsl := spoken_le l (nmsL (e.kids.take j)) q
        subst hpe
        have hbl := hst.bel
        have d0 := (hbl.cell (block_lt_of_cell c0)).trans c0
        have d1 := (hbl.cell (block_lt_of_cell c1)).trans c1
        have d2 := (hbl.cell (block_lt_of_cell c2)).trans c2
        have d3 := (hbl.cell (block_lt_of_cell c3)).trans c3
        have d4 := (hbl.cell (block_lt_of_cell c4)).trans c4
        have hbA := (Below.refl wr.heap.size wr).alloc (Nat.le_refl _) (.cells #[.int .i64 k.kind, .int .i64 k.a, .int .i64 k.b, .string ⟨k.name.toArray⟩, .slice ps k.kids.length cs] 31)
        have hxB := heap_alloc_new wr (.cells #[.int .i64 k.kind, .int .i64 k.a, .int .i64 k.b, .string ⟨k.name.toArray⟩, .slice ps k.kids.length cs] 31)
        have cR := cK _ _ (hst.below hbA) (by omega)
        rw [← spoken_app, ← hsn] at cR
        unfold exV sayV at cR
        have HbA := hid5 hbA
        clear hsn hnl hsl hjk c0 c1 c2 c3 c4 cK hst hbl hbA
        generalize hwB : wr.alloc (.cells #[.int .i64 k.kind, .int .i64 k.a, .int .i64 k.b, .string ⟨k.name.toArray⟩, .slice ps k.kids.length cs] 31) = wB at *
        go_wp2_with (refine wpList_load_row rfl 31 _ rfl _ rfl _ _ _ _ hxB exprType5 rfl (by kernel_rfl) ?_)
        refine cR.mono ?_
        rintro e' w2 ⟨rfl, hst2, hk2⟩
        have Hk2 := hid5 ((Hktj.out.trans (KT.below HbA.out)).trans hk2)
        clear cR hxB Hktj HbA hk2
        go_wp2_with fail
        go_roundw
        case rel => exact ⟨j + 1, by go_num, by omega, hst2, Hk2.out⟩
        case measure => simp [intOf]; omega
      · have hlt' : ¬ (j : Int) < (e.kids.length : Int) := by omega
        have HO := fun (H : SpS w l n mb gi i (ls0.set i (spoken l r (nms e))) wr) => hid5 (And.intro (rfl : Ending.returned (.tuple #[]) = .returned (.tuple #[])) (And.intro H Hktj.out))
        have HO := HO (by
          rw [← Hqe.out]
          have e1 : e.kids.take j = e.kids := List.take_of_length_le (by omega)
          rw [e1] at hst
          exact hst)
        clear hst HK Hqe Hktj
        go_wp2_with fail
        refine bodyPost_ret (results_none rfl _ _ _) rfl ?_
        exact ⟨rfl, HO.out.2⟩
  clear hK1 HK
  have Hkey := hid5 key
  clear key
  by_cases hk : e.kind = 10
  · have hk' : (e.kind == 10) = true := by rw [hk]; rfl
    rw [if_pos hk] at hne
    have hl1 : (nms e).length = 1 + (nmsL e.kids).length := by rw [hne]; simp; omega
    have cS := spoken1_any w l n mb gi i ls0 r e.name wA hM hin hn hl0 (by omega) hA
    have hal := addN_len r (atP5 l e.name)
    have he1 : spoken l (addN r (atP5 l e.name)) (nmsL e.kids) = spoken l r (nms e) := by
      rw [hne, spoken_app]
      rfl
    have HL : Hid ((addN r (atP5 l e.name)).length + (nmsL e.kids).length ≤ 1000000) := by
      show _ ≤ _
      omega
    have HE := hid5 he1
    have Hx := hid5 hx0
    have Hb0 := hid5 hb0
    clear hk hne hl1 hal he1 hr hx0 hA hM hwA hb0 z0 z4 hlk
    generalize addN r (atP5 l e.name) = q at *
    go_wp2_with fail
    refine cS.mono ?_
    rintro e' w2 ⟨rfl, hst2, hk2⟩
    have z4' : w2.cell? ⟨wr.heap.size, 4, none⟩ = some (.slice pe e.kids.length ce) := (cell_of_row _ _ 4 _ _ _ (hk2 _ _ _ _ Hx.out (by decide) (by decide))).trans rfl
    have Hk2 := hid5 ((KT.below Hb0.out).trans hk2)
    clear cS hk2
    go_wp2_with fail
    exact Hkey.out _ _ _ _ _ q w2 hst2 Hk2.out HL.out HE.out z4'
  · have hk' : (e.kind == 10) = false := beq_eq_false_iff_ne.2 hk
    rw [if_neg hk, List.nil_append] at hne
    have HF : Hid (∀ (x8 x9 x10 x11 x12 : Value), K1 ⟨#[.agg #[.int .i64 e.kind, .int .i64 e.a, .int .i64 e.b, .string ⟨e.name.toArray⟩, .slice pe e.kids.length ce], .func (.func 32) #[] #[.pointer (some ⟨w.heap.size, 0, none⟩), .pointer (some ⟨w.heap.size + 1 + 1, 0, none⟩), .pointer (some ⟨gi, 0, none⟩)], .pointer (some ⟨wr.heap.size, 0, none⟩), undef, undef, undef, .pointer (some ⟨wr.heap.size, 0, none⟩), .int .i64 e.kind, x8, x9, x10, x11, x12, undef, undef, undef, undef, undef, undef, undef, undef, undef, undef, undef], []⟩ wA)   := fun x8 x9 x10 x11 x12 => Hkey.out x8 x9 x10 x11 x12 r wA hA (KT.below hb0) (by rw [hne] at hr; exact hr) (by rw [hne]) z4
    clear hk hne Hkey hA hM hr hwA hb0 z0 z3 z4 hx0 hlk
    go_wp2_with fail
    exact HF.out _ _ _ _ _
end Go.Proofs.YtgfjbcdjpkcbkaaGreatDoor

/- What spoken comes to: the numbers of which each rule speaks. -/
namespace Go.Proofs.YtgfjbcdjpkcbkaaGreatDoor
open Go.RowKit Lx
theorem eachName_any (w : World) (l : List Ru) (n mb gi i : Nat) (ls0 : List (List Int)) (hM : MapN w mb l) (hin : i < n) (hn : n ≤ 1000000) (hl0 : ls0.length = n) :
    ∀ (d : Nat) (e : Ex) (sl : Value) (r : List Int) (wr : World), KidsB (fun k => k < w.heap.size) d w sl e.kids → SpS w l n mb gi i (ls0.set i r) wr → r.length + (nms e).length ≤ 1000000 → Calls Tryz.prog 31 #[exV e sl, sayV w gi] wr (OutS1 w l n mb gi i (ls0.set i (spoken l r (nms e))) wr)
  | 0, e, sl, r, wr, hk, h, hr => by
    obtain ⟨h0, p, c, rfl⟩ := hk
    have := eachName_step w l n mb gi i ls0 hM hin hn hl0 e p c r wr h hr (by rw [h0]; decide) (fun j k hj => by rw [h0] at hj; simp at hj)
    rw [h0] at this
    exact this
  | d + 1, e, sl, r, wr, hk, h, hr => by
    obtain ⟨pe, ce, hsl⟩ := hk.form
    subst hsl
    have hlk : (e.kids.length : Int) < 9223372036854775808 := by
      rcases hk with ⟨h0, _⟩ | ⟨_, _, _, _, _, hl, _⟩
      · rw [h0]; decide
      · omega
    refine eachName_step w l n mb gi i ls0 hM hin hn hl0 e pe ce r wr h hr hlk fun j k hj => ?_
    rcases hk with ⟨h0, _⟩ | ⟨g, o, c, hB, hs, hl, hkk⟩
    · rw [h0] at hj; simp at hj
    · obtain ⟨_, sk, c0, c1, c2, c3, c4, q⟩ := hkk j k hj
      obtain ⟨ps, cs, rfl⟩ := q.form
      injection hs with e1
      exact ⟨g, o, ps, cs, e1, c0, c1, c2, c3, c4, fun q' W hW hq => eachName_any w l n mb gi i ls0 hM hin hn hl0 d k _ q' W q hW hq⟩
def RowsZ (w : World) (so : Value) (ls : List (List Int)) : Prop := ∃ p c, so = .slice p ls.length c ∧ ∀ (i : Nat) (ns : List Int), ls[i]? = some ns → ∃ (g o : Nat) (v : Value), p = some ⟨g, o, none⟩ ∧ w.cell? ⟨g, o + i, none⟩ = some v ∧ RowI w v ns
theorem RowsZ.below {w w' : World} {so : Value} {ls : List (List Int)} (h : RowsZ w so ls) (hb : Below w.heap.size w w') : RowsZ w' so ls := by
  obtain ⟨p, c, h1, h2⟩ := h
  refine ⟨p, c, h1, fun i ns hi => ?_⟩
  obtain ⟨g, o, v, e, hc, hr⟩ := h2 i ns hi
  exact ⟨g, o, v, e, (hb.cell (block_lt_of_cell hc)).trans hc, hr.below hb⟩
def lsJ (l : List Ru) (j : Nat) : List (List Int) := (l.take j).map (spkR l) ++ List.replicate (l.length - j) []
theorem lsJ_len {l : List Ru} {j : Nat} (hj : j ≤ l.length) : (lsJ l j).length = l.length := by simp [lsJ]; omega
theorem lsJ_zero (l : List Ru) : lsJ l 0 = List.replicate l.length [] := by simp [lsJ]
theorem lsJ_all (l : List Ru) : lsJ l l.length = l.map (spkR l) := by simp [lsJ]
theorem lsJ_same {l : List Ru} {j : Nat} (hj : j < l.length) : (lsJ l j).set j [] = lsJ l j := by
  apply List.ext_getElem?
  intro k
  by_cases e : j = k
  · subst e
    rw [List.getElem?_set_self (by rw [lsJ_len (by omega)]; omega)]
    have : ((l.take j).map (spkR l)).length = j := by simp; omega
    unfold lsJ
    rw [List.getElem?_append_right (by omega), this, Nat.sub_self, List.getElem?_replicate, if_pos (by omega)]
  · rw [List.getElem?_set_ne e]
theorem lsJ_next {l : List Ru} {j : Nat} {u : Ru} (hu : l[j]? = some u) : (lsJ l j).set j (spkR l u) = lsJ l (j + 1) := by
  have hj : j < l.length := (List.getElem?_eq_some_iff.1 hu).1
  have h1 : ((l.take j).map (spkR l)).length = j := by simp; omega
  unfold lsJ
  rw [List.set_append_right _ _ (by omega), h1, Nat.sub_self]
  obtain ⟨m, hm⟩ : ∃ m, l.length - j = m + 1 := ⟨l.length - j - 1, by omega⟩
  rw [hm, List.replicate_succ, List.set_cons_zero, List.take_add_one, hu, Option.toList_some, List.map_append, List.append_assoc]
  simp
  omega
theorem slInfo5 : (Tryz.prog.info? 40).map (fun i => (i.zero, i.size, i.bytes)) = some (some (.slice none 0 0), 1, 24) := by kernel_rfl
theorem intssType5 : Tryz.prog.underlying 55 = some (.slice 40) := by kernel_rfl
theorem made_nil (n : Nat) : madeCells #[Value.slice none 0 0] n = (List.replicate n (Value.slice none 0 0)).toArray := by
  apply Array.ext
  · simp [madeCells]
  · intro k h1 h2
    simp [madeCells, Nat.mod_one]
structure SpH (w : World) (n mb : Nat) (ls : List (List Int)) (W : World) : Prop where
  bel : Below w.heap.size w W
  b1 : W.heap[w.heap.size]? = some (.cells #[.map (some mb)] 53 (0, 0))
  b5 : W.heap[w.heap.size + 1 + 1]? = some (.cells #[.slice (some ⟨w.heap.size + 1, 0, none⟩) n n] 55 (0, 0))
  rows : ∃ vs, Sps (w.heap.size + 3) W (w.heap.size + 1) w.heap.size vs ls
def HRel (w : World) (l : List Ru) (n mb : Nat) (t : Value) (wr : World) : Prop := ∃ j : Nat, t = .int .i64 (j : Int) ∧ j ≤ n ∧ SpH w n mb (lsJ l j) wr
def OutSp (l : List Ru) (w : World) (e : Ending) (w' : World) : Prop := ∃ so, e = .returned so ∧ RowsZ w' so (l.map (spkR l)) ∧ Below w.heap.size w w'
theorem SpH.open {w : World} {l : List Ru} {n mb j : Nat} {W : World} {cs : Array Value} (h : SpH w n mb (lsJ l j) W) (hn : l.length = n) (hj : j < n) : SpS w l n mb W.heap.size j ((lsJ l j).set j []) ((W.alloc (.cells #[.int .i64 (j : Int)] 3)).alloc (.cells cs 33)) := by
  obtain ⟨vs, hs⟩ := h.rows
  have b1 := (Below.refl W.heap.size W).alloc (Nat.le_refl _) (.cells #[.int .i64 (j : Int)] 3)
  have b2 := b1.alloc b1.size (.cells cs 33)
  have hsz : (W.alloc (.cells #[.int .i64 (j : Int)] 3)).heap.size = W.heap.size + 1 := by simp
  rw [lsJ_same (by omega)]
  refine ⟨h.bel.trans (b2.mono h.bel.size), (b2.block _ (lt_of_block h.b1)).trans h.b1, (b2.block _ (lt_of_block h.b5)).trans h.b5, ?_, lt_of_block h.b5, vs, (b2.block _ (lt_of_block hs.blk)).trans hs.blk, hs.len, fun k v ns h1 h2 => ?_, hs.apart, fun k v h1 e => ?_⟩
  · exact (Below.heap_alloc _ _ _ (by rw [hsz]; omega)).trans (heap_alloc_new W _)
  · have ho := hs.rows k v ns h1 h2
    exact owns_keep ho fun b hb => b2.block b (ho.lt b hb).2
  · obtain ⟨ns, hns⟩ : ∃ ns, (lsJ l j)[k]? = some ns := by
      have hk' : k < vs.length := (List.getElem?_eq_some_iff.1 h1).1
      exact ⟨(lsJ l j)[k]'(by rw [← hs.len]; exact hk'), List.getElem?_eq_getElem _⟩
    have := ((hs.rows k v ns h1 hns).lt _ e).2
    omega
theorem SpS.shut {w : World} {l : List Ru} {n mb gi i : Nat} {ls : List (List Int)} {W : World} (h : SpS w l n mb gi i ls W) : SpH w n mb ls W := by
  obtain ⟨vs, hs⟩ := h.rows
  refine ⟨h.bel, h.b1, h.b5, vs, hs.blk, hs.len, hs.rows, hs.apart, fun k v h1 e => ?_⟩
  obtain ⟨ns, hns⟩ : ∃ ns, ls[k]? = some ns := by
    have hk' : k < vs.length := (List.getElem?_eq_some_iff.1 h1).1
    exact ⟨ls[k]'(by rw [← hs.len]; exact hk'), List.getElem?_eq_getElem _⟩
  have := ((hs.rows k v ns h1 hns).lt _ e).1
  omega
theorem SpH.out {w : World} {l : List Ru} {n mb : Nat} {W : World} (h : SpH w n mb (lsJ l l.length) W) (hn : l.length = n) (hb : ∀ u ∈ l, (spkR l u).length < 1000000) : RowsZ W (.slice (some ⟨w.heap.size + 1, 0, none⟩) n n) (l.map (spkR l)) := by
  obtain ⟨vs, hs⟩ := h.rows
  rw [lsJ_all] at hs
  refine ⟨_, _, by rw [List.length_map, hn], fun i ns hi => ?_⟩
  have hi' : i < (l.map (spkR l)).length := (List.getElem?_eq_some_iff.1 hi).1
  obtain ⟨v, hv⟩ : ∃ v, vs[i]? = some v := ⟨vs[i]'(by rw [hs.len]; exact hi'), List.getElem?_eq_getElem _⟩
  have hlen : ns.length < 1000000 := by
    rw [List.getElem?_map] at hi
    obtain ⟨u, hu, e⟩ := Option.map_eq_some_iff.1 hi
    rw [← e]
    exact hb u (List.mem_of_getElem? hu)
  refine ⟨w.heap.size + 1, 0, v, rfl, ?_, rowI_of_owns (hs.rows i v ns hv hi) (by omega)⟩
  rw [Nat.zero_add]
  exact (cell_of_row _ _ i _ _ _ hs.blk).trans (by simpa using hv)
set_option maxRecDepth 100000 in
set_option maxHeartbeats 2000000 in
theorem spoken_any (us : List (Ru × Value)) (v : Value) (mb : Nat) (w : World) (h : InR w v us) (hM : MapN w mb (us.map (fun p => p.1))) (h40 : us.length ≤ 1000) (hnm : ∀ p ∈ us, (nms p.1.2).length ≤ 1000) :
    Calls Tryz.prog 18 #[v, .map (some mb)] w (OutSp (us.map (fun p => p.1)) w) := by
  obtain ⟨l, hl⟩ : ∃ l, us.map (fun p => p.1) = l := ⟨_, rfl⟩
  have hll : l.length = us.length := by rw [← hl, List.length_map]
  obtain ⟨pv, cv, rfl⟩ := h.form
  have HK := hid5 h.cells
  have HI : Hid (∀ p ∈ us, ∃ d, KidsB (fun k => k < w.heap.size) d w p.2 p.1.2.kids) := fun p hp => (h.all p hp).2.2
  have HN := hid5 hnm
  have hmk := run_make_row' (P := Tryz.prog) 55 40 (.slice none 0 0) 24 intssType5 slInfo5 rfl .i64 .i64 us.length (by omega) (by omega)
  rw [made_nil] at hmk
  rw [hl] at hM ⊢
  have HL : Hid (us.map (fun p => p.1) = l) := hl
  have HLL := hid5 hll
  have HM := hid5 hM
  clear h hnm hl hM
  have bA := (Below.refl w.heap.size w).alloc (Nat.le_refl _) (.cells #[.map (some mb)] 53)
  have bB := bA.alloc bA.size (.cells (List.replicate us.length (Value.slice none 0 0)).toArray 40)
  have bC := bB.alloc bB.size (.cells #[.slice (some ⟨w.heap.size + 1, 0, none⟩) us.length us.length] 55)
  have s1 : (w.alloc (.cells #[.map (some mb)] 53)).heap.size = w.heap.size + 1 := by simp
  have s2 : ((w.alloc (.cells #[.map (some mb)] 53)).alloc (.cells (List.replicate us.length (Value.slice none 0 0)).toArray 40)).heap.size = w.heap.size + 1 + 1 := by simp
  have hst : SpH w us.length mb (lsJ l 0) (((w.alloc (.cells #[.map (some mb)] 53)).alloc (.cells (List.replicate us.length (Value.slice none 0 0)).toArray 40)).alloc (.cells #[.slice (some ⟨w.heap.size + 1, 0, none⟩) us.length us.length] 55)) := by
    refine ⟨bC, ?_, ?_, List.replicate us.length (.slice none 0 0), ?_, ?_, ?_, ?_, ?_⟩
    · exact (Below.heap_alloc _ _ _ (by rw [s2]; omega)).trans ((Below.heap_alloc _ _ _ (by rw [s1]; omega)).trans (heap_alloc_new w _))
    · have := heap_alloc_new ((w.alloc (.cells #[.map (some mb)] 53)).alloc (.cells (List.replicate us.length (Value.slice none 0 0)).toArray 40)) (.cells #[.slice (some ⟨w.heap.size + 1, 0, none⟩) us.length us.length] 55)
      rw [s2] at this
      exact this
    · refine (Below.heap_alloc _ _ _ (by rw [s2]; omega)).trans ?_
      have := heap_alloc_new (w.alloc (.cells #[.map (some mb)] 53)) (.cells (List.replicate us.length (Value.slice none 0 0)).toArray 40)
      rw [s1] at this
      exact this
    · rw [lsJ_zero]; simp [hll]
    · intro j v ns h1 h2
      rw [lsJ_zero, List.getElem?_replicate] at h2
      rw [List.getElem?_replicate] at h1
      split at h1
      · split at h2
        · cases h1
          cases h2
          exact World.ownsRow_nil _ _ _ _
        · cases h2
      · cases h1
    · intro j k v v' b _ h1 _ h3
      rw [List.getElem?_replicate] at h1
      split at h1
      · cases h1; cases h3
      · cases h1
    · intro j v h1 e
      rw [List.getElem?_replicate] at h1
      split at h1
      · cases h1; cases e
      · cases h1
  clear bA bB bC s1 s2 hll
  have hmf : ∀ (fn : Fn) (first cap : Array Value) (w : World), (Instr.makeFunc fn first cap).run Tryz.prog w = .ok (.func fn first cap) w := fun _ _ _ _ => rfl
  go_enter Tryz.func18, Tryz.ntmps18
  go_wp2_with fail
  go_loopw [6, 7, 13] (fun _ _ t wq => HRel w l us.length mb t wq) (fun _ _ t _ => us.length - (intOf t).toNat)
  case atStart => exact ⟨0, rfl, by omega, hst⟩
  case round =>
    obtain ⟨j, rfl, hj, hsj⟩ := hrel
    clear hst hmk
    have hj0 : (0 : Int) ≤ (j : Int) := by omega
    by_cases hlt : j < us.length
    · have hlt' : (j : Int) < (us.length : Int) := by omega
      obtain ⟨⟨u, sk⟩, hjk⟩ : ∃ p, us[j]? = some p := ⟨us[j], List.getElem?_eq_getElem hlt⟩
      have hul : l[j]? = some u := by rw [← HL.out, List.getElem?_map, hjk]; rfl
      obtain ⟨g, o, hpe, c0, c1, c2, c3, c4, c5⟩ := HK.out j _ hjk
      obtain ⟨dk, hkk⟩ := HI.out _ (List.mem_of_getElem? hjk)
      have hnk := HN.out _ (List.mem_of_getElem? hjk)
      dsimp only at c0 c1 c2 c3 c4 c5 hkk hnk
      obtain ⟨ps, cs, rfl⟩ := hkk.form
      subst hpe
      have hbl := hsj.bel
      have d0 := (hbl.cell (block_lt_of_cell c0)).trans c0
      have d1 := (hbl.cell (block_lt_of_cell c1)).trans c1
      have d2 := (hbl.cell (block_lt_of_cell c2)).trans c2
      have d3 := (hbl.cell (block_lt_of_cell c3)).trans c3
      have d4 := (hbl.cell (block_lt_of_cell c4)).trans c4
      have d5 := (hbl.cell (block_lt_of_cell c5)).trans c5
      have hop := hsj.open (cs := #[.string ⟨u.1.toArray⟩, .int .i64 u.2.kind, .int .i64 u.2.a, .int .i64 u.2.b, .string ⟨u.2.name.toArray⟩, .slice ps u.2.kids.length cs]) HLL.out hlt
      have cE := eachName_any w l us.length mb wr.heap.size j (lsJ l j) HM.out hlt (by omega) ((lsJ_len (by rw [HLL.out]; omega)).trans HLL.out) dk u.2 _ [] _ hkk hop (by simp; omega)
      have hnx : (lsJ l j).set j (spoken l [] (nms u.2)) = lsJ l (j + 1) := lsJ_next hul
      rw [hnx] at cE
      have hxR := heap_alloc_new (wr.alloc (.cells #[.int .i64 (j : Int)] 3)) (.cells #[.string ⟨u.1.toArray⟩, .int .i64 u.2.kind, .int .i64 u.2.a, .int .i64 u.2.b, .string ⟨u.2.name.toArray⟩, .slice ps u.2.kids.length cs] 33)
      rw [show (wr.alloc (.cells #[.int .i64 (j : Int)] 3)).heap.size = wr.heap.size + 1 by simp] at hxR
      unfold exV sayV at cE
      clear hnx hop hul hjk c0 c1 c2 c3 c4 c5 hkk hnk hbl hsj
      generalize hwB : (wr.alloc (.cells #[.int .i64 (j : Int)] 3)).alloc (.cells #[.string ⟨u.1.toArray⟩, .int .i64 u.2.kind, .int .i64 u.2.a, .int .i64 u.2.b, .string ⟨u.2.name.toArray⟩, .slice ps u.2.kids.length cs] 33) = wB at *
      have r1 := (cell_of_row _ _ 1 _ _ _ hxR).trans rfl
      have r2 := (cell_of_row _ _ 2 _ _ _ hxR).trans rfl
      have r3 := (cell_of_row _ _ 3 _ _ _ hxR).trans rfl
      have r4 := (cell_of_row _ _ 4 _ _ _ hxR).trans rfl
      have r5 := (cell_of_row _ _ 5 _ _ _ hxR).trans rfl
      go_wp2_with fail
      refine cE.mono ?_
      rintro e' w2 ⟨rfl, hst2, _⟩
      have hs2 := hst2.shut
      clear cE hst2 hwB hxR r1 r2 r3 r4 r5
      go_wp2_with fail
      go_roundw
      case rel => exact ⟨j + 1, by go_num, by omega, hs2⟩
      case measure => simp [intOf]; omega
    · have ej : j = us.length := by omega
      have hlt' : ¬ (j : Int) < (us.length : Int) := by omega
      have k5 := (cell_of_row _ _ 0 _ _ _ hsj.b5).trans rfl
      have HO : Hid (OutSp l w (.returned (.slice (some ⟨w.heap.size + 1, 0, none⟩) us.length us.length)) wr) := by
        have h2 := HLL.out
        refine ⟨_, rfl, ?_, hsj.bel⟩
        rw [ej, ← h2] at hsj
        have := SpH.out hsj rfl fun x hx => by
          rw [← HL.out] at hx
          obtain ⟨p, hp, rfl⟩ := List.mem_map.1 hx
          have h3 := HN.out p hp
          have h4 := spoken_le l (nms p.1.2) []
          unfold spkR
          simp at h4
          omega
        rw [← h2]
        exact this
      clear hsj HK HI HN HM ej
      go_wp2_with fail
      go_ret
      exact HO.out
end Go.Proofs.YtgfjbcdjpkcbkaaGreatDoor

/- What the three looks of check's Wrong come to. -/
namespace Go.Proofs.YtgfjbcdjpkcbkaaGreatDoor
open Go.RowKit Lx
def natsOf (ns : List Int) : List Nat := ns.map Int.toNat
def leadS (l : List Ru) (i : Nat) : List Nat := match l[i]? with | some u => natsOf (spkR l u) | none => []
theorem leadS_at {l : List Ru} {i : Nat} {u : Ru} (h : l[i]? = some u) : leadS l i = natsOf (spkR l u) := by unfold leadS; rw [h]
theorem rowsI_of {w : World} {so : Value} {l : List Ru} (h : RowsZ w so (l.map (spkR l))) (hk : ∀ u ∈ l, -1 ∉ spkR l u) : RowsI w so l.length (leadS l) := by
  have hb : ∀ u ∈ l, ∀ m ∈ spkR l u, 0 ≤ m ∧ m < l.length := fun u hu m hm => by
    have h1 := (spoken_len (l := l) (nms u.2) [] List.nodup_nil (fun m hm => by cases hm)).2 m hm
    have h2 : m ≠ -1 := fun e => hk u hu (e ▸ hm)
    omega
  obtain ⟨p, c, h1, h2⟩ := h
  refine ⟨⟨p, c, by rw [h1, List.length_map], fun i hi => ?_⟩, fun i k hk' => ?_⟩
  · obtain ⟨u, hu⟩ : ∃ u, l[i]? = some u := ⟨l[i], List.getElem?_eq_getElem hi⟩
    obtain ⟨g, o, v, e, hc, hr⟩ := h2 i (spkR l u) (by rw [List.getElem?_map, hu]; rfl)
    refine ⟨g, o, v, e, hc, ?_⟩
    rw [leadS_at hu]
    have : (natsOf (spkR l u)).map (fun k : Nat => (k : Int)) = spkR l u := by
      unfold natsOf
      rw [List.map_map]
      have hh : ∀ ns : List Int, (∀ m ∈ ns, 0 ≤ m) → ns.map ((fun k : Nat => (k : Int)) ∘ Int.toNat) = ns := by
        intro ns
        induction ns with
        | nil => intro _; rfl
        | cons m ns ih =>
          intro hm
          rw [List.map_cons, ih fun q hq => hm q (List.mem_cons_of_mem _ hq)]
          have := hm m List.mem_cons_self
          show ((m.toNat : Nat) : Int) :: ns = _
          rw [Int.toNat_of_nonneg this]
      exact hh _ fun m hm => (hb u (List.mem_of_getElem? hu) m hm).1
    rw [this]
    exact hr
  · unfold leadS at hk'
    split at hk'
    · rename_i u hu
      unfold natsOf at hk'
      obtain ⟨m, hm, rfl⟩ := List.mem_map.1 hk'
      have := hb u (List.mem_of_getElem? hu) m hm
      omega
    · cases hk'
theorem atP5_self {l : List Ru} {i : Nat} {u : Ru} (h : l[i]? = some u) : 0 ≤ atP5 l u.1 := by
  have aux : ∀ (l : List Ru) (k i : Nat), l[i]? = some u → 0 ≤ atF l k u.1 := by
    intro l
    induction l with
    | nil => intro k i h; simp at h
    | cons v l ih =>
      intro k i h
      simp only [atF]
      split
      · omega
      · rename_i hv
        cases i with
        | zero => simp at h; exact absurd (by rw [h]) hv
        | succ i => exact ih (k + 1) i (by simpa using h)
  exact aux l 0 i h
set_option maxRecDepth 100000 in
set_option maxHeartbeats 1000000 in
theorem look1_any (us : List (Ru × Value)) (pv : Option Addr) (cv : Nat) (mb b4 b1 i : Nat) (u : Ru) (w : World) (h : InR w (.slice pv us.length cv) us) (hM : MapN w mb (us.map (fun p => p.1))) (h1 : w.heap[b1]? = some (.cells #[.slice pv us.length cv] 22 (0, 0))) (h4 : w.heap[b4]? = some (.cells #[.map (some mb)] 53 (0, 0))) (hu : (us.map (fun p => p.1))[i]? = some u) :
    Calls Tryz.prog 19 #[.int .i64 (i : Int), .pointer (some ⟨b4, 0, none⟩), .pointer (some ⟨b1, 0, none⟩)] w fun r w' => r = .returned (.bool (atP5 (us.map (fun p => p.1)) u.1 != (i : Int))) ∧ Below w.heap.size w w' := by
  have hlk := fun W (hW : w.heap = W.heap) => look6 (w := W) (hM.later (by rw [hW])) u.1 (atP5_self hu)
  obtain ⟨⟨u', sk⟩, hp, hpu⟩ : ∃ p, us[i]? = some p ∧ p.1 = u := by
    rw [List.getElem?_map] at hu
    exact Option.map_eq_some_iff.1 hu
  dsimp only at hpu
  subst hpu
  have hi : i < us.length := (List.getElem?_eq_some_iff.1 hp).1
  obtain ⟨g, o, rfl, c0, _⟩ := h.cells i _ hp
  dsimp only at c0
  have k1 := (cell_of_row _ _ 0 _ _ _ h1).trans rfl
  have k4 := (cell_of_row _ _ 0 _ _ _ h4).trans rfl
  have hi0 : (0 : Int) ≤ (i : Int) := by omega
  have hiI : (i : Int) < (us.length : Int) := by omega
  have hlk0 := fun n => hlk (w.drewN n) rfl
  have hlk1 := hlk w rfl
  generalize atP5 (us.map (fun p => p.1)) u'.1 = N at *
  clear hlk h hM hu hp h1 h4
  go_enter Tryz.func19, Tryz.ntmps19
  go_wp2_with fail
  go_quiet (fail)
  have hbq : Below w.heap.size w (w.drewN nq) := below_drewN (Below.refl _ _) nq
  go_wp2_with fail
  go_ret
  exact ⟨rfl, hbq⟩
set_option maxRecDepth 100000 in
theorem look2_any (l : List Ru) (so : Value) (b5 i : Nat) (u : Ru) (w : World) (hZ : RowsZ w so (l.map (spkR l))) (h5 : w.heap[b5]? = some (.cells #[so] 55 (0, 0))) (hu : l[i]? = some u) :
    Calls Tryz.prog 20 #[.int .i64 (i : Int), .pointer (some ⟨b5, 0, none⟩)] w fun r w' => r = .returned (.bool (decide (-1 ∈ spkR l u))) ∧ Below w.heap.size w w' := by
  obtain ⟨p, c, rfl, hrows⟩ := hZ
  obtain ⟨g, o, v, rfl, hc, hr⟩ := hrows i (spkR l u) (by rw [List.getElem?_map, hu]; rfl)
  have hi : i < l.length := (List.getElem?_eq_some_iff.1 hu).1
  have cC := contains5_any (spkR l u) v (-1) w hr
  obtain ⟨pv, cv, rfl, _, _⟩ := hr
  have k5 := (cell_of_row _ _ 0 _ _ _ h5).trans rfl
  rw [List.length_map] at k5
  have hi0 : (0 : Int) ≤ (i : Int) := by omega
  have hiI : (i : Int) < (l.length : Int) := by omega
  clear hrows h5 hu
  generalize decide (-1 ∈ spkR l u) = b at *
  generalize (spkR l u).length = nn at *
  go_enter Tryz.func20, Tryz.ntmps20
  go_wp2_with fail
  refine cC.mono ?_
  rintro r w1 ⟨rfl, hb⟩
  clear cC
  go_wp2_with fail
  go_ret
  exact ⟨rfl, hb⟩
set_option maxRecDepth 100000 in
theorem look3_any (l : List Ru) (so : Value) (b5 i : Nat) (w : World) (hS : RowsI w so l.length (leadS l)) (hl : l.length ≤ 1000) (h5 : w.heap[b5]? = some (.cells #[so] 55 (0, 0))) (hi : i < l.length) :
    Calls Tryz.prog 22 #[.int .i64 (i : Int), .pointer (some ⟨b5, 0, none⟩)] w fun r w' => r = .returned (.bool (fol (leadS l) (l.length + 1) (fun _ => false) i i)) ∧ Below w.heap.size w w' := by
  have cR := reached_any so l.length (leadS l) i w hS (by omega) hi
  obtain ⟨p, c, rfl, _⟩ := hS.form
  have k5 := (cell_of_row _ _ 0 _ _ _ h5).trans rfl
  have hi0 : (0 : Int) ≤ (i : Int) := by omega
  have hiI : (i : Int) < (l.length : Int) := by omega
  generalize fol (leadS l) (l.length + 1) (fun _ => false) i = m at *
  clear h5 hS
  go_enter Tryz.func22, Tryz.ntmps22
  go_wp2_with fail
  refine cR.mono ?_
  rintro r w1 ⟨g, rfl, hg, hb⟩
  have km := (cell_of_row _ _ i _ _ _ hg).trans (bcells_at hi)
  clear cR hg
  go_wp2_with fail
  go_ret
  exact ⟨rfl, hb⟩
end Go.Proofs.YtgfjbcdjpkcbkaaGreatDoor
