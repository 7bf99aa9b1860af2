/- What the document's Speaks and Unknown come to. -/
import Derived.Test.YtllcpoibnmhghaaGreatDoorTb18
import Derived.Test.YtllcpoibnmhghaaGreatDoorTb20
namespace Go.Proofs.YtllcpoibnmhghaaGreatDoor
open Go.RowKit Lx

theorem exprType5 : Tryz.prog.underlying 25 = some (.struct (Tryz.prog.fieldsOf 25)) := by kernel_rfl

end Go.Proofs.YtllcpoibnmhghaaGreatDoor

/- What eachName comes to with the closure of spoken; and what spoken comes to. -/
namespace Lx
theorem spoken_app (l : List Ru) (acc : List Int) (xs ys : List (List UInt8)) : spoken l acc (xs ++ ys) = spoken l (spoken l acc xs) ys := by
  unfold spoken
  rw [List.foldl_append]
theorem addN_len (acc : List Int) (n : Int) : (addN acc n).length ≤ acc.length + 1 := by
  unfold addN
  split <;> simp
theorem spoken_le (l : List Ru) : ∀ (xs : List (List UInt8)) (acc : List Int), (spoken l acc xs).length ≤ acc.length + xs.length
  | [], acc => by simp [spoken]
  | y :: xs, acc => by
    have h1 := spoken_le l xs (addN acc (atP5 l y))
    have h2 := addN_len acc (atP5 l y)
    show (spoken l (addN acc (atP5 l y)) xs).length ≤ _
    simp only [List.length_cons]
    omega
theorem nmsL_snoc {ks : List Ex} {j : Nat} {k : Ex} (h : ks[j]? = some k) : nmsL (ks.take (j + 1)) = nmsL (ks.take j) ++ nms k := by
  unfold nmsL
  rw [List.take_add_one, h, Option.toList_some, List.map_append, List.flatten_append]
  simp
theorem nmsL_len {ks : List Ex} {j : Nat} {k : Ex} (h : ks[j]? = some k) : (nmsL (ks.take j)).length + (nms k).length ≤ (nmsL ks).length := by
  rw [← List.length_append, ← nmsL_snoc h]
  unfold nmsL
  have : ks = ks.take (j + 1) ++ ks.drop (j + 1) := (List.take_append_drop _ _).symm
  conv => rhs; rw [this, List.map_append, List.flatten_append, List.length_append]
  omega
/-- No more names than expressions. -/
theorem nms_shape : ∀ (N : Nat) (e : Ex) (deep n : Nat), sizeOf e ≤ N → (shapeP e deep n).1 = 0 → n + (nms e).length + 1 ≤ (shapeP e deep n).2 + 1 ∧ n + 1 ≤ (shapeP e deep n).2
  | 0, e, _, _, hN, _ => by cases e; simp at hN
  | N + 1, e, deep, n, hN, h => by
    rw [shapeP_eq] at h ⊢
    by_cases c1 : 600 < n + 1 ∨ 40 < deep
    · rw [if_pos c1] at h; cases h
    rw [if_neg c1] at h ⊢
    by_cases c2 : aloneP e ≠ 0
    · rw [if_pos c2] at h; exact absurd h c2
    rw [if_neg c2] at h ⊢
    have aux : ∀ (ks : List Ex), (∀ k ∈ ks, sizeOf k ≤ N) → ∀ m : Nat, (shapeL ks (deep + 1) (0, m)).1 = 0 → m + (nmsL ks).length ≤ (shapeL ks (deep + 1) (0, m)).2 := by
      intro ks
      induction ks with
      | nil => intro _ m _; simp [nmsL, shapeL_nil]
      | cons k ks ih =>
        intro hk m h0
        rw [shapeL_cons, if_neg (by simp)] at h0 ⊢
        have hz : (shapeP k (deep + 1) m).1 = 0 := by
          by_cases hz : (shapeP k (deep + 1) m).1 = 0
          · exact hz
          · rw [shapeL_bad hz] at h0; exact h0
        obtain ⟨i1, i2⟩ := nms_shape N k (deep + 1) m (hk k List.mem_cons_self) hz
        obtain ⟨m', e'⟩ : ∃ m', shapeP k (deep + 1) m = (0, m') := ⟨_, Prod.ext hz rfl⟩
        rw [e'] at h0 i1 ⊢
        have := ih (fun q hq => hk q (List.mem_cons_of_mem _ hq)) m' h0
        have hl : (nmsL (k :: ks)).length = (nms k).length + (nmsL ks).length := by simp [nmsL]
        rw [hl]
        dsimp only at i1
        omega
    have hb := aux e.kids (fun k hk => by have := kid_lt hk; omega) (n + 1) h
    have hl : (nms e).length ≤ 1 + (nmsL e.kids).length := by
      rw [nms_eq, List.length_append]
      split <;> simp
    omega
end Lx
namespace Go.Proofs.YtllcpoibnmhghaaGreatDoor
open Go.RowKit Lx

/-- The closure of spoken, as it is handed on. -/
def sayV (w : World) (gi : Nat) : Value := .func (.func 48) #[] #[.pointer (some ⟨w.heap.size, 0, none⟩), .pointer (some ⟨w.heap.size + 1 + 1, 0, none⟩), .pointer (some ⟨gi, 0, none⟩)]
def ERel (w : World) (l : List Ru) (n mb gi i : Nat) (ls0 : List (List Int)) (r : List Int) (ks : List Ex) (w0 : World) (t : Value) (wr : World) : Prop := ∃ j : Nat, t = .int .i64 (j : Int) ∧ j ≤ ks.length ∧ SpS w l n mb gi i (ls0.set i (spoken l r (nmsL (ks.take j)))) wr ∧ KT w0 wr
set_option maxRecDepth 100000 in
set_option maxHeartbeats 2000000 in
theorem eachName_step (w : World) (l : List Ru) (n mb gi i : Nat) (ls0 : List (List Int)) (hM : MapN w mb l) (hin : i < n) (hn : n ≤ 1000000) (hl0 : ls0.length = n)
    (e : Ex) (pe : Option Addr) (ce : Nat) (r : List Int) (wr : World) (h : SpS w l n mb gi i (ls0.set i r) wr) (hr : r.length + (nms e).length ≤ 1000000) (hlk : (e.kids.length : Int) < 9223372036854775808)
    (hkk : ∀ (j : Nat) (k : Ex), e.kids[j]? = some k → ∃ (g o : Nat) (ps : Option Addr) (cs : Nat), pe = some ⟨g, o, none⟩ ∧
        w.cell? ⟨g, o + j * 5, none⟩ = some (.int .i64 k.kind) ∧ w.cell? ⟨g, o + j * 5 + 1, none⟩ = some (.int .i64 k.a) ∧ w.cell? ⟨g, o + j * 5 + 2, none⟩ = some (.int .i64 k.b) ∧
        w.cell? ⟨g, o + j * 5 + 3, none⟩ = some (.string ⟨k.name.toArray⟩) ∧ w.cell? ⟨g, o + j * 5 + 4, none⟩ = some (.slice ps k.kids.length cs) ∧
        ∀ (q : List Int) (W : World), SpS w l n mb gi i (ls0.set i q) W → q.length + (nms k).length ≤ 1000000 → Calls Tryz.prog 47 #[exV k (.slice ps k.kids.length cs), sayV w gi] W (OutS1 w l n mb gi i (ls0.set i (spoken l q (nms k))) W)) :
    Calls Tryz.prog 47 #[exV e (.slice pe e.kids.length ce), sayV w gi] wr (OutS1 w l n mb gi i (ls0.set i (spoken l r (nms e))) wr) := by
  have HK := hid5 hkk
  have hb0 : Below wr.heap.size wr (wr.alloc (.cells #[.int .i64 e.kind, .int .i64 e.a, .int .i64 e.b, .string ⟨e.name.toArray⟩, .slice pe e.kids.length ce] 25)) := (Below.refl _ _).alloc (Nat.le_refl _) _
  have hx0 := heap_alloc_new wr (.cells #[.int .i64 e.kind, .int .i64 e.a, .int .i64 e.b, .string ⟨e.name.toArray⟩, .slice pe e.kids.length ce] 25)
  have hA := h.below hb0
  unfold exV
  clear hkk h
  generalize hwA : wr.alloc (.cells #[.int .i64 e.kind, .int .i64 e.a, .int .i64 e.b, .string ⟨e.name.toArray⟩, .slice pe e.kids.length ce] 25) = wA at *
  have z0 := (cell_of_row _ _ 0 _ _ _ hx0).trans rfl
  have z3 := (cell_of_row _ _ 3 _ _ _ hx0).trans rfl
  have z4 := (cell_of_row _ _ 4 _ _ _ hx0).trans rfl
  have hne := nms_eq e
  unfold sayV
  go_enter Tryz.func47, Tryz.ntmps47
  go_upto_if 8 with fail
  rename_i K1 hK1
  have key : ∀ (x8 x9 x10 x11 x12 : Value) (q : List Int) (W : World), SpS w l n mb gi i (ls0.set i q) W → KT wr W → q.length + (nmsL e.kids).length ≤ 1000000 → spoken l q (nmsL e.kids) = spoken l r (nms e) → W.cell? ⟨wr.heap.size, 4, none⟩ = some (.slice pe e.kids.length ce) →
      K1 ⟨#[.agg #[.int .i64 e.kind, .int .i64 e.a, .int .i64 e.b, .string ⟨e.name.toArray⟩, .slice pe e.kids.length ce], .func (.func 48) #[] #[.pointer (some ⟨w.heap.size, 0, none⟩), .pointer (some ⟨w.heap.size + 1 + 1, 0, none⟩), .pointer (some ⟨gi, 0, none⟩)], .pointer (some ⟨wr.heap.size, 0, none⟩), undef, undef, undef, .pointer (some ⟨wr.heap.size, 0, none⟩), .int .i64 e.kind, x8, x9, x10, x11, x12, undef, undef, undef, undef, undef, undef, undef, undef, undef, undef, undef], []⟩ W := by
    intro x8 x9 x10 x11 x12 q W hW hkt hql hqe hc4
    refine hK1 _ _ ?_
    have Hqe := hid5 hqe
    have Hkt := hid5 hkt
    clear hkt
    clear hK1 hA hx0 z0 z3 z4 hb0 hne hqe hwA hr
    go_wp2_with fail
    clear hc4
    go_loopw [5, 16] (fun _ t wq => ERel w l n mb gi i ls0 q e.kids wr t wq) (fun _ t _ => e.kids.length - (intOf t).toNat)
    case atStart => exact ⟨0, rfl, by omega, hW, Hkt.out⟩
    case round =>
      obtain ⟨j, rfl, hj, hst, hktj⟩ := hrel
      have Hktj := hid5 hktj
      clear hW hktj Hkt
      have hj0 : (0 : Int) ≤ (j : Int) := by omega
      by_cases hlt : j < e.kids.length
      · have hlt' : (j : Int) < (e.kids.length : Int) := by omega
        obtain ⟨k, hjk⟩ : ∃ k, e.kids[j]? = some k := ⟨e.kids[j], List.getElem?_eq_getElem hlt⟩
        obtain ⟨g, o, ps, cs, hpe, c0, c1, c2, c3, c4, cK⟩ := HK.out j k hjk
        have hsn := nmsL_snoc hjk
        have hnl := nmsL_len hjk
        have hsl := spoken_le l (nmsL (e.kids.take j)) q
        subst hpe
        have hbl := hst.bel
        have d0 := (hbl.cell (block_lt_of_cell c0)).trans c0
        have d1 := (hbl.cell (block_lt_of_cell c1)).trans c1
        have d2 := (hbl.cell (block_lt_of_cell c2)).trans c2
        have d3 := (hbl.cell (block_lt_of_cell c3)).trans c3
        have d4 := (hbl.cell (block_lt_of_cell c4)).trans c4
        have hbA := (Below.refl wr.heap.size wr).alloc (Nat.le_refl _) (.cells #[.int .i64 k.kind, .int .i64 k.a, .int .i64 k.b, .string ⟨k.name.toArray⟩, .slice ps k.kids.length cs] 25)
        have hxB := heap_alloc_new wr (.cells #[.int .i64 k.kind, .int .i64 k.a, .int .i64 k.b, .string ⟨k.name.toArray⟩, .slice ps k.kids.length cs] 25)
        have cR := cK _ _ (hst.below hbA) (by omega)
        rw [← spoken_app, ← hsn] at cR
        unfold exV sayV at cR
        have HbA := hid5 hbA
        clear hsn hnl hsl hjk c0 c1 c2 c3 c4 cK hst hbl hbA
        generalize hwB : wr.alloc (.cells #[.int .i64 k.kind, .int .i64 k.a, .int .i64 k.b, .string ⟨k.name.toArray⟩, .slice ps k.kids.length cs] 25) = wB at *
        go_wp2_with (refine wpList_load_row rfl 25 _ rfl _ rfl _ _ _ _ hxB exprType5 rfl (by kernel_rfl) ?_)
        refine cR.mono ?_
        rintro e' w2 ⟨rfl, hst2, hk2⟩
        have Hk2 := hid5 ((Hktj.out.trans (KT.below HbA.out)).trans hk2)
        clear cR hxB Hktj HbA hk2
        go_wp2_with fail
        go_roundw
        case rel => exact ⟨j + 1, by go_num, by omega, hst2, Hk2.out⟩
        case measure => simp [intOf]; omega
      · have hlt' : ¬ (j : Int) < (e.kids.length : Int) := by omega
        have HO := fun (H : SpS w l n mb gi i (ls0.set i (spoken l r (nms e))) wr) => hid5 (And.intro (rfl : Ending.returned (.tuple #[]) = .returned (.tuple #[])) (And.intro H Hktj.out))
        have HO := HO (by
          rw [← Hqe.out]
          have e1 : e.kids.take j = e.kids := List.take_of_length_le (by omega)
          rw [e1] at hst
          exact hst)
        clear hst HK Hqe Hktj
        go_wp2_with fail
        refine bodyPost_ret (results_none rfl _ _ _) rfl ?_
        exact ⟨rfl, HO.out.2⟩
  clear hK1 HK
  have Hkey := hid5 key
  clear key
  by_cases hk : e.kind = 10
  · have hk' : (e.kind == 10) = true := by rw [hk]; rfl
    rw [if_pos hk] at hne
    have hl1 : (nms e).length = 1 + (nmsL e.kids).length := by rw [hne]; simp; omega
    have cS := spoken1_any w l n mb gi i ls0 r e.name wA hM hin hn hl0 (by omega) hA
    have hal := addN_len r (atP5 l e.name)
    have he1 : spoken l (addN r (atP5 l e.name)) (nmsL e.kids) = spoken l r (nms e) := by
      rw [hne, spoken_app]
      rfl
    have HL : Hid ((addN r (atP5 l e.name)).length + (nmsL e.kids).length ≤ 1000000) := by
      show _ ≤ _
      omega
    have HE := hid5 he1
    have Hx := hid5 hx0
    have Hb0 := hid5 hb0
    clear hk hne hl1 hal he1 hr hx0 hA hM hwA hb0 z0 z4 hlk
    generalize addN r (atP5 l e.name) = q at *
    go_wp2_with fail
    refine cS.mono ?_
    rintro e' w2 ⟨rfl, hst2, hk2⟩
    have z4' : w2.cell? ⟨wr.heap.size, 4, none⟩ = some (.slice pe e.kids.length ce) := (cell_of_row _ _ 4 _ _ _ (hk2 _ _ _ _ Hx.out (by decide) (by decide))).trans rfl
    have Hk2 := hid5 ((KT.below Hb0.out).trans hk2)
    clear cS hk2
    go_wp2_with fail
    exact Hkey.out _ _ _ _ _ q w2 hst2 Hk2.out HL.out HE.out z4'
  · have hk' : (e.kind == 10) = false := beq_eq_false_iff_ne.2 hk
    rw [if_neg hk, List.nil_append] at hne
    have HF : Hid (∀ (x8 x9 x10 x11 x12 : Value), K1 ⟨#[.agg #[.int .i64 e.kind, .int .i64 e.a, .int .i64 e.b, .string ⟨e.name.toArray⟩, .slice pe e.kids.length ce], .func (.func 48) #[] #[.pointer (some ⟨w.heap.size, 0, none⟩), .pointer (some ⟨w.heap.size + 1 + 1, 0, none⟩), .pointer (some ⟨gi, 0, none⟩)], .pointer (some ⟨wr.heap.size, 0, none⟩), undef, undef, undef, .pointer (some ⟨wr.heap.size, 0, none⟩), .int .i64 e.kind, x8, x9, x10, x11, x12, undef, undef, undef, undef, undef, undef, undef, undef, undef, undef, undef], []⟩ wA)   := fun x8 x9 x10 x11 x12 => Hkey.out x8 x9 x10 x11 x12 r wA hA (KT.below hb0) (by rw [hne] at hr; exact hr) (by rw [hne]) z4
    clear hk hne Hkey hA hM hr hwA hb0 z0 z3 z4 hx0 hlk
    go_wp2_with fail
    exact HF.out _ _ _ _ _
end Go.Proofs.YtllcpoibnmhghaaGreatDoor
