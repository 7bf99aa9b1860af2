/- What the document's Wrong comes to. -/
import Derived.Test.YtfibbmdkpgageaaDoorPq38
import Derived.Test.YtfibbmdkpgageaaDoorPq25
import Derived.Test.YtfibbmdkpgageaaDoorPq34
import Derived.Test.YtfibbmdkpgageaaDoorPq28
namespace Go.Proofs.YtfibbmdkpgageaaDoor
open Go.RowKit Lx

/-- Nothing old has turned, where the counter is new. -/
theorem below_of_cnt {g : Nat} {w w0 w' : World} (hb : Below w.heap.size w w0) (hg : w.heap.size ≤ g) (hk : Kept g w0 w') : Below w.heap.size w w' :=
  ⟨hk.os.trans hb.os, hk.tape.trans hb.tape, hk.output.trans hb.output, Nat.le_trans hb.size hk.size, fun k h => (hk.block k (by have := hb.size; omega) (fun e => by have := Option.some.inj e; omega)).trans (hb.block k h)⟩
set_option maxRecDepth 100000 in
set_option maxHeartbeats 2000000 in
theorem rwrong_any (us : List (Ru × Value)) (v : Value) (w : World) (h : InR w v us) :
    Calls Tryd.prog 15 #[v] w fun r w' => r = .returned (.agg #[.int .i64 (wrongR (us.map (fun p => p.1))).1, .int .i64 ((wrongR (us.map (fun p => p.1))).2 : Int)]) ∧ Below w.heap.size w w' := by
  have hlen := h.len
  have hform : ∃ p c, v = .slice p us.length c := by
    rcases h.row with ⟨rfl, p, c, hv⟩ | ⟨g, o, c, hv, _⟩
    · exact ⟨p, c, hv⟩
    · exact ⟨_, c, hv⟩
  obtain ⟨p, c, rfl⟩ := hform
  have hb0 := (Below.refl w.heap.size w).alloc (Nat.le_refl _) (.cells #[.int .i64 0, .int .i64 0] 26)
  have hr0 := heap_alloc_new w (.cells #[.int .i64 0, .int .i64 0] 26)
  generalize hX : wrongR (us.map (fun p => p.1)) = X
  have hX' := hX
  unfold wrongR at hX'
  rw [List.length_map] at hX'
  have HIN : Hid (InR w (.slice p us.length c) us) := h
  clear hX
  generalize hwA : w.alloc (.cells #[.int .i64 0, .int .i64 0] 26) = wA at *
  by_cases hm : 40 < us.length
  · have hm' : (40 : Int) < (us.length : Int) := by omega
    rw [if_pos hm] at hX'
    subst hX'
    clear HIN h
    go_enter Tryd.func15, Tryd.ntmps15
    go_wp2_with (refine wpList_store_row rfl 26 _ _ rfl _ _ rfl rfl _ _ hr0 (by kernel_rfl) (by simp) (by simp [Value.oneCell']) ?_)
    exact flt_ret 2 (by kernel_rfl) w.heap.size 5 0 rfl rfl (setRow_heap _ _ _ _ _ _ hr0) ⟨rfl, below_setRow hb0 (Nat.le_refl _) _⟩
  · have hm' : ¬ (40 : Int) < (us.length : Int) := by omega
    rw [if_neg hm] at hX'
    have HS : Hid (wrongL ((us.map (fun p => p.1)).drop 0) 0 = X) := hX'
    clear hX' h
    go_enter Tryd.func15, Tryd.ntmps15
    go_wp2_with fail
    clear hwA
    go_loopw [13] (fun t wr => ∃ j : Nat, t = .int .i64 (j : Int) ∧ j ≤ us.length ∧ wrongL ((us.map (fun p => p.1)).drop j) j = X ∧ wr.heap[w.heap.size]? = some (.cells #[.int .i64 0, .int .i64 0] 26 (0, 0)) ∧ Below w.heap.size w wr) (fun t _ => us.length - (intOf t).toNat)
    case atStart => exact ⟨0, rfl, by omega, HS.out, hr0, hb0⟩
    case round =>
      obtain ⟨j, rfl, hj, hXr, hrr, hbr⟩ := hrel
      clear HS hr0 hb0
      have hj0 : (0 : Int) ≤ (j : Int) := by omega
      have hj4 : (j : Int) ≤ 40 := by omega
      by_cases hlt : j < us.length
      · have hlt' : (j : Int) < (us.length : Int) := by omega
        obtain ⟨⟨u, sk⟩, hjk⟩ : ∃ k, us[j]? = some k := ⟨us[j], List.getElem?_eq_getElem hlt⟩
        have hju : (us.map (fun p => p.1))[j]? = some u := by rw [List.getElem?_map, hjk]; rfl
        rw [wrongL_step hju] at hXr
        have hin := HIN.out.all _ (List.mem_of_getElem? hjk)
        obtain ⟨pk, ck, hsk⟩ : ∃ p c, sk = .slice p u.2.kids.length c := by
          obtain ⟨_, _, d, hd⟩ := hin
          exact hd.form
        subst hsk
        rcases HIN.out.row with ⟨h, _⟩ | ⟨g, o, c', hsl, _, hcells⟩
        · rw [h] at hlt; simp at hlt
        injection hsl with e1 e2 e3
        subst e1
        subst e3
        obtain ⟨d0, d1, d2, d3, d4, d5⟩ := hcells j _ hjk
        dsimp only at d0 d1 d2 d3 d4 d5
        have f0 := (hbr.cell (block_lt_of_cell d0)).trans d0
        have f1 := (hbr.cell (block_lt_of_cell d1)).trans d1
        have f2 := (hbr.cell (block_lt_of_cell d2)).trans d2
        have f3 := (hbr.cell (block_lt_of_cell d3)).trans d3
        have f4 := (hbr.cell (block_lt_of_cell d4)).trans d4
        have f5 := (hbr.cell (block_lt_of_cell d5)).trans d5
        have hbB : Below wr.heap.size wr (wr.alloc (.cells #[.string ⟨u.1.toArray⟩, .int .i64 u.2.kind, .int .i64 u.2.a, .int .i64 u.2.b, .string ⟨u.2.name.toArray⟩, .slice pk u.2.kids.length ck] 64)) := (Below.refl _ _).alloc (Nat.le_refl _) _
        have hxB := heap_alloc_new wr (.cells #[.string ⟨u.1.toArray⟩, .int .i64 u.2.kind, .int .i64 u.2.a, .int .i64 u.2.b, .string ⟨u.2.name.toArray⟩, .slice pk u.2.kids.length ck] 64)
        have hbBw := hbr.trans (hbB.mono hbr.size)
        have hrB := (hbB.block _ (lt_of_block hrr)).trans hrr
        obtain ⟨h1, h2, dk, h3⟩ := hin
        dsimp only at h1 h2 h3
        have cN := fun w => rnamed_big ⟨u.1.toArray⟩ u.1 rfl h1 w
        have HP : Hid (ruleP u = if namedL u.1 = false then 7 else (shapeP u.2 1 0).1) := rfl
        have HXr : Hid ((if ruleP u ≠ 0 then (ruleP u, j) else wrongL ((us.map (fun p => p.1)).drop (j + 1)) (j + 1)) = X) := hXr
        clear d0 d1 d2 d3 d4 d5 hcells hjk hju hbB hrr hXr
        generalize hwB : wr.alloc (.cells #[.string ⟨u.1.toArray⟩, .int .i64 u.2.kind, .int .i64 u.2.a, .int .i64 u.2.b, .string ⟨u.2.name.toArray⟩, .slice pk u.2.kids.length ck] 64) = wB at *
        have z0 := (cell_of_row _ _ 0 _ _ _ hxB).trans rfl
        have hlB := lt_of_block hxB
        have hszr := hbr.size
        cases hnb : namedL u.1 with
        | false =>
          have hR : ruleP u = 7 := by rw [HP.out, if_pos hnb]
          have hXX := HXr.out
          rw [hR, if_pos (by decide)] at hXX
          subst hXX
          simp only [hnb] at cN
          clear HXr HP hR h3
          go_wp2_with fail
          refine (cN _).mono ?_
          rintro r w3 ⟨rfl, hb3⟩
          have hb3w := hbBw.trans (hb3.mono hbBw.size)
          have hr3 := (hb3.block _ (lt_of_block hrB)).trans hrB
          clear cN hb3 hbBw hrB hxB hwB f0 f1 f2 f3 f4 f5 z0
          go_wp2_with (refine wpList_store_row rfl 26 _ _ rfl _ _ rfl rfl _ _ hr3 (by kernel_rfl) (by simp) (by simp [Value.oneCell']) ?_)
          exact flt_ret 2 (by kernel_rfl) w.heap.size 7 (j : Int) rfl rfl (setRow_heap _ _ _ _ _ _ hr3) ⟨rfl, below_setRow hb3w (Nat.le_refl _) _⟩
        | true =>
          have HR : Hid (ruleP u = (shapeP u.2 1 0).1) := by show _ = _; rw [HP.out, if_neg (by simp [hnb])]
          simp only [hnb] at cN
          clear HP
          go_wp2_with fail
          refine (cN _).mono ?_
          rintro r w3 ⟨rfl, hb3⟩
          have hb3w := hbBw.trans (hb3.mono hbBw.size)
          have hr3 := (hb3.block _ (lt_of_block hrB)).trans hrB
          have hx3 := (hb3.block _ (lt_of_block hxB)).trans hxB
          have hs3 := hb3.size
          have hbC : Below w3.heap.size w3 (w3.alloc (.cells #[.int .i64 0] 3)) := (Below.refl _ _).alloc (Nat.le_refl _) _
          have hn4 := heap_alloc_new w3 (.cells #[.int .i64 0] 3)
          have hx4 := (hbC.block _ (lt_of_block hx3)).trans hx3
          have hr4 := (hbC.block _ (lt_of_block hr3)).trans hr3
          have hlr := lt_of_block hr3
          have hb4w := hb3w.trans (hbC.mono hb3w.size)
          clear cN hb3 hbBw hrB hxB hwB f0 f1 f2 f3 f4 f5 z0 hx3 hr3 hbC
          generalize hwC : w3.alloc (.cells #[.int .i64 0] 3) = wC at *
          have z2 := (cell_of_row _ _ 0 _ _ _ hn4).trans rfl
          have y2 := frozen_of_row _ _ 0 _ _ hn4
          have hc5 : CntAt (wC.setCell ⟨w3.heap.size, 0, none⟩ (.int .i64 0)) w3.heap.size 0 := heap_setCell_same _ _ 0 _ _ _ hn4
          have hx5 := (heap_setCell_other wC ⟨w3.heap.size, 0, none⟩ wr.heap.size (.int .i64 0) (by show wr.heap.size ≠ w3.heap.size; omega)).trans hx4
          have hr5 := (heap_setCell_other wC ⟨w3.heap.size, 0, none⟩ w.heap.size (.int .i64 0) (by show w.heap.size ≠ w3.heap.size; omega)).trans hr4
          have hb5w : Below w.heap.size w (wC.setCell ⟨w3.heap.size, 0, none⟩ (.int .i64 0)) := hb4w.setCell (p := ⟨w3.heap.size, 0, none⟩) (by show w.heap.size ≤ w3.heap.size; omega) _
          have cE := shape_any (B := fun k => k < w.heap.size) (gn := w3.heap.size) (fun k hk => by omega) dk u.2 (.slice pk u.2.kids.length ck) (wC.setCell ⟨w3.heap.size, 0, none⟩ (.int .i64 0)) 1 0 (h3.kept fun g hg _ => hb5w.block g hg) h2 hc5 (by omega) (by omega)
          unfold exV at cE
          have HXs : Hid ((if (shapeP u.2 1 0).1 ≠ 0 then ((shapeP u.2 1 0).1, j) else wrongL ((us.map (fun p => p.1)).drop (j + 1)) (j + 1)) = X) := by show _ = _; rw [← HR.out]; exact HXr.out
          clear h3 hc5 hn4 hx4 hr4 hb4w HXr HR
          generalize hw5 : wC.setCell ⟨w3.heap.size, 0, none⟩ (.int .i64 0) = w5 at *
          have e1 := (cell_of_row _ _ 1 _ _ _ hx5).trans rfl
          have e2 := (cell_of_row _ _ 2 _ _ _ hx5).trans rfl
          have e3 := (cell_of_row _ _ 3 _ _ _ hx5).trans rfl
          have e4 := (cell_of_row _ _ 4 _ _ _ hx5).trans rfl
          have e5 := (cell_of_row _ _ 5 _ _ _ hx5).trans rfl
          generalize shapeP u.2 1 0 = Y at *
          obtain ⟨R, y2'⟩ := Y
          go_wp2_with fail
          refine cE.mono ?_
          rintro r w6 ⟨rfl, -, hk6⟩
          have hb6w : Below w.heap.size w w6 := below_of_cnt hb5w (by omega) hk6
          have hr6 := hk6.at hr5 (by omega)
          dsimp only at HXs ⊢
          clear cE hk6 hb5w hr5 hx5 e1 e2 e3 e4 e5 hw5 hwC z2 y2
          by_cases hy : R = 0
          · subst hy
            have hXX := HXs.out
            rw [if_neg (by simp)] at hXX
            have HN : Hid (wrongL ((us.map (fun p => p.1)).drop (j + 1)) (j + 1) = X) := hXX
            clear hXX HXs
            go_wp2_with fail
            go_roundw
            case rel => exact ⟨j + 1, by go_num, by omega, HN.out, hr6, hb6w⟩
            case measure => simp [intOf]; omega
          · have hyb : (R != 0) = true := by simpa using hy
            have hXX := HXs.out
            rw [if_pos hy] at hXX
            subst hXX
            clear HXs
            go_wp2_with (refine wpList_store_row rfl 26 _ _ rfl _ _ rfl rfl _ _ hr6 (by kernel_rfl) (by simp) (by simp [Value.oneCell']) ?_)
            exact flt_ret 2 (by kernel_rfl) w.heap.size R (j : Int) rfl rfl (setRow_heap _ _ _ _ _ _ hr6) ⟨rfl, below_setRow hb6w (Nat.le_refl _) _⟩
      · have hlt' : ¬ (j : Int) < (us.length : Int) := by omega
        rw [List.drop_eq_nil_of_le (by simp; omega)] at hXr
        have hXX : (0, 0) = X := hXr
        subst hXX
        clear hXr
        go_wp2_with (refine wpList_store_row rfl 26 _ _ rfl _ _ rfl rfl _ _ hrr (by kernel_rfl) (by simp) (by simp [Value.oneCell']) ?_)
        exact flt_ret 2 (by kernel_rfl) w.heap.size 0 0 rfl rfl (setRow_heap _ _ _ _ _ _ hrr) ⟨rfl, below_setRow hbr (Nat.le_refl _) _⟩
end Go.Proofs.YtfibbmdkpgageaaDoor

/- What the document's Print comes to. -/
namespace Go.Proofs.YtfibbmdkpgageaaDoor
open Go.RowKit Lx

set_option maxRecDepth 100000 in
set_option maxHeartbeats 8000000 in
theorem rprint_any (us : List (Ru × Value)) (v : Value) (w : World) (h : InR w v us) (hPT : ∀ w', Below w.heap.size w w' → PowT w') : Calls Tryd.prog 13 #[v] w (OutP (us.map (fun p => p.1)) w) := by
  have hform : ∃ p c, v = .slice p us.length c := by
    rcases h.row with ⟨rfl, p, c, hv⟩ | ⟨g, o, c, hv, _⟩
    · exact ⟨p, c, hv⟩
    · exact ⟨_, c, hv⟩
  obtain ⟨p, c, rfl⟩ := hform
  have hb0 := (Below.refl w.heap.size w).alloc (Nat.le_refl _) (.cells #[.int .i64 0, .int .i64 0] 26)
  have hr0 := heap_alloc_new w (.cells #[.int .i64 0, .int .i64 0] 26)
  have cW := rwrong_any us (.slice p us.length c) _ (h.below hb0)
  generalize hwF : w.alloc (.cells #[.int .i64 0, .int .i64 0] 26) = wF at *
  generalize hL : us.map (fun p => p.1) = L at *
  generalize hX : wrongR L = X at *
  go_enter Tryd.func13, Tryd.ntmps13
  go_wp2_with fail
  refine cW.mono ?_
  rintro r w1 ⟨rfl, hb1⟩
  have hb1w := hb0.trans (hb1.mono hb0.size)
  have hr1 := (hb1.block _ (lt_of_block hr0)).trans hr0
  have hbB := (Below.refl w1.heap.size w1).alloc (Nat.le_refl _) (.cells #[.int .i64 X.1, .int .i64 (X.2 : Int)] 26)
  have hb2w := hb1w.trans (hbB.mono hb1w.size)
  have hf2 := heap_alloc_new w1 (.cells #[.int .i64 X.1, .int .i64 (X.2 : Int)] 26)
  have hr2 := (hbB.block _ (lt_of_block hr1)).trans hr1
  have hIN2 := h.below hb2w
  have HIN : Hid (InR _ (.slice p us.length c) us) := hIN2
  clear cW hb1 hr1 h hr0 hb0 hwF hIN2 hbB
  generalize hW2 : w1.alloc (.cells #[.int .i64 X.1, .int .i64 (X.2 : Int)] 26) = w2 at *
  by_cases he : X.1 ≠ 0
  · have HP : Hid (printP L = ([], X)) := by
      show _ = _
      unfold printP
      rw [hX, if_pos he]
    have hne : (X.1 != 0) = true := by simpa using he
    have d0 := (cell_of_row _ _ 0 _ _ _ hf2).trans rfl
    have d1 := (cell_of_row _ _ 1 _ _ _ hf2).trans rfl
    have z0 := (cell_of_row _ _ 0 _ _ _ hr2).trans rfl
    have z1 := (cell_of_row _ _ 1 _ _ _ hr2).trans rfl
    have y0 := frozen_of_row _ _ 0 _ _ hr2
    have y1 := frozen_of_row _ _ 1 _ _ hr2
    have hmF : ((w2.setCell ⟨w.heap.size, 0, none⟩ (.int .i64 X.1)).setCell ⟨w.heap.size, 1, none⟩ (.int .i64 (X.2 : Int))).heap[w.heap.size]? = some (.cells #[.int .i64 X.1, .int .i64 (X.2 : Int)] 26 (0, 0)) := heap_setCell_same _ _ 1 _ _ _ (heap_setCell_same _ _ 0 _ _ _ hr2)
    have hbS := (hb2w.setCell (p := ⟨w.heap.size, 0, none⟩) (Nat.le_refl _) (.int .i64 X.1)).setCell (p := ⟨w.heap.size, 1, none⟩) (Nat.le_refl _) (.int .i64 (X.2 : Int))
    clear he HIN hPT hX
    go_wp2_with fail
    go_region
    go_wp2_with fail
    refine two_post (by kernel_rfl) w.heap.size (.string ⟨#[]⟩) X.1 (X.2 : Int) rfl rfl rfl hmF ⟨?_, below_drewN hbS 1⟩
    rw [HP.out]
  · have he0 : X.1 = 0 := by simpa using he
    obtain ⟨h40, hok⟩ := wrongR_ok (l := L) (by rw [hX]; exact he0)
    have hLl : L.length = us.length := by rw [← hL, List.length_map]
    have HP : Hid (printP L = if 6000 < (rulesT L).length then ([], 4, 0) else (rulesT L, 0, 0)) := by
      show _ = _
      unfold printP
      rw [hX, if_neg he]
    obtain ⟨er, at_⟩ := X
    dsimp only at *
    subst he0
    have d0 := (cell_of_row _ _ 0 _ _ _ hf2).trans rfl
    have hPT2 : ∀ w', Below w2.heap.size w2 w' → PowT w' := fun w' hw => hPT w' (hb2w.trans (hw.mono hb2w.size))
    clear he hf2 hPT hX
    have hPT := hPT2
    clear hPT2
    go_wp2_with fail
    clear hW2 d0
    go_loopw [5, 16] (fun s t wr => ∃ j : Nat, t = .int .i64 (j : Int) ∧ j ≤ us.length ∧ s = .string ⟨(rulesT (L.take j)).toArray⟩ ∧ Below w2.heap.size w2 wr) (fun _ t _ => us.length - (intOf t).toNat)
    case atStart => exact ⟨0, rfl, by omega, rfl, Below.refl _ _⟩
    case round =>
      obtain ⟨j, rfl, hj, rfl, hbr⟩ := hrel
      have hj0 : (0 : Int) ≤ (j : Int) := by omega
      have hj4 : (j : Int) ≤ 40 := by omega
      by_cases hlt : j < us.length
      · have hlt' : (j : Int) < (us.length : Int) := by omega
        obtain ⟨⟨u, sk⟩, hjk⟩ : ∃ k, us[j]? = some k := ⟨us[j], List.getElem?_eq_getElem hlt⟩
        have hju : L[j]? = some u := by rw [← hL, List.getElem?_map, hjk]; rfl
        have hin := HIN.out.all _ (List.mem_of_getElem? hjk)
        obtain ⟨_, _, dd, hkk⟩ := hin
        obtain ⟨pk, ck, hsk⟩ := hkk.form
        dsimp only at hsk hkk
        subst hsk
        rcases HIN.out.row with ⟨hh, _⟩ | ⟨g, o, c', hsl, _, hcells⟩
        · rw [hh] at hlt; simp at hlt
        injection hsl with e1 e2 e3
        subst e1
        subst e3
        obtain ⟨d0, d1, d2, d3, d4, d5⟩ := hcells j _ hjk
        dsimp only at d0 d1 d2 d3 d4 d5
        have f0 := (hbr.cell (block_lt_of_cell d0)).trans d0
        have f1 := (hbr.cell (block_lt_of_cell d1)).trans d1
        have f2 := (hbr.cell (block_lt_of_cell d2)).trans d2
        have f3 := (hbr.cell (block_lt_of_cell d3)).trans d3
        have f4 := (hbr.cell (block_lt_of_cell d4)).trans d4
        have f5 := (hbr.cell (block_lt_of_cell d5)).trans d5
        have hur := hok u (List.mem_of_getElem? hju)
        have hnl := name_len hur.1
        have htl := hur.2.len 0
        have hSj : Hid (rulesT (L.take (j + 1)) = rulesT (L.take j) ++ ruleT u) := by show _ = _; rw [take_snoc hju, rulesT_snoc]
        have hjl : (rulesT (L.take j)).length ≤ 40000 * 40 := by
          have h1 := rulesT_len (l := L.take j) (fun x hx => hok x (List.mem_of_mem_take hx))
          have h2 : (L.take j).length ≤ 40 := by rw [List.length_take]; omega
          exact Nat.le_trans h1 (Nat.mul_le_mul_left _ h2)
        have hbB : Below wr.heap.size wr (wr.alloc (.cells #[.string ⟨u.1.toArray⟩, .int .i64 u.2.kind, .int .i64 u.2.a, .int .i64 u.2.b, .string ⟨u.2.name.toArray⟩, .slice pk u.2.kids.length ck] 64)) := (Below.refl _ _).alloc (Nat.le_refl _) _
        have hxB := heap_alloc_new wr (.cells #[.string ⟨u.1.toArray⟩, .int .i64 u.2.kind, .int .i64 u.2.a, .int .i64 u.2.b, .string ⟨u.2.name.toArray⟩, .slice pk u.2.kids.length ck] 64)
        have hbBw := hbr.trans (hbB.mono hbr.size)
        generalize hwB : wr.alloc (.cells #[.string ⟨u.1.toArray⟩, .int .i64 u.2.kind, .int .i64 u.2.a, .int .i64 u.2.b, .string ⟨u.2.name.toArray⟩, .slice pk u.2.kids.length ck] 64) = wB at *
        have x0 := (cell_of_row _ _ 0 _ _ _ hxB).trans rfl
        have x1 := (cell_of_row _ _ 1 _ _ _ hxB).trans rfl
        have x2 := (cell_of_row _ _ 2 _ _ _ hxB).trans rfl
        have x3 := (cell_of_row _ _ 3 _ _ _ hxB).trans rfl
        have x4 := (cell_of_row _ _ 4 _ _ _ hxB).trans rfl
        have x5 := (cell_of_row _ _ 5 _ _ _ hxB).trans rfl
        have cT := fun (W : World) (hJ : Below wB.heap.size wB W) => text_all dd u.2 (.slice pk u.2.kids.length ck) W 0 (hkk.kept fun k hk _ => (hbBw.trans (hJ.mono hbBw.size)).block k hk) hur.2 (fun w' hw' => hPT w' ((hbBw.trans (hJ.mono hbBw.size)).trans (hw'.mono (hbBw.trans (hJ.mono hbBw.size)).size))) (by omega) (fun _ => by omega)
        unfold OutX exV at cT
        have hSj2 : Hid (rulesT (L.take (j + 1)) = rulesT (L.take j) ++ 114 :: 117 :: 108 :: 101 :: 32 :: (u.1 ++ 32 :: 61 :: 32 :: (textE u.2 0 ++ [59, 10]))) := by show _ = _; rw [hSj.out]; simp [ruleT]
        clear hSj d0 d1 d2 d3 d4 d5 hcells hjk hju hkk hur hxB
        have hSj := hSj2
        clear hSj2
        generalize rulesT (L.take j) = R at *
        generalize textE u.2 0 = T at *
        generalize hN : u.1 = N at *
        go_wp2_with fail
        refine wp_region_wals (by kernel_rfl) (by kernel_rfl) (by kernel_rfl) (by kernel_rfl) [(20, .string ⟨(R).toArray⟩), (21, .string ⟨(R ++ [114, 117, 108, 101, 32]).toArray⟩), (22, .pointer (some ⟨wr.heap.size, 0, none⟩)), (23, .string ⟨(N).toArray⟩), (24, .string ⟨(R ++ 114 :: 117 :: 108 :: 101 :: 32 :: N).toArray⟩), (25, .string ⟨(R ++ 114 :: 117 :: 108 :: 101 :: 32 :: (N ++ [32, 61, 32])).toArray⟩), (26, .pointer (some ⟨wr.heap.size, 1, none⟩)), (27, .agg #[.int .i64 u.2.kind, .int .i64 u.2.a, .int .i64 u.2.b, .string ⟨u.2.name.toArray⟩, .slice pk u.2.kids.length ck]), (28, .string ⟨(T).toArray⟩), (29, .string ⟨(R ++ 114 :: 117 :: 108 :: 101 :: 32 :: (N ++ 32 :: 61 :: 32 :: T)).toArray⟩), (30, .string ⟨(R ++ 114 :: 117 :: 108 :: 101 :: 32 :: (N ++ 32 :: 61 :: 32 :: (T ++ [59, 10]))).toArray⟩), (5, .string ⟨(R ++ 114 :: 117 :: 108 :: 101 :: 32 :: (N ++ 32 :: 61 :: 32 :: (T ++ [59, 10]))).toArray⟩)] (by kernel_rfl) (by kernel_rfl) ?_ ?_
        · intro i s v o L A W ho hv hdep hJ hkept hhas hLi hc hk2
          match i, ho, hv with
          | 0, ho, hv =>
            cases Option.some.inj ho
            cases Option.some.inj hv
            have hk5 : L 11 = false := by
              cases hq : L 11 with
              | false => rfl
              | true =>
                have r10 : L 10 = true := hc 11 _ rfl hq ⟨10, .data⟩ (by simp) rfl
                have r9 : L 9 = true := hc 10 _ rfl r10 ⟨9, .data⟩ (by simp) rfl
                have r5 : L 5 = true := hc 9 _ rfl r9 ⟨5, .data⟩ (by simp) rfl
                have r4 : L 4 = true := hc 5 _ rfl r5 ⟨4, .data⟩ (by simp) rfl
                have r1 : L 1 = true := hc 4 _ rfl r4 ⟨1, .data⟩ (by simp) rfl
                have r0 : L 0 = true := hc 1 _ rfl r1 ⟨0, .data⟩ (by simp) rfl
                rw [hLi] at r0; cases r0
            have h5 : A.tmps[5]?.getD undef = .string ⟨(R).toArray⟩ := (gd A 5).trans (hk2 5 11 (by kernel_rfl) hk5)
            refine wpOp_step rfl (fun K hK => ?_)
            go_simp
            exact hK _ _ ⟨rfl, Below.refl _ _⟩
          | 1, ho, hv =>
            cases Option.some.inj ho
            cases Option.some.inj hv
            have h20 : A.tmps[20]?.getD undef = .string ⟨(R).toArray⟩ := (gd A 20).trans (hhas 0 20 _ rfl (hdep ⟨0, .data⟩ (by simp) rfl))
            refine wpOp_step rfl (fun K hK => ?_)
            go_simp
            try rw [if_neg (by omega)]
            exact hK _ _ ⟨congrArg (A.put (some 21)) (str_of (by simp)), Below.refl _ _⟩
          | 2, ho, hv =>
            cases Option.some.inj ho
            cases Option.some.inj hv
            have h7 : A.tmps[7]?.getD undef = .pointer (some ⟨wr.heap.size, 0, none⟩) := (gd A 7).trans (hkept 7 (by kernel_rfl))
            refine wpOp_step rfl (fun K hK => ?_)
            go_simp
            exact hK _ _ ⟨rfl, Below.refl _ _⟩
          | 3, ho, hv =>
            cases Option.some.inj ho
            cases Option.some.inj hv
            have h22 : A.tmps[22]?.getD undef = .pointer (some ⟨wr.heap.size, 0, none⟩) := (gd A 22).trans (hhas 2 22 _ rfl (hdep ⟨2, .data⟩ (by simp) rfl))
            have x0W : W.cell? ⟨wr.heap.size, 0, none⟩ = some (.string ⟨N.toArray⟩) := (hJ.cell (block_lt_of_cell x0)).trans x0
            refine wpOp_step rfl (fun K hK => ?_)
            go_simp
            exact hK _ _ ⟨rfl, Below.refl _ _⟩
          | 4, ho, hv =>
            cases Option.some.inj ho
            cases Option.some.inj hv
            have h21 : A.tmps[21]?.getD undef = .string ⟨(R ++ [114, 117, 108, 101, 32]).toArray⟩ := (gd A 21).trans (hhas 1 21 _ rfl (hdep ⟨1, .data⟩ (by simp) rfl))
            have h23 : A.tmps[23]?.getD undef = .string ⟨(N).toArray⟩ := (gd A 23).trans (hhas 3 23 _ rfl (hdep ⟨3, .data⟩ (by simp) rfl))
            refine wpOp_step rfl (fun K hK => ?_)
            go_simp
            try rw [if_neg (by omega)]
            exact hK _ _ ⟨congrArg (A.put (some 24)) (str_of (by simp)), Below.refl _ _⟩
          | 5, ho, hv =>
            cases Option.some.inj ho
            cases Option.some.inj hv
            have h24 : A.tmps[24]?.getD undef = .string ⟨(R ++ 114 :: 117 :: 108 :: 101 :: 32 :: N).toArray⟩ := (gd A 24).trans (hhas 4 24 _ rfl (hdep ⟨4, .data⟩ (by simp) rfl))
            refine wpOp_step rfl (fun K hK => ?_)
            go_simp
            try rw [if_neg (by omega)]
            exact hK _ _ ⟨congrArg (A.put (some 25)) (str_of (by simp)), Below.refl _ _⟩
          | 6, ho, hv =>
            cases Option.some.inj ho
            cases Option.some.inj hv
            have h7 : A.tmps[7]?.getD undef = .pointer (some ⟨wr.heap.size, 0, none⟩) := (gd A 7).trans (hkept 7 (by kernel_rfl))
            refine wpOp_step rfl (fun K hK => ?_)
            go_simp
            exact hK _ _ ⟨rfl, Below.refl _ _⟩
          | 7, ho, hv =>
            cases Option.some.inj ho
            cases Option.some.inj hv
            have h26 : A.tmps[26]?.getD undef = .pointer (some ⟨wr.heap.size, 1, none⟩) := (gd A 26).trans (hhas 6 26 _ rfl (hdep ⟨6, .data⟩ (by simp) rfl))
            have x1W : W.cell? ⟨wr.heap.size, 1, none⟩ = some (.int .i64 u.2.kind) := (hJ.cell (block_lt_of_cell x1)).trans x1
            have x2W : W.cell? ⟨wr.heap.size, 2, none⟩ = some (.int .i64 u.2.a) := (hJ.cell (block_lt_of_cell x2)).trans x2
            have x3W : W.cell? ⟨wr.heap.size, 3, none⟩ = some (.int .i64 u.2.b) := (hJ.cell (block_lt_of_cell x3)).trans x3
            have x4W : W.cell? ⟨wr.heap.size, 4, none⟩ = some (.string ⟨u.2.name.toArray⟩) := (hJ.cell (block_lt_of_cell x4)).trans x4
            have x5W : W.cell? ⟨wr.heap.size, 5, none⟩ = some (.slice pk u.2.kids.length ck) := (hJ.cell (block_lt_of_cell x5)).trans x5
            refine wpOp_step rfl (fun K hK => ?_)
            go_simp
            exact hK _ _ ⟨rfl, Below.refl _ _⟩
          | 8, ho, hv =>
            cases Option.some.inj ho
            cases Option.some.inj hv
            have h27 : A.tmps[27]?.getD undef = .agg #[.int .i64 u.2.kind, .int .i64 u.2.a, .int .i64 u.2.b, .string ⟨u.2.name.toArray⟩, .slice pk u.2.kids.length ck] := (gd A 27).trans (hhas 7 27 _ rfl (hdep ⟨7, .data⟩ (by simp) rfl))
            refine wpOp_step rfl (fun K hK => ?_)
            go_simp
            refine (cT W hJ).mono ?_
            rintro e' W' ⟨rfl, hb'⟩
            exact hK _ _ ⟨rfl, hb'⟩
          | 9, ho, hv =>
            cases Option.some.inj ho
            cases Option.some.inj hv
            have h25 : A.tmps[25]?.getD undef = .string ⟨(R ++ 114 :: 117 :: 108 :: 101 :: 32 :: (N ++ [32, 61, 32])).toArray⟩ := (gd A 25).trans (hhas 5 25 _ rfl (hdep ⟨5, .data⟩ (by simp) rfl))
            have h28 : A.tmps[28]?.getD undef = .string ⟨(T).toArray⟩ := (gd A 28).trans (hhas 8 28 _ rfl (hdep ⟨8, .data⟩ (by simp) rfl))
            refine wpOp_step rfl (fun K hK => ?_)
            go_simp
            try rw [if_neg (by omega)]
            exact hK _ _ ⟨congrArg (A.put (some 29)) (str_of (by simp)), Below.refl _ _⟩
          | 10, ho, hv =>
            cases Option.some.inj ho
            cases Option.some.inj hv
            have h29 : A.tmps[29]?.getD undef = .string ⟨(R ++ 114 :: 117 :: 108 :: 101 :: 32 :: (N ++ 32 :: 61 :: 32 :: T)).toArray⟩ := (gd A 29).trans (hhas 9 29 _ rfl (hdep ⟨9, .data⟩ (by simp) rfl))
            refine wpOp_step rfl (fun K hK => ?_)
            go_simp
            try rw [if_neg (by omega)]
            exact hK _ _ ⟨congrArg (A.put (some 30)) (str_of (by simp)), Below.refl _ _⟩
          | 11, ho, hv =>
            cases Option.some.inj ho
            cases Option.some.inj hv
            have h30 : A.tmps[30]?.getD undef = .string ⟨(R ++ 114 :: 117 :: 108 :: 101 :: 32 :: (N ++ 32 :: 61 :: 32 :: (T ++ [59, 10]))).toArray⟩ := (gd A 30).trans (hhas 10 30 _ rfl (hdep ⟨10, .data⟩ (by simp) rfl))
            refine wpOp_step rfl (fun K hK => ?_)
            go_simp
            exact hK _ _ ⟨rfl, Below.refl _ _⟩
          | k + 12, ho, hv => simp at ho
        · intro W hJ
          simp only [putAll_cons, putAll_nil]
          go_simp
          go_wp2_with fail
          go_roundw
          case rel => exact ⟨j + 1, by go_num, by omega, congrArg Value.string (congrArg ByteArray.mk (by rw [hSj.out])), hbr.trans ((hbB.trans (hJ.mono hbB.size)).mono hbr.size)⟩
          case measure => simp [intOf]; omega
      · have hlt' : ¬ (j : Int) < (us.length : Int) := by omega
        have hjL : L.take j = L := List.take_of_length_le (by omega)
        rw [hjL]
        have hrr := (hbr.block _ (lt_of_block hr2)).trans hr2
        have hbrw := hb2w.trans (hbr.mono hb2w.size)
        by_cases h6 : 6000 < (rulesT L).length
        · have h6' : (6000 : Int) < ((rulesT L).length : Int) := by omega
          have HQ : Hid (printP L = ([], 4, 0)) := by show _ = _; rw [HP.out, if_pos h6]
          clear HP h6
          generalize rulesT L = R at *
          go_wp2_with (refine wpList_store_row rfl 26 _ _ rfl _ _ rfl rfl _ _ hrr (by kernel_rfl) (by simp) (by simp [Value.oneCell']) ?_)
          refine two_post (by kernel_rfl) w.heap.size (.string ⟨#[]⟩) 4 0 rfl rfl rfl (setRow_heap _ _ _ _ _ _ hrr) ⟨?_, below_setRow hbrw (Nat.le_refl _) _⟩
          rw [HQ.out]
          rfl
        · have h6' : ¬ (6000 : Int) < ((rulesT L).length : Int) := by omega
          have HQ : Hid (printP L = (rulesT L, 0, 0)) := by show _ = _; rw [HP.out, if_neg h6]
          clear HP h6
          generalize hR : rulesT L = R at *
          go_wp2_with (refine wpList_store_row rfl 26 _ _ rfl _ _ rfl rfl _ _ hrr (by kernel_rfl) (by simp) (by simp [Value.oneCell']) ?_)
          refine two_post (by kernel_rfl) w.heap.size (.string ⟨R.toArray⟩) 0 0 rfl rfl rfl (setRow_heap _ _ _ _ _ _ hrr) ⟨?_, below_setRow hbrw (Nat.le_refl _) _⟩
          rw [HQ.out]
          rfl
end Go.Proofs.YtfibbmdkpgageaaDoor
