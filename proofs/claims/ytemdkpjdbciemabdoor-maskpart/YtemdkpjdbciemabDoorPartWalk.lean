/- The law MaskPart, walked out of the contracts. -/
import Derived.Test.YtemdkpjdbciemabDoorPartFacts
import Derived.Test.YtemdkpjdbciemabDoorSameA
import Derived.Test.YtemdkpjdbciemabDoorLists
namespace Go.Proofs.YtemdkpjdbciemabDoor
open Go.RowKit Msk

theorem row_at2 {W : World} {g : Nat} {x y z u : Int} {t : TypeId} (hb : W.heap[g]? = some (.cells #[.int .i64 x, .int .i64 y, .int .i64 z, .int .i64 u] t (0, 0))) : Row W (.slice (some ⟨g, 0, none⟩) 2 2) [(x, y), (z, u)] := by
  refine .inr ⟨_, 0, 2, rfl, by simp, fun j hj => ?_⟩
  match j, hj with
  | 0, _ => exact ⟨cell_of_row _ _ _ _ _ _ hb, cell_of_row _ _ _ _ _ _ hb⟩
  | 1, _ => exact ⟨cell_of_row _ _ _ _ _ _ hb, cell_of_row _ _ _ _ _ _ hb⟩
  | j + 2, hj => exact absurd hj (by simp)
def sp7 (a b c d : Nat) (i : Nat) (v : Value) (W : World) : Prop := match i with
  | 0 => v = .agg (mv (inl [((a : Int), (b : Int))]))
  | 1 => v = .int .i64 ((b : Int) - (a : Int))
  | 2 => v = .int .i64 ((b : Int))
  | 3 => v = .int .i64 ((a : Int))
  | 4 => v = .int .i64 (((b : Int)) - ((a : Int)))
  | 5 => v = .bool true
  | 6 => v = .bool true
  | 7 => v = .agg (mv (inl [((c : Int), (d : Int)), ((a : Int), (b : Int))]))
  | 8 => v = .int .i64 (((b : Int) - (a : Int) + (d : Int)) - (c : Int))
  | 9 => v = .int .i64 ((b : Int))
  | 10 => v = .int .i64 ((a : Int))
  | 11 => v = .int .i64 (((b : Int)) - ((a : Int)))
  | 12 => v = .int .i64 ((d : Int))
  | 13 => v = .int .i64 ((((b : Int)) - ((a : Int))) + ((d : Int)))
  | 14 => v = .int .i64 ((c : Int))
  | 15 => v = .int .i64 (((((b : Int)) - ((a : Int))) + ((d : Int))) - ((c : Int)))
  | 16 => v = .bool true
  | 17 => v = .bool true
  | 18 => v = .bool true
  | 19 => v = .agg (mv (inl [((c : Int), (d : Int)), ((a : Int), (b : Int))]))
  | 20 => Row W v [((a : Int), (b : Int)), ((c : Int), (d : Int))]
  | 21 => v = .int .i64 ((a : Int))
  | 22 => v = .int .i64 ((b : Int))
  | 23 => v = .agg #[.int .i64 ((a : Int)), .int .i64 ((b : Int))]
  | 24 => v = .int .i64 ((c : Int))
  | 25 => v = .int .i64 ((d : Int))
  | 26 => v = .agg #[.int .i64 ((c : Int)), .int .i64 ((d : Int))]
  | 27 => Row W v [(((a : Int)), ((b : Int))), (((c : Int)), ((d : Int)))]
  | 28 => v = .bool true
  | 29 => v = .bool true
  | 30 => v = .bool true
  | 31 => v = .agg (mv (inl [((a : Int), (b : Int))]))
  | 32 => v = .int .i64 ((a : Int))
  | 33 => v = .int .i64 ((b : Int))
  | 34 => v = .agg #[.int .i64 ((a : Int)), .int .i64 ((b : Int))]
  | 35 => v = .bool true
  | 36 => v = .bool true
  | 37 => v = .bool true
  | 38 => v = .agg (mv (inl [((a : Int), (b : Int))]))
  | 39 => v = .int .i64 ((a : Int))
  | 40 => v = .int .i64 ((b : Int))
  | 41 => v = .int .i64 (((b : Int)) + (1))
  | 42 => v = .agg #[.int .i64 ((a : Int)), .int .i64 (((b : Int)) + (1))]
  | 43 => v = .bool false
  | 44 => v = .bool true
  | 45 => v = .bool true
  | 46 => v = .bool true
  | 47 => v = .agg (mv (inl [((a : Int), (b : Int))]))
  | 48 => v = .int .i64 ((b : Int))
  | 49 => v = .int .i64 ((c : Int))
  | 50 => v = .agg #[.int .i64 ((b : Int)), .int .i64 ((c : Int))]
  | 51 => Row W v [(((b : Int)), ((c : Int)))]
  | 52 => v = .agg (mv (inl [((b : Int), (c : Int))]))
  | 53 => v = .agg (mv (fun i => (inl [((a : Int), (b : Int))] i && inl [((b : Int), (c : Int))] i) && decide (i < 1440)))
  | 54 => v = .agg (mv (fun _ => false))
  | 55 => v = .bool true
  | 56 => v = .bool true
  | 57 => v = .bool true
  | _ => True
theorem sp7_mono {a b c d : Nat} {W W' : World} (hb : Below W.heap.size W W') (i : Nat) (v : Value) (h : sp7 a b c d i v W) : sp7 a b c d i v W' := by
  unfold sp7 at *
  split at h
  all_goals first | exact h | exact h.later hb

set_option maxRecDepth 10000 in
set_option maxHeartbeats 8000000 in
theorem part_walk (x y z u : Int) (w : World) (hT : Tab w) :
    Calls Tryd.prog 6 #[.int .i64 x, .int .i64 y, .int .i64 z, .int .i64 u] w fun e w' => e = .returned (.bool true) ∧ Below w.heap.size w w' := by
  have cA := alive_any _ hT
  by_cases hc : x < 0 ∨ y ≤ x ∨ z ≤ y ∨ u ≤ z ∨ 1440 < u
  · rcases (show (x < 0) ∨ (0 ≤ x ∧ y ≤ x) ∨ (0 ≤ x ∧ x < y ∧ z ≤ y) ∨ (0 ≤ x ∧ x < y ∧ y < z ∧ u ≤ z) ∨ (0 ≤ x ∧ x < y ∧ y < z ∧ z < u ∧ 1440 < u) from by omega) with j1 | ⟨j1, j2⟩ | ⟨j1, j2, j3⟩ | ⟨j1, j2, j3, j4⟩ | ⟨j1, j2, j3, j4, j5⟩
    all_goals
      clear hc
      go_enter Tryd.func6, Tryd.ntmps6
      go_wp2_with (go_at_call 9; refine cA.mono ?_; rintro e w1 ⟨rfl, hb1⟩)
      go_ret
      exact ⟨rfl, hb1⟩
  · obtain ⟨a, rfl⟩ : ∃ a : Nat, x = a := ⟨x.toNat, by omega⟩
    obtain ⟨b, rfl⟩ : ∃ b : Nat, y = b := ⟨y.toNat, by omega⟩
    obtain ⟨c, rfl⟩ : ∃ c : Nat, z = c := ⟨z.toNat, by omega⟩
    obtain ⟨d, rfl⟩ : ∃ d : Nat, u = d := ⟨u.toNat, by omega⟩
    have i1 : (a : Int) < (b : Int) := by omega
    have i2 : (b : Int) < (c : Int) := by omega
    have i3 : (c : Int) < (d : Int) := by omega
    have i4 : (d : Int) ≤ 1440 := by omega
    have cC1 : ∀ w, Calls Tryd.prog 14 #[.agg (mv (inl [((a : Int), (b : Int))]))] w fun e w' => e = .returned (.int .i64 ((b : Int) - (a : Int))) ∧ Below w.heap.size w w' := fun w => by
      have q := count_any (inl [((a : Int), (b : Int))]) w
      rw [p_cnt1 a b (by omega) (by omega), Int.ofNat_sub (by omega)] at q
      exact q
    have cC2 : ∀ w, Calls Tryd.prog 14 #[.agg (mv (inl [((c : Int), (d : Int)), ((a : Int), (b : Int))]))] w fun e w' => e = .returned (.int .i64 (((b : Int) - (a : Int) + (d : Int)) - (c : Int))) ∧ Below w.heap.size w w' := fun w => by
      have q := count_any (inl [((c : Int), (d : Int)), ((a : Int), (b : Int))]) w
      rw [p_cnt2 a b c d (by omega) (by omega) (by omega) (by omega), show (((b - a + (d - c) : Nat)) : Int) = ((b : Int) - (a : Int) + (d : Int)) - (c : Int) by omega] at q
      exact q
    have cS : ∀ w, Tab w → Calls Tryd.prog 20 #[.agg (mv (inl [((c : Int), (d : Int)), ((a : Int), (b : Int))]))] w fun e w' => (∃ v, e = .returned v ∧ Row w' v [((a : Int), (b : Int)), ((c : Int), (d : Int))]) ∧ Below w.heap.size w w' := fun w hT => by
      have q := spans_any (inl [((c : Int), (d : Int)), ((a : Int), (b : Int))]) w hT
      rw [p_rs a b c d (by omega) (by omega) (by omega) (by omega)] at q
      exact q.mono fun e w' h => ⟨h.1, h.2.2⟩
    have cH1 : ∀ w, Calls Tryd.prog 18 #[.agg (mv (inl [((a : Int), (b : Int))])), .agg #[.int .i64 (a : Int), .int .i64 (b : Int)]] w fun e w' => e = .returned (.bool true) ∧ Below w.heap.size w w' := fun w => by
      have q := holds_any (inl [((a : Int), (b : Int))]) (a : Int) (b : Int) w
      rw [p_hold a b (by omega) (by omega)] at q
      exact q
    have cH2 : ∀ w, Calls Tryd.prog 18 #[.agg (mv (inl [((a : Int), (b : Int))])), .agg #[.int .i64 (a : Int), .int .i64 ((b : Int) + 1)]] w fun e w' => e = .returned (.bool false) ∧ Below w.heap.size w w' := fun w => by
      have q := holds_any (inl [((a : Int), (b : Int))]) (a : Int) ((b : Int) + 1) w
      rw [p_not a b (by omega) (by omega)] at q
      exact q
    clear hc
    have hz := mv_lit
    go_enter Tryd.func6, Tryd.ntmps6
    go_wp2_with (first
      | (go_at_call 9; refine cA.mono ?_; rintro e w1 ⟨rfl, hb1⟩; have cO1 := of_any _ [((a : Int), (b : Int))] _ (row_at (heap_alloc_new w1 (.cells #[.int .i64 (a : Int), .int .i64 (b : Int)] 33 (0, 0)))); have hbO1 : Below w.heap.size w (w1.alloc (.cells #[.int .i64 (a : Int), .int .i64 (b : Int)] 33)) := hb1.alloc hb1.size _; clear cA hb1)
      | (go_at_call 16; refine cO1.mono ?_; rintro e w2 ⟨rfl, hb2⟩; have hbw2 := hbO1.trans (hb2.mono hbO1.size); have hk1 := heap_alloc_new w2 (.cells (mv fun _ => false) 24 (0, 0)); clear hb2 cO1 hbO1)
      | (refine wpList_store_row rfl 24 _ _ rfl _ _ rfl rfl _ _ hk1 (maskSize _) (by simp [mv_size]) (mv_all _) ?_; have k9 := setRow_heap _ _ _ (mv (inl [((a : Int), (b : Int))])) _ _ hk1; have hbw3 : Below w.heap.size w ((w2.alloc (.cells (mv fun _ => false) 24)).setRow w2.heap.size (mv (inl [((a : Int), (b : Int))]))) := below_setRow (hbw2.alloc hbw2.size _) hbw2.size _; generalize ((w2.alloc (.cells (mv fun _ => false) 24)).setRow w2.heap.size (mv (inl [((a : Int), (b : Int))]))) = w3 at *; generalize w2.heap.size = g9 at *; clear hk1 hbw2; have cO2 := of_any _ [((c : Int), (d : Int)), ((a : Int), (b : Int))] _ (row_at2 (heap_alloc_new w3 (.cells #[.int .i64 (c : Int), .int .i64 (d : Int), .int .i64 (a : Int), .int .i64 (b : Int)] 33 (0, 0)))); have hbO2 : Below w3.heap.size w3 (w3.alloc (.cells #[.int .i64 (c : Int), .int .i64 (d : Int), .int .i64 (a : Int), .int .i64 (b : Int)] 33)) := (Below.refl _ _).alloc (Nat.le_refl _) _)
      | (go_at_call 16; refine cO2.mono ?_; rintro e w4 ⟨rfl, hb4⟩; have hb34 := hbO2.trans (hb4.mono hbO2.size); have k9' := (hb34.block _ (lt_of_block k9)).trans k9; have l9 := lt_of_block k9'; have k9a := blk_old _ (.cells (mv fun _ => false) 24) _ l9 k9'; have hbw4 := hbw3.trans (hb34.mono hbw3.size); have hk2 := heap_alloc_new w4 (.cells (mv fun _ => false) 24 (0, 0)); clear hb4 cO2 hbO2 hb34 k9 k9' hbw3)
      | (refine wpList_store_row rfl 24 _ _ rfl _ _ rfl rfl _ _ hk2 (maskSize _) (by simp [mv_size]) (mv_all _) ?_; have k10 := setRow_heap _ _ _ (mv (inl [((c : Int), (d : Int)), ((a : Int), (b : Int))])) _ _ hk2; have k9 := (setRow_other _ w4.heap.size _ (mv (inl [((c : Int), (d : Int)), ((a : Int), (b : Int))])) (Nat.ne_of_lt l9)).trans k9a; have hbw5 : Below w.heap.size w ((w4.alloc (.cells (mv fun _ => false) 24)).setRow w4.heap.size (mv (inl [((c : Int), (d : Int)), ((a : Int), (b : Int))]))) := below_setRow (hbw4.alloc hbw4.size _) hbw4.size _; generalize ((w4.alloc (.cells (mv fun _ => false) 24)).setRow w4.heap.size (mv (inl [((c : Int), (d : Int)), ((a : Int), (b : Int))]))) = w5 at *; clear hk2 hbw4 k9a l9; generalize w4.heap.size = g10 at *))
    have hT2 := hT.later hbw5
    have q1 : IntKind.i64.wrap ((b : Int) - (a : Int)) = (b : Int) - (a : Int) := by rw [IntKind.wrap_i64]; omega
    have q2 : IntKind.i64.wrap ((b : Int) - (a : Int) + (d : Int)) = (b : Int) - (a : Int) + (d : Int) := by rw [IntKind.wrap_i64]; omega
    have q3 : IntKind.i64.wrap ((b : Int) - (a : Int) + (d : Int) - (c : Int)) = (b : Int) - (a : Int) + (d : Int) - (c : Int) := by rw [IntKind.wrap_i64]; omega
    have q4 : IntKind.i64.wrap ((b : Int) + 1) = (b : Int) + 1 := by rw [IntKind.wrap_i64]; omega
    refine wp_region_flow (by kernel_rfl) (by kernel_rfl) (by kernel_rfl) (by kernel_rfl) (fun _ _ W => Below w5.heap.size w5 W) (sp7 a b c d) ?_ ?_ ?_
    · intro L hL
      exact (Below.refl _ _).drew
    · intro i o L A W ho hLi hdep hJ hdef hkept hhas
      clear hdef hLi
      have fin : ∀ (v : Value) (ds : Nat) (W' : World), Below W.heap.size W W' → sp7 a b c d i v W' → ∃ u, A.put (some ds) v = A.put (some ds) u ∧ (some ds ≠ none → sp7 a b c d i u W') ∧ (∀ j x', L j = true → sp7 a b c d j x' W → sp7 a b c d j x' W') ∧ Below w5.heap.size w5 W' := by
        intro v ds W' hb hv
        exact ⟨v, rfl, fun _ => hv, fun j x' _ h => sp7_mono hb j x' h, hJ.trans (hb.mono hJ.size)⟩
      match i, ho with
      | 0, ho =>
        cases Option.some.inj ho
        have h9 : A.eval (.tmp 9) = .pointer (some ⟨g9, 0, none⟩) := (hkept 9 (fun j p hp _ => nd (by kernel_rfl) j p hp))
        have hg := (hJ.block _ (lt_of_block k9)).trans k9
        refine wpOp_step rfl (fun K hK => ?_)
        show Oper.wp _ _ _ _ _ _
        refine wp_load_row 24 _ rfl _ h9 _ _ _ _ hg maskType rfl (maskSize _) ?_
        exact hK _ _ (fin _ 47 _ (Below.refl _ _) rfl)
      | 1, ho =>
        cases Option.some.inj ho
        have h47 : A.tmps[47]?.getD undef = .agg (mv (inl [((a : Int), (b : Int))])) := (gd A 47).trans (show A.tmps.getD 47 undef = .agg (mv (inl [((a : Int), (b : Int))])) from hhas 0 _ rfl (hdep ⟨0, .data⟩ (by simp) rfl) 47 rfl)
        refine wpOp_step rfl (fun K hK => ?_)
        go_simp
        refine (cC1 _).mono ?_
        rintro e W' ⟨rfl, hb⟩
        exact hK _ _ (fin _ 48 _ hb rfl)
      | 2, ho =>
        cases Option.some.inj ho
        have h1 : A.tmps[1]?.getD undef = .int .i64 ((b : Int)) := (gd A 1).trans (hkept 1 (fun j p hp _ => nd (by kernel_rfl) j p hp))
        refine wpOp_step rfl (fun K hK => ?_)
        go_simp
        exact hK _ _ (fin _ 49 _ (Below.refl _ _) rfl)
      | 3, ho =>
        cases Option.some.inj ho
        have h0 : A.tmps[0]?.getD undef = .int .i64 ((a : Int)) := (gd A 0).trans (hkept 0 (fun j p hp _ => nd (by kernel_rfl) j p hp))
        refine wpOp_step rfl (fun K hK => ?_)
        go_simp
        exact hK _ _ (fin _ 50 _ (Below.refl _ _) rfl)
      | 4, ho =>
        cases Option.some.inj ho
        have h49 : A.tmps[49]?.getD undef = .int .i64 ((b : Int)) := (gd A 49).trans (show A.tmps.getD 49 undef = .int .i64 ((b : Int)) from hhas 2 _ rfl (hdep ⟨2, .data⟩ (by simp) rfl) 49 rfl)
        have h50 : A.tmps[50]?.getD undef = .int .i64 ((a : Int)) := (gd A 50).trans (show A.tmps.getD 50 undef = .int .i64 ((a : Int)) from hhas 3 _ rfl (hdep ⟨3, .data⟩ (by simp) rfl) 50 rfl)
        refine wpOp_step rfl (fun K hK => ?_)
        go_simp
        exact hK _ _ (fin _ 51 _ (Below.refl _ _) rfl)
      | 5, ho =>
        cases Option.some.inj ho
        have h48 : A.tmps[48]?.getD undef = .int .i64 ((b : Int) - (a : Int)) := (gd A 48).trans (show A.tmps.getD 48 undef = .int .i64 ((b : Int) - (a : Int)) from hhas 1 _ rfl (hdep ⟨1, .data⟩ (by simp) rfl) 48 rfl)
        have h51 : A.tmps[51]?.getD undef = .int .i64 (((b : Int)) - ((a : Int))) := (gd A 51).trans (show A.tmps.getD 51 undef = .int .i64 (((b : Int)) - ((a : Int))) from hhas 4 _ rfl (hdep ⟨4, .data⟩ (by simp) rfl) 51 rfl)
        refine wpOp_step rfl (fun K hK => ?_)
        go_simp
        exact hK _ _ (fin _ 52 _ (Below.refl _ _) rfl)
      | 6, ho =>
        cases Option.some.inj ho
        have h52 : A.tmps[52]?.getD undef = .bool true := (gd A 52).trans (show A.tmps.getD 52 undef = .bool true from hhas 5 _ rfl (hdep ⟨5, .data⟩ (by simp) rfl) 52 rfl)
        refine wpOp_step rfl (fun K hK => ?_)
        go_simp
        exact hK _ _ (fin _ 53 _ (Below.refl _ _) rfl)
      | 7, ho =>
        cases Option.some.inj ho
        have hG : A.tmps[53]? = some (.bool true) := gdb (show A.tmps.getD 53 undef = .bool true from hhas 6 _ rfl (hdep ⟨6, .guard⟩ (by simp) rfl) 53 rfl)
        have h10 : A.eval (.tmp 10) = .pointer (some ⟨g10, 0, none⟩) := (hkept 10 (fun j p hp _ => nd (by kernel_rfl) j p hp))
        have hg := (hJ.block _ (lt_of_block k10)).trans k10
        refine wpOp_step rfl (fun K hK => ?_)
        rw [if_pos (by simp [Region.wanted, yielded, hG])]
        refine wp_load_row 24 _ rfl _ h10 _ _ _ _ hg maskType rfl (maskSize _) ?_
        exact hK _ _ (fin _ 54 _ (Below.refl _ _) rfl)
      | 8, ho =>
        cases Option.some.inj ho
        have hG : A.tmps[53]? = some (.bool true) := gdb (show A.tmps.getD 53 undef = .bool true from hhas 6 _ rfl (hdep ⟨6, .guard⟩ (by simp) rfl) 53 rfl)
        have h54 : A.tmps[54]?.getD undef = .agg (mv (inl [((c : Int), (d : Int)), ((a : Int), (b : Int))])) := (gd A 54).trans (show A.tmps.getD 54 undef = .agg (mv (inl [((c : Int), (d : Int)), ((a : Int), (b : Int))])) from hhas 7 _ rfl (hdep ⟨7, .data⟩ (by simp) rfl) 54 rfl)
        refine wpOp_step rfl (fun K hK => ?_)
        go_simp
        refine (cC2 _).mono ?_
        rintro e W' ⟨rfl, hb⟩
        exact hK _ _ (fin _ 55 _ hb rfl)
      | 9, ho =>
        cases Option.some.inj ho
        have hG : A.tmps[53]? = some (.bool true) := gdb (show A.tmps.getD 53 undef = .bool true from hhas 6 _ rfl (hdep ⟨6, .guard⟩ (by simp) rfl) 53 rfl)
        have h1 : A.tmps[1]?.getD undef = .int .i64 ((b : Int)) := (gd A 1).trans (hkept 1 (fun j p hp _ => nd (by kernel_rfl) j p hp))
        refine wpOp_step rfl (fun K hK => ?_)
        go_simp
        exact hK _ _ (fin _ 56 _ (Below.refl _ _) rfl)
      | 10, ho =>
        cases Option.some.inj ho
        have hG : A.tmps[53]? = some (.bool true) := gdb (show A.tmps.getD 53 undef = .bool true from hhas 6 _ rfl (hdep ⟨6, .guard⟩ (by simp) rfl) 53 rfl)
        have h0 : A.tmps[0]?.getD undef = .int .i64 ((a : Int)) := (gd A 0).trans (hkept 0 (fun j p hp _ => nd (by kernel_rfl) j p hp))
        refine wpOp_step rfl (fun K hK => ?_)
        go_simp
        exact hK _ _ (fin _ 57 _ (Below.refl _ _) rfl)
      | 11, ho =>
        cases Option.some.inj ho
        have hG : A.tmps[53]? = some (.bool true) := gdb (show A.tmps.getD 53 undef = .bool true from hhas 6 _ rfl (hdep ⟨6, .guard⟩ (by simp) rfl) 53 rfl)
        have h56 : A.tmps[56]?.getD undef = .int .i64 ((b : Int)) := (gd A 56).trans (show A.tmps.getD 56 undef = .int .i64 ((b : Int)) from hhas 9 _ rfl (hdep ⟨9, .data⟩ (by simp) rfl) 56 rfl)
        have h57 : A.tmps[57]?.getD undef = .int .i64 ((a : Int)) := (gd A 57).trans (show A.tmps.getD 57 undef = .int .i64 ((a : Int)) from hhas 10 _ rfl (hdep ⟨10, .data⟩ (by simp) rfl) 57 rfl)
        refine wpOp_step rfl (fun K hK => ?_)
        go_simp
        exact hK _ _ (fin _ 58 _ (Below.refl _ _) rfl)
      | 12, ho =>
        cases Option.some.inj ho
        have hG : A.tmps[53]? = some (.bool true) := gdb (show A.tmps.getD 53 undef = .bool true from hhas 6 _ rfl (hdep ⟨6, .guard⟩ (by simp) rfl) 53 rfl)
        have h3 : A.tmps[3]?.getD undef = .int .i64 ((d : Int)) := (gd A 3).trans (hkept 3 (fun j p hp _ => nd (by kernel_rfl) j p hp))
        refine wpOp_step rfl (fun K hK => ?_)
        go_simp
        exact hK _ _ (fin _ 59 _ (Below.refl _ _) rfl)
      | 13, ho =>
        cases Option.some.inj ho
        have hG : A.tmps[53]? = some (.bool true) := gdb (show A.tmps.getD 53 undef = .bool true from hhas 6 _ rfl (hdep ⟨6, .guard⟩ (by simp) rfl) 53 rfl)
        have h58 : A.tmps[58]?.getD undef = .int .i64 (((b : Int)) - ((a : Int))) := (gd A 58).trans (show A.tmps.getD 58 undef = .int .i64 (((b : Int)) - ((a : Int))) from hhas 11 _ rfl (hdep ⟨11, .data⟩ (by simp) rfl) 58 rfl)
        have h59 : A.tmps[59]?.getD undef = .int .i64 ((d : Int)) := (gd A 59).trans (show A.tmps.getD 59 undef = .int .i64 ((d : Int)) from hhas 12 _ rfl (hdep ⟨12, .data⟩ (by simp) rfl) 59 rfl)
        refine wpOp_step rfl (fun K hK => ?_)
        go_simp
        exact hK _ _ (fin _ 60 _ (Below.refl _ _) rfl)
      | 14, ho =>
        cases Option.some.inj ho
        have hG : A.tmps[53]? = some (.bool true) := gdb (show A.tmps.getD 53 undef = .bool true from hhas 6 _ rfl (hdep ⟨6, .guard⟩ (by simp) rfl) 53 rfl)
        have h2 : A.tmps[2]?.getD undef = .int .i64 ((c : Int)) := (gd A 2).trans (hkept 2 (fun j p hp _ => nd (by kernel_rfl) j p hp))
        refine wpOp_step rfl (fun K hK => ?_)
        go_simp
        exact hK _ _ (fin _ 61 _ (Below.refl _ _) rfl)
      | 15, ho =>
        cases Option.some.inj ho
        have hG : A.tmps[53]? = some (.bool true) := gdb (show A.tmps.getD 53 undef = .bool true from hhas 6 _ rfl (hdep ⟨6, .guard⟩ (by simp) rfl) 53 rfl)
        have h60 : A.tmps[60]?.getD undef = .int .i64 ((((b : Int)) - ((a : Int))) + ((d : Int))) := (gd A 60).trans (show A.tmps.getD 60 undef = .int .i64 ((((b : Int)) - ((a : Int))) + ((d : Int))) from hhas 13 _ rfl (hdep ⟨13, .data⟩ (by simp) rfl) 60 rfl)
        have h61 : A.tmps[61]?.getD undef = .int .i64 ((c : Int)) := (gd A 61).trans (show A.tmps.getD 61 undef = .int .i64 ((c : Int)) from hhas 14 _ rfl (hdep ⟨14, .data⟩ (by simp) rfl) 61 rfl)
        refine wpOp_step rfl (fun K hK => ?_)
        go_simp
        exact hK _ _ (fin _ 62 _ (Below.refl _ _) rfl)
      | 16, ho =>
        cases Option.some.inj ho
        have hG : A.tmps[53]? = some (.bool true) := gdb (show A.tmps.getD 53 undef = .bool true from hhas 6 _ rfl (hdep ⟨6, .guard⟩ (by simp) rfl) 53 rfl)
        have h55 : A.tmps[55]?.getD undef = .int .i64 (((b : Int) - (a : Int) + (d : Int)) - (c : Int)) := (gd A 55).trans (show A.tmps.getD 55 undef = .int .i64 (((b : Int) - (a : Int) + (d : Int)) - (c : Int)) from hhas 8 _ rfl (hdep ⟨8, .data⟩ (by simp) rfl) 55 rfl)
        have h62 : A.tmps[62]?.getD undef = .int .i64 (((((b : Int)) - ((a : Int))) + ((d : Int))) - ((c : Int))) := (gd A 62).trans (show A.tmps.getD 62 undef = .int .i64 (((((b : Int)) - ((a : Int))) + ((d : Int))) - ((c : Int))) from hhas 15 _ rfl (hdep ⟨15, .data⟩ (by simp) rfl) 62 rfl)
        refine wpOp_step rfl (fun K hK => ?_)
        go_simp
        exact hK _ _ (fin _ 63 _ (Below.refl _ _) rfl)
      | 17, ho =>
        cases Option.some.inj ho
        have h53 : A.tmps[53]?.getD undef = .bool true := (gd A 53).trans (show A.tmps.getD 53 undef = .bool true from hhas 6 _ rfl (hdep ⟨6, .data⟩ (by simp) rfl) 53 rfl)
        have h63 : A.tmps[63]?.getD undef = .bool true := (gd A 63).trans (show A.tmps.getD 63 undef = .bool true from hhas 16 _ rfl (hdep ⟨16, .data⟩ (by simp) rfl) 63 rfl)
        refine wpOp_step rfl (fun K hK => ?_)
        go_simp
        exact hK _ _ (fin _ 64 _ (Below.refl _ _) rfl)
      | 18, ho =>
        cases Option.some.inj ho
        have h64 : A.tmps[64]?.getD undef = .bool true := (gd A 64).trans (show A.tmps.getD 64 undef = .bool true from hhas 17 _ rfl (hdep ⟨17, .data⟩ (by simp) rfl) 64 rfl)
        refine wpOp_step rfl (fun K hK => ?_)
        go_simp
        exact hK _ _ (fin _ 65 _ (Below.refl _ _) rfl)
      | 19, ho =>
        cases Option.some.inj ho
        have hG : A.tmps[65]? = some (.bool true) := gdb (show A.tmps.getD 65 undef = .bool true from hhas 18 _ rfl (hdep ⟨18, .guard⟩ (by simp) rfl) 65 rfl)
        have h10 : A.eval (.tmp 10) = .pointer (some ⟨g10, 0, none⟩) := (hkept 10 (fun j p hp _ => nd (by kernel_rfl) j p hp))
        have hg := (hJ.block _ (lt_of_block k10)).trans k10
        refine wpOp_step rfl (fun K hK => ?_)
        rw [if_pos (by simp [Region.wanted, yielded, hG])]
        refine wp_load_row 24 _ rfl _ h10 _ _ _ _ hg maskType rfl (maskSize _) ?_
        exact hK _ _ (fin _ 66 _ (Below.refl _ _) rfl)
      | 20, ho =>
        cases Option.some.inj ho
        have hG : A.tmps[65]? = some (.bool true) := gdb (show A.tmps.getD 65 undef = .bool true from hhas 18 _ rfl (hdep ⟨18, .guard⟩ (by simp) rfl) 65 rfl)
        have h66 : A.tmps[66]?.getD undef = .agg (mv (inl [((c : Int), (d : Int)), ((a : Int), (b : Int))])) := (gd A 66).trans (show A.tmps.getD 66 undef = .agg (mv (inl [((c : Int), (d : Int)), ((a : Int), (b : Int))])) from hhas 19 _ rfl (hdep ⟨19, .data⟩ (by simp) rfl) 66 rfl)
        refine wpOp_step rfl (fun K hK => ?_)
        go_simp
        refine (cS _ (hT2.later hJ)).mono ?_
        rintro e W' ⟨⟨v, rfl, hr⟩, hb⟩
        exact hK _ _ (fin _ 67 _ hb hr)
      | 21, ho =>
        cases Option.some.inj ho
        have hG : A.tmps[65]? = some (.bool true) := gdb (show A.tmps.getD 65 undef = .bool true from hhas 18 _ rfl (hdep ⟨18, .guard⟩ (by simp) rfl) 65 rfl)
        have h0 : A.tmps[0]?.getD undef = .int .i64 ((a : Int)) := (gd A 0).trans (hkept 0 (fun j p hp _ => nd (by kernel_rfl) j p hp))
        refine wpOp_step rfl (fun K hK => ?_)
        go_simp
        exact hK _ _ (fin _ 68 _ (Below.refl _ _) rfl)
      | 22, ho =>
        cases Option.some.inj ho
        have hG : A.tmps[65]? = some (.bool true) := gdb (show A.tmps.getD 65 undef = .bool true from hhas 18 _ rfl (hdep ⟨18, .guard⟩ (by simp) rfl) 65 rfl)
        have h1 : A.tmps[1]?.getD undef = .int .i64 ((b : Int)) := (gd A 1).trans (hkept 1 (fun j p hp _ => nd (by kernel_rfl) j p hp))
        refine wpOp_step rfl (fun K hK => ?_)
        go_simp
        exact hK _ _ (fin _ 69 _ (Below.refl _ _) rfl)
      | 23, ho =>
        cases Option.some.inj ho
        have hG : A.tmps[65]? = some (.bool true) := gdb (show A.tmps.getD 65 undef = .bool true from hhas 18 _ rfl (hdep ⟨18, .guard⟩ (by simp) rfl) 65 rfl)
        have h68 : A.tmps[68]?.getD undef = .int .i64 ((a : Int)) := (gd A 68).trans (show A.tmps.getD 68 undef = .int .i64 ((a : Int)) from hhas 21 _ rfl (hdep ⟨21, .data⟩ (by simp) rfl) 68 rfl)
        have h69 : A.tmps[69]?.getD undef = .int .i64 ((b : Int)) := (gd A 69).trans (show A.tmps.getD 69 undef = .int .i64 ((b : Int)) from hhas 22 _ rfl (hdep ⟨22, .data⟩ (by simp) rfl) 69 rfl)
        refine wpOp_step rfl (fun K hK => ?_)
        go_simp
        exact hK _ _ (fin _ 70 _ (Below.refl _ _) rfl)
      | 24, ho =>
        cases Option.some.inj ho
        have hG : A.tmps[65]? = some (.bool true) := gdb (show A.tmps.getD 65 undef = .bool true from hhas 18 _ rfl (hdep ⟨18, .guard⟩ (by simp) rfl) 65 rfl)
        have h2 : A.tmps[2]?.getD undef = .int .i64 ((c : Int)) := (gd A 2).trans (hkept 2 (fun j p hp _ => nd (by kernel_rfl) j p hp))
        refine wpOp_step rfl (fun K hK => ?_)
        go_simp
        exact hK _ _ (fin _ 71 _ (Below.refl _ _) rfl)
      | 25, ho =>
        cases Option.some.inj ho
        have hG : A.tmps[65]? = some (.bool true) := gdb (show A.tmps.getD 65 undef = .bool true from hhas 18 _ rfl (hdep ⟨18, .guard⟩ (by simp) rfl) 65 rfl)
        have h3 : A.tmps[3]?.getD undef = .int .i64 ((d : Int)) := (gd A 3).trans (hkept 3 (fun j p hp _ => nd (by kernel_rfl) j p hp))
        refine wpOp_step rfl (fun K hK => ?_)
        go_simp
        exact hK _ _ (fin _ 72 _ (Below.refl _ _) rfl)
      | 26, ho =>
        cases Option.some.inj ho
        have hG : A.tmps[65]? = some (.bool true) := gdb (show A.tmps.getD 65 undef = .bool true from hhas 18 _ rfl (hdep ⟨18, .guard⟩ (by simp) rfl) 65 rfl)
        have h71 : A.tmps[71]?.getD undef = .int .i64 ((c : Int)) := (gd A 71).trans (show A.tmps.getD 71 undef = .int .i64 ((c : Int)) from hhas 24 _ rfl (hdep ⟨24, .data⟩ (by simp) rfl) 71 rfl)
        have h72 : A.tmps[72]?.getD undef = .int .i64 ((d : Int)) := (gd A 72).trans (show A.tmps.getD 72 undef = .int .i64 ((d : Int)) from hhas 25 _ rfl (hdep ⟨25, .data⟩ (by simp) rfl) 72 rfl)
        refine wpOp_step rfl (fun K hK => ?_)
        go_simp
        exact hK _ _ (fin _ 73 _ (Below.refl _ _) rfl)
      | 27, ho =>
        cases Option.some.inj ho
        have hG : A.tmps[65]? = some (.bool true) := gdb (show A.tmps.getD 65 undef = .bool true from hhas 18 _ rfl (hdep ⟨18, .guard⟩ (by simp) rfl) 65 rfl)
        have h70 : A.tmps[70]?.getD undef = .agg #[.int .i64 ((a : Int)), .int .i64 ((b : Int))] := (gd A 70).trans (show A.tmps.getD 70 undef = .agg #[.int .i64 ((a : Int)), .int .i64 ((b : Int))] from hhas 23 _ rfl (hdep ⟨23, .data⟩ (by simp) rfl) 70 rfl)
        have h73 : A.tmps[73]?.getD undef = .agg #[.int .i64 ((c : Int)), .int .i64 ((d : Int))] := (gd A 73).trans (show A.tmps.getD 73 undef = .agg #[.int .i64 ((c : Int)), .int .i64 ((d : Int))] from hhas 26 _ rfl (hdep ⟨26, .data⟩ (by simp) rfl) 73 rfl)
        refine wpOp_step rfl (fun K hK => ?_)
        go_simp
        exact hK _ _ (fin _ 74 _ ((Below.refl _ _).alloc (Nat.le_refl _) _) (row_at2 (heap_alloc_new W _)))
      | 28, ho =>
        cases Option.some.inj ho
        have hG : A.tmps[65]? = some (.bool true) := gdb (show A.tmps.getD 65 undef = .bool true from hhas 18 _ rfl (hdep ⟨18, .guard⟩ (by simp) rfl) 65 rfl)
        obtain ⟨v67, h67, r67⟩ : ∃ v, A.tmps[67]?.getD undef = v ∧ Row W v [((a : Int), (b : Int)), ((c : Int), (d : Int))] := ⟨_, gd A 67, hhas 20 _ rfl (hdep ⟨20, .data⟩ (by simp) rfl) 67 rfl⟩
        obtain ⟨v74, h74, r74⟩ : ∃ v, A.tmps[74]?.getD undef = v ∧ Row W v [(((a : Int)), ((b : Int))), (((c : Int)), ((d : Int)))] := ⟨_, gd A 74, hhas 27 _ rfl (hdep ⟨27, .data⟩ (by simp) rfl) 74 rfl⟩
        refine wpOp_step rfl (fun K hK => ?_)
        go_simp
        refine (same_true v67 v74 _ _ r67 r74).mono ?_
        rintro e W' ⟨rfl, hb⟩
        exact hK _ _ (fin _ 75 _ hb rfl)
      | 29, ho =>
        cases Option.some.inj ho
        have h65 : A.tmps[65]?.getD undef = .bool true := (gd A 65).trans (show A.tmps.getD 65 undef = .bool true from hhas 18 _ rfl (hdep ⟨18, .data⟩ (by simp) rfl) 65 rfl)
        have h75 : A.tmps[75]?.getD undef = .bool true := (gd A 75).trans (show A.tmps.getD 75 undef = .bool true from hhas 28 _ rfl (hdep ⟨28, .data⟩ (by simp) rfl) 75 rfl)
        refine wpOp_step rfl (fun K hK => ?_)
        go_simp
        exact hK _ _ (fin _ 76 _ (Below.refl _ _) rfl)
      | 30, ho =>
        cases Option.some.inj ho
        have h76 : A.tmps[76]?.getD undef = .bool true := (gd A 76).trans (show A.tmps.getD 76 undef = .bool true from hhas 29 _ rfl (hdep ⟨29, .data⟩ (by simp) rfl) 76 rfl)
        refine wpOp_step rfl (fun K hK => ?_)
        go_simp
        exact hK _ _ (fin _ 77 _ (Below.refl _ _) rfl)
      | 31, ho =>
        cases Option.some.inj ho
        have hG : A.tmps[77]? = some (.bool true) := gdb (show A.tmps.getD 77 undef = .bool true from hhas 30 _ rfl (hdep ⟨30, .guard⟩ (by simp) rfl) 77 rfl)
        have h9 : A.eval (.tmp 9) = .pointer (some ⟨g9, 0, none⟩) := (hkept 9 (fun j p hp _ => nd (by kernel_rfl) j p hp))
        have hg := (hJ.block _ (lt_of_block k9)).trans k9
        refine wpOp_step rfl (fun K hK => ?_)
        rw [if_pos (by simp [Region.wanted, yielded, hG])]
        refine wp_load_row 24 _ rfl _ h9 _ _ _ _ hg maskType rfl (maskSize _) ?_
        exact hK _ _ (fin _ 78 _ (Below.refl _ _) rfl)
      | 32, ho =>
        cases Option.some.inj ho
        have hG : A.tmps[77]? = some (.bool true) := gdb (show A.tmps.getD 77 undef = .bool true from hhas 30 _ rfl (hdep ⟨30, .guard⟩ (by simp) rfl) 77 rfl)
        have h0 : A.tmps[0]?.getD undef = .int .i64 ((a : Int)) := (gd A 0).trans (hkept 0 (fun j p hp _ => nd (by kernel_rfl) j p hp))
        refine wpOp_step rfl (fun K hK => ?_)
        go_simp
        exact hK _ _ (fin _ 79 _ (Below.refl _ _) rfl)
      | 33, ho =>
        cases Option.some.inj ho
        have hG : A.tmps[77]? = some (.bool true) := gdb (show A.tmps.getD 77 undef = .bool true from hhas 30 _ rfl (hdep ⟨30, .guard⟩ (by simp) rfl) 77 rfl)
        have h1 : A.tmps[1]?.getD undef = .int .i64 ((b : Int)) := (gd A 1).trans (hkept 1 (fun j p hp _ => nd (by kernel_rfl) j p hp))
        refine wpOp_step rfl (fun K hK => ?_)
        go_simp
        exact hK _ _ (fin _ 80 _ (Below.refl _ _) rfl)
      | 34, ho =>
        cases Option.some.inj ho
        have hG : A.tmps[77]? = some (.bool true) := gdb (show A.tmps.getD 77 undef = .bool true from hhas 30 _ rfl (hdep ⟨30, .guard⟩ (by simp) rfl) 77 rfl)
        have h79 : A.tmps[79]?.getD undef = .int .i64 ((a : Int)) := (gd A 79).trans (show A.tmps.getD 79 undef = .int .i64 ((a : Int)) from hhas 32 _ rfl (hdep ⟨32, .data⟩ (by simp) rfl) 79 rfl)
        have h80 : A.tmps[80]?.getD undef = .int .i64 ((b : Int)) := (gd A 80).trans (show A.tmps.getD 80 undef = .int .i64 ((b : Int)) from hhas 33 _ rfl (hdep ⟨33, .data⟩ (by simp) rfl) 80 rfl)
        refine wpOp_step rfl (fun K hK => ?_)
        go_simp
        exact hK _ _ (fin _ 81 _ (Below.refl _ _) rfl)
      | 35, ho =>
        cases Option.some.inj ho
        have hG : A.tmps[77]? = some (.bool true) := gdb (show A.tmps.getD 77 undef = .bool true from hhas 30 _ rfl (hdep ⟨30, .guard⟩ (by simp) rfl) 77 rfl)
        have h78 : A.tmps[78]?.getD undef = .agg (mv (inl [((a : Int), (b : Int))])) := (gd A 78).trans (show A.tmps.getD 78 undef = .agg (mv (inl [((a : Int), (b : Int))])) from hhas 31 _ rfl (hdep ⟨31, .data⟩ (by simp) rfl) 78 rfl)
        have h81 : A.tmps[81]?.getD undef = .agg #[.int .i64 ((a : Int)), .int .i64 ((b : Int))] := (gd A 81).trans (show A.tmps.getD 81 undef = .agg #[.int .i64 ((a : Int)), .int .i64 ((b : Int))] from hhas 34 _ rfl (hdep ⟨34, .data⟩ (by simp) rfl) 81 rfl)
        refine wpOp_step rfl (fun K hK => ?_)
        go_simp
        refine (cH1 _).mono ?_
        rintro e W' ⟨rfl, hb⟩
        exact hK _ _ (fin _ 82 _ hb rfl)
      | 36, ho =>
        cases Option.some.inj ho
        have h77 : A.tmps[77]?.getD undef = .bool true := (gd A 77).trans (show A.tmps.getD 77 undef = .bool true from hhas 30 _ rfl (hdep ⟨30, .data⟩ (by simp) rfl) 77 rfl)
        have h82 : A.tmps[82]?.getD undef = .bool true := (gd A 82).trans (show A.tmps.getD 82 undef = .bool true from hhas 35 _ rfl (hdep ⟨35, .data⟩ (by simp) rfl) 82 rfl)
        refine wpOp_step rfl (fun K hK => ?_)
        go_simp
        exact hK _ _ (fin _ 83 _ (Below.refl _ _) rfl)
      | 37, ho =>
        cases Option.some.inj ho
        have h83 : A.tmps[83]?.getD undef = .bool true := (gd A 83).trans (show A.tmps.getD 83 undef = .bool true from hhas 36 _ rfl (hdep ⟨36, .data⟩ (by simp) rfl) 83 rfl)
        refine wpOp_step rfl (fun K hK => ?_)
        go_simp
        exact hK _ _ (fin _ 84 _ (Below.refl _ _) rfl)
      | 38, ho =>
        cases Option.some.inj ho
        have hG : A.tmps[84]? = some (.bool true) := gdb (show A.tmps.getD 84 undef = .bool true from hhas 37 _ rfl (hdep ⟨37, .guard⟩ (by simp) rfl) 84 rfl)
        have h9 : A.eval (.tmp 9) = .pointer (some ⟨g9, 0, none⟩) := (hkept 9 (fun j p hp _ => nd (by kernel_rfl) j p hp))
        have hg := (hJ.block _ (lt_of_block k9)).trans k9
        refine wpOp_step rfl (fun K hK => ?_)
        rw [if_pos (by simp [Region.wanted, yielded, hG])]
        refine wp_load_row 24 _ rfl _ h9 _ _ _ _ hg maskType rfl (maskSize _) ?_
        exact hK _ _ (fin _ 85 _ (Below.refl _ _) rfl)
      | 39, ho =>
        cases Option.some.inj ho
        have hG : A.tmps[84]? = some (.bool true) := gdb (show A.tmps.getD 84 undef = .bool true from hhas 37 _ rfl (hdep ⟨37, .guard⟩ (by simp) rfl) 84 rfl)
        have h0 : A.tmps[0]?.getD undef = .int .i64 ((a : Int)) := (gd A 0).trans (hkept 0 (fun j p hp _ => nd (by kernel_rfl) j p hp))
        refine wpOp_step rfl (fun K hK => ?_)
        go_simp
        exact hK _ _ (fin _ 86 _ (Below.refl _ _) rfl)
      | 40, ho =>
        cases Option.some.inj ho
        have hG : A.tmps[84]? = some (.bool true) := gdb (show A.tmps.getD 84 undef = .bool true from hhas 37 _ rfl (hdep ⟨37, .guard⟩ (by simp) rfl) 84 rfl)
        have h1 : A.tmps[1]?.getD undef = .int .i64 ((b : Int)) := (gd A 1).trans (hkept 1 (fun j p hp _ => nd (by kernel_rfl) j p hp))
        refine wpOp_step rfl (fun K hK => ?_)
        go_simp
        exact hK _ _ (fin _ 87 _ (Below.refl _ _) rfl)
      | 41, ho =>
        cases Option.some.inj ho
        have hG : A.tmps[84]? = some (.bool true) := gdb (show A.tmps.getD 84 undef = .bool true from hhas 37 _ rfl (hdep ⟨37, .guard⟩ (by simp) rfl) 84 rfl)
        have h87 : A.tmps[87]?.getD undef = .int .i64 ((b : Int)) := (gd A 87).trans (show A.tmps.getD 87 undef = .int .i64 ((b : Int)) from hhas 40 _ rfl (hdep ⟨40, .data⟩ (by simp) rfl) 87 rfl)
        refine wpOp_step rfl (fun K hK => ?_)
        go_simp
        exact hK _ _ (fin _ 88 _ (Below.refl _ _) rfl)
      | 42, ho =>
        cases Option.some.inj ho
        have hG : A.tmps[84]? = some (.bool true) := gdb (show A.tmps.getD 84 undef = .bool true from hhas 37 _ rfl (hdep ⟨37, .guard⟩ (by simp) rfl) 84 rfl)
        have h86 : A.tmps[86]?.getD undef = .int .i64 ((a : Int)) := (gd A 86).trans (show A.tmps.getD 86 undef = .int .i64 ((a : Int)) from hhas 39 _ rfl (hdep ⟨39, .data⟩ (by simp) rfl) 86 rfl)
        have h88 : A.tmps[88]?.getD undef = .int .i64 (((b : Int)) + (1)) := (gd A 88).trans (show A.tmps.getD 88 undef = .int .i64 (((b : Int)) + (1)) from hhas 41 _ rfl (hdep ⟨41, .data⟩ (by simp) rfl) 88 rfl)
        refine wpOp_step rfl (fun K hK => ?_)
        go_simp
        exact hK _ _ (fin _ 89 _ (Below.refl _ _) rfl)
      | 43, ho =>
        cases Option.some.inj ho
        have hG : A.tmps[84]? = some (.bool true) := gdb (show A.tmps.getD 84 undef = .bool true from hhas 37 _ rfl (hdep ⟨37, .guard⟩ (by simp) rfl) 84 rfl)
        have h85 : A.tmps[85]?.getD undef = .agg (mv (inl [((a : Int), (b : Int))])) := (gd A 85).trans (show A.tmps.getD 85 undef = .agg (mv (inl [((a : Int), (b : Int))])) from hhas 38 _ rfl (hdep ⟨38, .data⟩ (by simp) rfl) 85 rfl)
        have h89 : A.tmps[89]?.getD undef = .agg #[.int .i64 ((a : Int)), .int .i64 (((b : Int)) + (1))] := (gd A 89).trans (show A.tmps.getD 89 undef = .agg #[.int .i64 ((a : Int)), .int .i64 (((b : Int)) + (1))] from hhas 42 _ rfl (hdep ⟨42, .data⟩ (by simp) rfl) 89 rfl)
        refine wpOp_step rfl (fun K hK => ?_)
        go_simp
        refine (cH2 _).mono ?_
        rintro e W' ⟨rfl, hb⟩
        exact hK _ _ (fin _ 90 _ hb rfl)
      | 44, ho =>
        cases Option.some.inj ho
        have hG : A.tmps[84]? = some (.bool true) := gdb (show A.tmps.getD 84 undef = .bool true from hhas 37 _ rfl (hdep ⟨37, .guard⟩ (by simp) rfl) 84 rfl)
        have h90 : A.tmps[90]?.getD undef = .bool false := (gd A 90).trans (show A.tmps.getD 90 undef = .bool false from hhas 43 _ rfl (hdep ⟨43, .data⟩ (by simp) rfl) 90 rfl)
        refine wpOp_step rfl (fun K hK => ?_)
        go_simp
        exact hK _ _ (fin _ 91 _ (Below.refl _ _) rfl)
      | 45, ho =>
        cases Option.some.inj ho
        have h84 : A.tmps[84]?.getD undef = .bool true := (gd A 84).trans (show A.tmps.getD 84 undef = .bool true from hhas 37 _ rfl (hdep ⟨37, .data⟩ (by simp) rfl) 84 rfl)
        have h91 : A.tmps[91]?.getD undef = .bool true := (gd A 91).trans (show A.tmps.getD 91 undef = .bool true from hhas 44 _ rfl (hdep ⟨44, .data⟩ (by simp) rfl) 91 rfl)
        refine wpOp_step rfl (fun K hK => ?_)
        go_simp
        exact hK _ _ (fin _ 92 _ (Below.refl _ _) rfl)
      | 46, ho =>
        cases Option.some.inj ho
        have h92 : A.tmps[92]?.getD undef = .bool true := (gd A 92).trans (show A.tmps.getD 92 undef = .bool true from hhas 45 _ rfl (hdep ⟨45, .data⟩ (by simp) rfl) 92 rfl)
        refine wpOp_step rfl (fun K hK => ?_)
        go_simp
        exact hK _ _ (fin _ 93 _ (Below.refl _ _) rfl)
      | 47, ho =>
        cases Option.some.inj ho
        have hG : A.tmps[93]? = some (.bool true) := gdb (show A.tmps.getD 93 undef = .bool true from hhas 46 _ rfl (hdep ⟨46, .guard⟩ (by simp) rfl) 93 rfl)
        have h9 : A.eval (.tmp 9) = .pointer (some ⟨g9, 0, none⟩) := (hkept 9 (fun j p hp _ => nd (by kernel_rfl) j p hp))
        have hg := (hJ.block _ (lt_of_block k9)).trans k9
        refine wpOp_step rfl (fun K hK => ?_)
        rw [if_pos (by simp [Region.wanted, yielded, hG])]
        refine wp_load_row 24 _ rfl _ h9 _ _ _ _ hg maskType rfl (maskSize _) ?_
        exact hK _ _ (fin _ 94 _ (Below.refl _ _) rfl)
      | 48, ho =>
        cases Option.some.inj ho
        have hG : A.tmps[93]? = some (.bool true) := gdb (show A.tmps.getD 93 undef = .bool true from hhas 46 _ rfl (hdep ⟨46, .guard⟩ (by simp) rfl) 93 rfl)
        have h1 : A.tmps[1]?.getD undef = .int .i64 ((b : Int)) := (gd A 1).trans (hkept 1 (fun j p hp _ => nd (by kernel_rfl) j p hp))
        refine wpOp_step rfl (fun K hK => ?_)
        go_simp
        exact hK _ _ (fin _ 95 _ (Below.refl _ _) rfl)
      | 49, ho =>
        cases Option.some.inj ho
        have hG : A.tmps[93]? = some (.bool true) := gdb (show A.tmps.getD 93 undef = .bool true from hhas 46 _ rfl (hdep ⟨46, .guard⟩ (by simp) rfl) 93 rfl)
        have h2 : A.tmps[2]?.getD undef = .int .i64 ((c : Int)) := (gd A 2).trans (hkept 2 (fun j p hp _ => nd (by kernel_rfl) j p hp))
        refine wpOp_step rfl (fun K hK => ?_)
        go_simp
        exact hK _ _ (fin _ 96 _ (Below.refl _ _) rfl)
      | 50, ho =>
        cases Option.some.inj ho
        have hG : A.tmps[93]? = some (.bool true) := gdb (show A.tmps.getD 93 undef = .bool true from hhas 46 _ rfl (hdep ⟨46, .guard⟩ (by simp) rfl) 93 rfl)
        have h95 : A.tmps[95]?.getD undef = .int .i64 ((b : Int)) := (gd A 95).trans (show A.tmps.getD 95 undef = .int .i64 ((b : Int)) from hhas 48 _ rfl (hdep ⟨48, .data⟩ (by simp) rfl) 95 rfl)
        have h96 : A.tmps[96]?.getD undef = .int .i64 ((c : Int)) := (gd A 96).trans (show A.tmps.getD 96 undef = .int .i64 ((c : Int)) from hhas 49 _ rfl (hdep ⟨49, .data⟩ (by simp) rfl) 96 rfl)
        refine wpOp_step rfl (fun K hK => ?_)
        go_simp
        exact hK _ _ (fin _ 97 _ (Below.refl _ _) rfl)
      | 51, ho =>
        cases Option.some.inj ho
        have hG : A.tmps[93]? = some (.bool true) := gdb (show A.tmps.getD 93 undef = .bool true from hhas 46 _ rfl (hdep ⟨46, .guard⟩ (by simp) rfl) 93 rfl)
        have h97 : A.tmps[97]?.getD undef = .agg #[.int .i64 ((b : Int)), .int .i64 ((c : Int))] := (gd A 97).trans (show A.tmps.getD 97 undef = .agg #[.int .i64 ((b : Int)), .int .i64 ((c : Int))] from hhas 50 _ rfl (hdep ⟨50, .data⟩ (by simp) rfl) 97 rfl)
        refine wpOp_step rfl (fun K hK => ?_)
        go_simp
        exact hK _ _ (fin _ 98 _ ((Below.refl _ _).alloc (Nat.le_refl _) _) (row_at (heap_alloc_new W _)))
      | 52, ho =>
        cases Option.some.inj ho
        have hG : A.tmps[93]? = some (.bool true) := gdb (show A.tmps.getD 93 undef = .bool true from hhas 46 _ rfl (hdep ⟨46, .guard⟩ (by simp) rfl) 93 rfl)
        obtain ⟨v98, h98, r98⟩ : ∃ v, A.tmps[98]?.getD undef = v ∧ Row W v [(((b : Int)), ((c : Int)))] := ⟨_, gd A 98, hhas 51 _ rfl (hdep ⟨51, .data⟩ (by simp) rfl) 98 rfl⟩
        refine wpOp_step rfl (fun K hK => ?_)
        go_simp
        refine (of_any v98 _ _ r98).mono ?_
        rintro e W' ⟨rfl, hb⟩
        exact hK _ _ (fin _ 99 _ hb rfl)
      | 53, ho =>
        cases Option.some.inj ho
        have hG : A.tmps[93]? = some (.bool true) := gdb (show A.tmps.getD 93 undef = .bool true from hhas 46 _ rfl (hdep ⟨46, .guard⟩ (by simp) rfl) 93 rfl)
        have h94 : A.tmps[94]?.getD undef = .agg (mv (inl [((a : Int), (b : Int))])) := (gd A 94).trans (show A.tmps.getD 94 undef = .agg (mv (inl [((a : Int), (b : Int))])) from hhas 47 _ rfl (hdep ⟨47, .data⟩ (by simp) rfl) 94 rfl)
        have h99 : A.tmps[99]?.getD undef = .agg (mv (inl [((b : Int), (c : Int))])) := (gd A 99).trans (show A.tmps.getD 99 undef = .agg (mv (inl [((b : Int), (c : Int))])) from hhas 52 _ rfl (hdep ⟨52, .data⟩ (by simp) rfl) 99 rfl)
        refine wpOp_step rfl (fun K hK => ?_)
        go_simp
        refine (both_any (inl [((a : Int), (b : Int))]) (inl [((b : Int), (c : Int))]) _).mono ?_
        rintro e W' ⟨rfl, hb⟩
        exact hK _ _ (fin _ 100 _ hb rfl)
      | 54, ho =>
        cases Option.some.inj ho
        have hG : A.tmps[93]? = some (.bool true) := gdb (show A.tmps.getD 93 undef = .bool true from hhas 46 _ rfl (hdep ⟨46, .guard⟩ (by simp) rfl) 93 rfl)
        refine wpOp_step rfl (fun K hK => ?_)
        go_simp
        exact hK _ _ (fin _ 101 _ (Below.refl _ _) rfl)
      | 55, ho =>
        cases Option.some.inj ho
        have hG : A.tmps[93]? = some (.bool true) := gdb (show A.tmps.getD 93 undef = .bool true from hhas 46 _ rfl (hdep ⟨46, .guard⟩ (by simp) rfl) 93 rfl)
        have h100 : A.tmps[100]?.getD undef = .agg (mv (fun i => (inl [((a : Int), (b : Int))] i && inl [((b : Int), (c : Int))] i) && decide (i < 1440))) := (gd A 100).trans (show A.tmps.getD 100 undef = .agg (mv (fun i => (inl [((a : Int), (b : Int))] i && inl [((b : Int), (c : Int))] i) && decide (i < 1440))) from hhas 53 _ rfl (hdep ⟨53, .data⟩ (by simp) rfl) 100 rfl)
        have h101 : A.tmps[101]?.getD undef = .agg (mv (fun _ => false)) := (gd A 101).trans (show A.tmps.getD 101 undef = .agg (mv (fun _ => false)) from hhas 54 _ rfl (hdep ⟨54, .data⟩ (by simp) rfl) 101 rfl)
        have he : ∀ w, (Op.equalIn 10000 24 (.agg (mv (fun i => (inl [((a : Int), (b : Int))] i && inl [((b : Int), (c : Int))] i) && decide (i < 1440)))) (.agg (mv (fun _ => false)))).run Tryd.prog w = .ok true w := fun w => by rw [eq_mask, p_apart a b c (by omega) (by omega)]
        refine wpOp_step rfl (fun K hK => ?_)
        go_simp
        exact hK _ _ (fin _ 102 _ (Below.refl _ _) rfl)
      | 56, ho =>
        cases Option.some.inj ho
        have h93 : A.tmps[93]?.getD undef = .bool true := (gd A 93).trans (show A.tmps.getD 93 undef = .bool true from hhas 46 _ rfl (hdep ⟨46, .data⟩ (by simp) rfl) 93 rfl)
        have h102 : A.tmps[102]?.getD undef = .bool true := (gd A 102).trans (show A.tmps.getD 102 undef = .bool true from hhas 55 _ rfl (hdep ⟨55, .data⟩ (by simp) rfl) 102 rfl)
        refine wpOp_step rfl (fun K hK => ?_)
        go_simp
        exact hK _ _ (fin _ 103 _ (Below.refl _ _) rfl)
      | 57, ho =>
        cases Option.some.inj ho
        have h103 : A.tmps[103]?.getD undef = .bool true := (gd A 103).trans (show A.tmps.getD 103 undef = .bool true from hhas 56 _ rfl (hdep ⟨56, .data⟩ (by simp) rfl) 103 rfl)
        refine wpOp_step rfl (fun K hK => ?_)
        go_simp
        exact hK _ _ (fin _ 8 _ (Below.refl _ _) rfl)
      | k + 58, ho => simp at ho
    · intro L A W9 hL hJ hdef hsize hkept hhas
      have h8 : A.tmps[8]?.getD undef = .bool true := (gd A 8).trans (show A.tmps.getD 8 undef = .bool true from hhas 57 _ rfl 8 rfl)
      have hbw9 := hbw5.trans (hJ.mono hbw5.size)
      clear hL hkept hhas hsize hz
      go_wp2
      refine bodyPost_ret (v := .bool true) ?_ hdef ⟨rfl, hbw9⟩
      simp [results, Tryd.results6, h8]
end Go.Proofs.YtemdkpjdbciemabDoor
