/- The law MaskTells, walked out of the contracts. -/
import Derived.Test.YtemdkpjdbciemaaDoorRefShift
import Derived.Test.YtemdkpjdbciemaaDoorRefOf
import Derived.Test.YtemdkpjdbciemaaDoorRefNext
import Derived.Test.YtemdkpjdbciemaaDoorRefSpans
import Derived.Test.YtemdkpjdbciemaaDoorSameA
import Derived.Test.YtemdkpjdbciemaaDoorTurnsFacts
namespace Go.Proofs.YtemdkpjdbciemaaDoor
open Go.RowKit Msk

theorem eqm_refl (F : Nat → Bool) : eqm F F = true := eqm_true fun _ _ => rfl
def sp3 (f g : Nat → Bool) (L0 : Sps) (by_ sx sy vn : Int) (hh ok : Bool) (i : Nat) (v : Value) (W : World) : Prop := match i with
  | 0 => Row W v L0
  | 1 => v = .agg (mv (inl L0))
  | 2 => Row W v L0
  | 3 => v = .agg (mv (inl L0))
  | 4 => v = .bool true
  | 5 => v = .bool true
  | 6 => v = .agg (mv (f))
  | 7 => Row W v (rs f 1440)
  | 8 => v = .agg (mv (f))
  | 9 => Row W v (rs f 1440)
  | 10 => v = .bool true
  | 11 => v = .bool true
  | 12 => v = .bool true
  | 13 => v = .agg (mv (f))
  | 14 => v = .agg (mv (g))
  | 15 => v = .agg (mv (fun i => (f i || g i) && decide (i < 1440)))
  | 16 => v = .agg (mv (f))
  | 17 => v = .agg (mv (g))
  | 18 => v = .agg (mv (fun i => (f i || g i) && decide (i < 1440)))
  | 19 => v = .bool true
  | 20 => v = .bool true
  | 21 => v = .bool true
  | 22 => v = .agg (mv (f))
  | 23 => v = .agg (mv (g))
  | 24 => v = .agg (mv (fun i => (f i && !g i) && decide (i < 1440)))
  | 25 => v = .agg (mv (f))
  | 26 => v = .agg (mv (g))
  | 27 => v = .agg (mv (fun i => (f i && !g i) && decide (i < 1440)))
  | 28 => v = .bool true
  | 29 => v = .bool true
  | 30 => v = .bool true
  | 31 => v = .agg (mv (f))
  | 32 => v = .agg (mv (g))
  | 33 => v = .agg (mv (fun i => (f i && g i) && decide (i < 1440)))
  | 34 => v = .agg (mv (f))
  | 35 => v = .agg (mv (g))
  | 36 => v = .agg (mv (fun i => (f i && g i) && decide (i < 1440)))
  | 37 => v = .bool true
  | 38 => v = .bool true
  | 39 => v = .bool true
  | 40 => v = .agg (mv (f))
  | 41 => v = .int .i64 (by_)
  | 42 => v = .agg (mv (shf f by_))
  | 43 => v = .agg (mv (f))
  | 44 => v = .int .i64 (by_)
  | 45 => v = .agg (mv (shf f by_))
  | 46 => v = .bool true
  | 47 => v = .bool true
  | 48 => v = .bool true
  | 49 => v = .agg (mv (f))
  | 50 => v = .int .i64 (((cnt f 1440 : Nat) : Int))
  | 51 => v = .agg (mv (f))
  | 52 => v = .int .i64 (((cnt f 1440 : Nat) : Int))
  | 53 => v = .bool true
  | 54 => v = .bool true
  | 55 => v = .bool true
  | 56 => v = .agg (mv (f))
  | 57 => v = .agg #[.int .i64 (sx), .int .i64 (sy)]
  | 58 => v = .bool hh
  | 59 => v = .agg (mv (f))
  | 60 => v = .agg #[.int .i64 (sx), .int .i64 (sy)]
  | 61 => v = .bool hh
  | 62 => v = .bool true
  | 63 => v = .bool true
  | 64 => v = .bool true
  | 65 => v = .int .i64 (vn)
  | 66 => v = .int .i64 (vn)
  | 67 => v = .bool true
  | 68 => v = .bool true
  | 69 => v = .bool true
  | 70 => v = .bool ok
  | 71 => v = .bool ok
  | 72 => v = .bool true
  | 73 => v = .bool true
  | 74 => v = .bool true
  | _ => True
theorem sp3_mono {f g : Nat → Bool} {L0 : Sps} {by_ sx sy vn : Int} {hh ok : Bool} {W W' : World} (hb : Below W.heap.size W W') (i : Nat) (v : Value) (h : sp3 f g L0 by_ sx sy vn hh ok i v W) : sp3 f g L0 by_ sx sy vn hh ok i v W' := by
  unfold sp3 at *
  split at h
  all_goals first | exact h | exact h.later hb

set_option maxRecDepth 10000 in
set_option maxHeartbeats 8000000 in
theorem tells_walk (v0 : Value) (L0 : List (Int × Int)) (f g : Nat → Bool) (by_ sx sy x n : Int) (w : World) (hR : Row w v0 L0) (hT : Tab w) (b3 : -9223372036854775808 ≤ by_ ∧ by_ ≤ 9223372036854775807) (b5 : -9223372036854775808 ≤ x ∧ x ≤ 9223372036854775807) :
    Calls Tryd.prog 7 #[v0, .agg (mv f), .agg (mv g), .int .i64 by_, .agg #[.int .i64 sx, .int .i64 sy], .int .i64 x, .int .i64 n] w fun e w' => e = .returned (.bool true) ∧ Below w.heap.size w w' := by
  have hz := mv_lit
  have hb0 : Below w.heap.size w (((w.alloc (.cells (mv f) 37)).alloc (.cells (mv g) 37)).alloc (.cells #[.int .i64 sx, .int .i64 sy] 39)) := (((Below.refl _ _).alloc (Nat.le_refl _) _).alloc (by simp) _).alloc (by simp; omega) _
  have h8 : (((w.alloc (.cells (mv f) 37)).alloc (.cells (mv g) 37)).alloc (.cells #[.int .i64 sx, .int .i64 sy] 39)).heap[w.heap.size]? = some (.cells (mv f) 37 (0, 0)) := by (repeat (first | refine blk_old _ _ _ (by simp only [size_alloc]; omega) ?_ | exact blk_new _ _ _ (by first | rfl | simp only [size_alloc])))
  have h9 : (((w.alloc (.cells (mv f) 37)).alloc (.cells (mv g) 37)).alloc (.cells #[.int .i64 sx, .int .i64 sy] 39)).heap[w.heap.size + 1]? = some (.cells (mv g) 37 (0, 0)) := by (repeat (first | refine blk_old _ _ _ (by simp only [size_alloc]; omega) ?_ | exact blk_new _ _ _ (by first | rfl | simp only [size_alloc])))
  have h11 : (((w.alloc (.cells (mv f) 37)).alloc (.cells (mv g) 37)).alloc (.cells #[.int .i64 sx, .int .i64 sy] 39)).heap[w.heap.size + 2]? = some (.cells #[.int .i64 sx, .int .i64 sy] 39 (0, 0)) := by (repeat (first | refine blk_old _ _ _ (by simp only [size_alloc]; omega) ?_ | exact blk_new _ _ _ (by first | rfl | simp only [size_alloc])))
  have cS1 : ∀ w, Tab w → Calls Tryd.prog 25 #[.agg (mv f)] w fun e w' => (∃ v, e = .returned v ∧ Row w' v (rs f 1440)) ∧ Below w.heap.size w w' := fun w hT => (spans_any f w hT).mono fun e w' h => ⟨h.1, h.2.2⟩
  obtain ⟨hh, cH1, cH2⟩ : ∃ hh : Bool, (∀ w, Calls Tryd.prog 37 #[.agg (mv f), .agg #[.int .i64 sx, .int .i64 sy]] w fun e w' => e = .returned (.bool hh) ∧ Below w.heap.size w w') ∧ (∀ w, Calls Tryd.prog 38 #[.agg (mv f), .agg #[.int .i64 sx, .int .i64 sy]] w fun e w' => e = .returned (.bool hh) ∧ Below w.heap.size w w') := ⟨_, fun w => holds_any f sx sy w, fun w => holds_ref f sx sy w⟩
  have hby : Hid (-9223372036854775808 ≤ by_ ∧ by_ ≤ 9223372036854775807) := b3
  have cN1 := next_any f x n _ (hT.later hb0)
  have cN2 := fun w => next_ref f x n w b5.1 b5.2
  clear b3 b5
  go_enter Tryd.func7, Tryd.ntmps7
  go_wp2_with (first
    | (refine wpList_load_row rfl 37 _ rfl _ rfl _ _ _ _ h8 maskType rfl (maskSize _) ?_)
    | (go_at_call 20; refine cN1.mono ?_; rintro e w1 ⟨⟨vn, ok, rfl, hn1⟩, hb1⟩; have k81 := (hb1.block _ (lt_of_block h8)).trans h8; have k91 := (hb1.block _ (lt_of_block h9)).trans h9; have k111 := (hb1.block _ (lt_of_block h11)).trans h11; have hbw1 := hb0.trans (hb1.mono hb0.size); have HN1 : Hid (NextTells f x n vn ok) := hn1; clear h8 h9 h11 hb0 hb1 cN1 hn1)
    | (refine wpList_load_row rfl 37 _ rfl _ rfl _ _ _ _ k81 maskType rfl (maskSize _) ?_)
    | (go_at_call 21; refine (cN2 _).mono ?_; rintro e w2 ⟨⟨vn', ok', rfl, hn2⟩, hb2⟩; obtain ⟨rfl, rfl⟩ := next_one HN1.out hn2; have k8 := (hb2.block _ (lt_of_block k81)).trans k81; have k9 := (hb2.block _ (lt_of_block k91)).trans k91; have k11 := (hb2.block _ (lt_of_block k111)).trans k111; have hbw2 := hbw1.trans (hb2.mono hbw1.size); clear k81 k91 k111 hb2 hbw1 cN2 hn2 HN1))
  have hT2 := hT.later hbw2
  have hR2 := hR.later hbw2
  refine wp_region_flow (by kernel_rfl) (by kernel_rfl) (by kernel_rfl) (by kernel_rfl) (fun _ _ W => Below w2.heap.size w2 W) (sp3 f g L0 by_ sx sy vn hh ok) ?_ ?_ ?_
  · intro L hL
    exact (Below.refl _ _).drew
  · intro i o L A W ho hLi hdep hJ hdef hkept hhas
    clear hdef hLi
    have fin : ∀ (v : Value) (ds : Nat) (W' : World), Below W.heap.size W W' → sp3 f g L0 by_ sx sy vn hh ok i v W' → ∃ u, A.put (some ds) v = A.put (some ds) u ∧ (some ds ≠ none → sp3 f g L0 by_ sx sy vn hh ok i u W') ∧ (∀ j x', L j = true → sp3 f g L0 by_ sx sy vn hh ok j x' W → sp3 f g L0 by_ sx sy vn hh ok j x' W') ∧ Below w2.heap.size w2 W' := by
      intro v ds W' hb hv
      exact ⟨v, rfl, fun _ => hv, fun j x' _ h => sp3_mono hb j x' h, hJ.trans (hb.mono hJ.size)⟩
    match i, ho with
    | 0, ho =>
      cases Option.some.inj ho
      have h0 : A.tmps[0]?.getD undef = v0 := (gd A 0).trans (hkept 0 (fun j p hp _ => nd (by kernel_rfl) j p hp)); have r0 := hR2.later hJ
      refine wpOp_step rfl (fun K hK => ?_)
      go_simp
      exact hK _ _ (fin _ 33 _ (Below.refl _ _) r0)
    | 1, ho =>
      cases Option.some.inj ho
      obtain ⟨v33, h33, r33⟩ : ∃ v, A.tmps[33]?.getD undef = v ∧ Row W v L0 := ⟨_, gd A 33, hhas 0 _ rfl (hdep ⟨0, .data⟩ (by simp) rfl) 33 rfl⟩
      refine wpOp_step rfl (fun K hK => ?_)
      go_simp
      refine (of_any v33 _ _ r33).mono ?_
      rintro e W' ⟨rfl, hb⟩
      exact hK _ _ (fin _ 34 _ hb rfl)
    | 2, ho =>
      cases Option.some.inj ho
      have h0 : A.tmps[0]?.getD undef = v0 := (gd A 0).trans (hkept 0 (fun j p hp _ => nd (by kernel_rfl) j p hp)); have r0 := hR2.later hJ
      refine wpOp_step rfl (fun K hK => ?_)
      go_simp
      exact hK _ _ (fin _ 35 _ (Below.refl _ _) r0)
    | 3, ho =>
      cases Option.some.inj ho
      obtain ⟨v35, h35, r35⟩ : ∃ v, A.tmps[35]?.getD undef = v ∧ Row W v L0 := ⟨_, gd A 35, hhas 2 _ rfl (hdep ⟨2, .data⟩ (by simp) rfl) 35 rfl⟩
      refine wpOp_step rfl (fun K hK => ?_)
      go_simp
      refine (of_ref v35 _ _ r35).mono ?_
      rintro e W' ⟨rfl, hb⟩
      exact hK _ _ (fin _ 36 _ hb rfl)
    | 4, ho =>
      cases Option.some.inj ho
      have h34 : A.tmps[34]?.getD undef = .agg (mv (inl L0)) := (gd A 34).trans (show A.tmps.getD 34 undef = .agg (mv (inl L0)) from hhas 1 _ rfl (hdep ⟨1, .data⟩ (by simp) rfl) 34 rfl)
      have h36 : A.tmps[36]?.getD undef = .agg (mv (inl L0)) := (gd A 36).trans (show A.tmps.getD 36 undef = .agg (mv (inl L0)) from hhas 3 _ rfl (hdep ⟨3, .data⟩ (by simp) rfl) 36 rfl)
      have he : ∀ w, (Op.equalIn 10000 37 (.agg (mv (inl L0))) (.agg (mv (inl L0)))).run Tryd.prog w = .ok true w := fun w => by rw [eq_mask, eqm_refl]
      refine wpOp_step rfl (fun K hK => ?_)
      go_simp
      exact hK _ _ (fin _ 37 _ (Below.refl _ _) rfl)
    | 5, ho =>
      cases Option.some.inj ho
      have h37 : A.tmps[37]?.getD undef = .bool true := (gd A 37).trans (show A.tmps.getD 37 undef = .bool true from hhas 4 _ rfl (hdep ⟨4, .data⟩ (by simp) rfl) 37 rfl)
      refine wpOp_step rfl (fun K hK => ?_)
      go_simp
      exact hK _ _ (fin _ 38 _ (Below.refl _ _) rfl)
    | 6, ho =>
      cases Option.some.inj ho
      have hG : A.tmps[38]? = some (.bool true) := gdb (show A.tmps.getD 38 undef = .bool true from hhas 5 _ rfl (hdep ⟨5, .guard⟩ (by simp) rfl) 38 rfl)
      have h8 : A.eval (.tmp 8) = .pointer (some ⟨w.heap.size, 0, none⟩) := (hkept 8 (fun j p hp _ => nd (by kernel_rfl) j p hp))
      have hg := (hJ.block _ (lt_of_block k8)).trans k8
      refine wpOp_step rfl (fun K hK => ?_)
      rw [if_pos (by simp [Region.wanted, yielded, hG])]
      refine wp_load_row 37 _ rfl _ h8 _ _ _ _ hg maskType rfl (maskSize _) ?_
      exact hK _ _ (fin _ 39 _ (Below.refl _ _) rfl)
    | 7, ho =>
      cases Option.some.inj ho
      have hG : A.tmps[38]? = some (.bool true) := gdb (show A.tmps.getD 38 undef = .bool true from hhas 5 _ rfl (hdep ⟨5, .guard⟩ (by simp) rfl) 38 rfl)
      have h39 : A.tmps[39]?.getD undef = .agg (mv (f)) := (gd A 39).trans (show A.tmps.getD 39 undef = .agg (mv (f)) from hhas 6 _ rfl (hdep ⟨6, .data⟩ (by simp) rfl) 39 rfl)
      refine wpOp_step rfl (fun K hK => ?_)
      go_simp
      refine (cS1 _ (hT2.later hJ)).mono ?_
      rintro e W' ⟨⟨v, rfl, hr⟩, hb⟩
      exact hK _ _ (fin _ 40 _ hb hr)
    | 8, ho =>
      cases Option.some.inj ho
      have hG : A.tmps[38]? = some (.bool true) := gdb (show A.tmps.getD 38 undef = .bool true from hhas 5 _ rfl (hdep ⟨5, .guard⟩ (by simp) rfl) 38 rfl)
      have h8 : A.eval (.tmp 8) = .pointer (some ⟨w.heap.size, 0, none⟩) := (hkept 8 (fun j p hp _ => nd (by kernel_rfl) j p hp))
      have hg := (hJ.block _ (lt_of_block k8)).trans k8
      refine wpOp_step rfl (fun K hK => ?_)
      rw [if_pos (by simp [Region.wanted, yielded, hG])]
      refine wp_load_row 37 _ rfl _ h8 _ _ _ _ hg maskType rfl (maskSize _) ?_
      exact hK _ _ (fin _ 41 _ (Below.refl _ _) rfl)
    | 9, ho =>
      cases Option.some.inj ho
      have hG : A.tmps[38]? = some (.bool true) := gdb (show A.tmps.getD 38 undef = .bool true from hhas 5 _ rfl (hdep ⟨5, .guard⟩ (by simp) rfl) 38 rfl)
      have h41 : A.tmps[41]?.getD undef = .agg (mv (f)) := (gd A 41).trans (show A.tmps.getD 41 undef = .agg (mv (f)) from hhas 8 _ rfl (hdep ⟨8, .data⟩ (by simp) rfl) 41 rfl)
      refine wpOp_step rfl (fun K hK => ?_)
      go_simp
      refine (spans_ref f _).mono ?_
      rintro e W' ⟨⟨v, rfl, hr⟩, hb⟩
      exact hK _ _ (fin _ 42 _ hb hr)
    | 10, ho =>
      cases Option.some.inj ho
      have hG : A.tmps[38]? = some (.bool true) := gdb (show A.tmps.getD 38 undef = .bool true from hhas 5 _ rfl (hdep ⟨5, .guard⟩ (by simp) rfl) 38 rfl)
      obtain ⟨v40, h40, r40⟩ : ∃ v, A.tmps[40]?.getD undef = v ∧ Row W v (rs f 1440) := ⟨_, gd A 40, hhas 7 _ rfl (hdep ⟨7, .data⟩ (by simp) rfl) 40 rfl⟩
      obtain ⟨v42, h42, r42⟩ : ∃ v, A.tmps[42]?.getD undef = v ∧ Row W v (rs f 1440) := ⟨_, gd A 42, hhas 9 _ rfl (hdep ⟨9, .data⟩ (by simp) rfl) 42 rfl⟩
      refine wpOp_step rfl (fun K hK => ?_)
      go_simp
      refine (same_true v40 v42 _ _ r40 r42).mono ?_
      rintro e W' ⟨rfl, hb⟩
      exact hK _ _ (fin _ 43 _ hb rfl)
    | 11, ho =>
      cases Option.some.inj ho
      have h38 : A.tmps[38]?.getD undef = .bool true := (gd A 38).trans (show A.tmps.getD 38 undef = .bool true from hhas 5 _ rfl (hdep ⟨5, .data⟩ (by simp) rfl) 38 rfl)
      have h43 : A.tmps[43]?.getD undef = .bool true := (gd A 43).trans (show A.tmps.getD 43 undef = .bool true from hhas 10 _ rfl (hdep ⟨10, .data⟩ (by simp) rfl) 43 rfl)
      refine wpOp_step rfl (fun K hK => ?_)
      go_simp
      exact hK _ _ (fin _ 44 _ (Below.refl _ _) rfl)
    | 12, ho =>
      cases Option.some.inj ho
      have h44 : A.tmps[44]?.getD undef = .bool true := (gd A 44).trans (show A.tmps.getD 44 undef = .bool true from hhas 11 _ rfl (hdep ⟨11, .data⟩ (by simp) rfl) 44 rfl)
      refine wpOp_step rfl (fun K hK => ?_)
      go_simp
      exact hK _ _ (fin _ 45 _ (Below.refl _ _) rfl)
    | 13, ho =>
      cases Option.some.inj ho
      have hG : A.tmps[45]? = some (.bool true) := gdb (show A.tmps.getD 45 undef = .bool true from hhas 12 _ rfl (hdep ⟨12, .guard⟩ (by simp) rfl) 45 rfl)
      have h8 : A.eval (.tmp 8) = .pointer (some ⟨w.heap.size, 0, none⟩) := (hkept 8 (fun j p hp _ => nd (by kernel_rfl) j p hp))
      have hg := (hJ.block _ (lt_of_block k8)).trans k8
      refine wpOp_step rfl (fun K hK => ?_)
      rw [if_pos (by simp [Region.wanted, yielded, hG])]
      refine wp_load_row 37 _ rfl _ h8 _ _ _ _ hg maskType rfl (maskSize _) ?_
      exact hK _ _ (fin _ 46 _ (Below.refl _ _) rfl)
    | 14, ho =>
      cases Option.some.inj ho
      have hG : A.tmps[45]? = some (.bool true) := gdb (show A.tmps.getD 45 undef = .bool true from hhas 12 _ rfl (hdep ⟨12, .guard⟩ (by simp) rfl) 45 rfl)
      have h9 : A.eval (.tmp 9) = .pointer (some ⟨w.heap.size + 1, 0, none⟩) := (hkept 9 (fun j p hp _ => nd (by kernel_rfl) j p hp))
      have hg := (hJ.block _ (lt_of_block k9)).trans k9
      refine wpOp_step rfl (fun K hK => ?_)
      rw [if_pos (by simp [Region.wanted, yielded, hG])]
      refine wp_load_row 37 _ rfl _ h9 _ _ _ _ hg maskType rfl (maskSize _) ?_
      exact hK _ _ (fin _ 47 _ (Below.refl _ _) rfl)
    | 15, ho =>
      cases Option.some.inj ho
      have hG : A.tmps[45]? = some (.bool true) := gdb (show A.tmps.getD 45 undef = .bool true from hhas 12 _ rfl (hdep ⟨12, .guard⟩ (by simp) rfl) 45 rfl)
      have h46 : A.tmps[46]?.getD undef = .agg (mv (f)) := (gd A 46).trans (show A.tmps.getD 46 undef = .agg (mv (f)) from hhas 13 _ rfl (hdep ⟨13, .data⟩ (by simp) rfl) 46 rfl)
      have h47 : A.tmps[47]?.getD undef = .agg (mv (g)) := (gd A 47).trans (show A.tmps.getD 47 undef = .agg (mv (g)) from hhas 14 _ rfl (hdep ⟨14, .data⟩ (by simp) rfl) 47 rfl)
      refine wpOp_step rfl (fun K hK => ?_)
      go_simp
      refine (union_any f g _).mono ?_
      rintro e W' ⟨rfl, hb⟩
      exact hK _ _ (fin _ 48 _ hb rfl)
    | 16, ho =>
      cases Option.some.inj ho
      have hG : A.tmps[45]? = some (.bool true) := gdb (show A.tmps.getD 45 undef = .bool true from hhas 12 _ rfl (hdep ⟨12, .guard⟩ (by simp) rfl) 45 rfl)
      have h8 : A.eval (.tmp 8) = .pointer (some ⟨w.heap.size, 0, none⟩) := (hkept 8 (fun j p hp _ => nd (by kernel_rfl) j p hp))
      have hg := (hJ.block _ (lt_of_block k8)).trans k8
      refine wpOp_step rfl (fun K hK => ?_)
      rw [if_pos (by simp [Region.wanted, yielded, hG])]
      refine wp_load_row 37 _ rfl _ h8 _ _ _ _ hg maskType rfl (maskSize _) ?_
      exact hK _ _ (fin _ 49 _ (Below.refl _ _) rfl)
    | 17, ho =>
      cases Option.some.inj ho
      have hG : A.tmps[45]? = some (.bool true) := gdb (show A.tmps.getD 45 undef = .bool true from hhas 12 _ rfl (hdep ⟨12, .guard⟩ (by simp) rfl) 45 rfl)
      have h9 : A.eval (.tmp 9) = .pointer (some ⟨w.heap.size + 1, 0, none⟩) := (hkept 9 (fun j p hp _ => nd (by kernel_rfl) j p hp))
      have hg := (hJ.block _ (lt_of_block k9)).trans k9
      refine wpOp_step rfl (fun K hK => ?_)
      rw [if_pos (by simp [Region.wanted, yielded, hG])]
      refine wp_load_row 37 _ rfl _ h9 _ _ _ _ hg maskType rfl (maskSize _) ?_
      exact hK _ _ (fin _ 50 _ (Below.refl _ _) rfl)
    | 18, ho =>
      cases Option.some.inj ho
      have hG : A.tmps[45]? = some (.bool true) := gdb (show A.tmps.getD 45 undef = .bool true from hhas 12 _ rfl (hdep ⟨12, .guard⟩ (by simp) rfl) 45 rfl)
      have h49 : A.tmps[49]?.getD undef = .agg (mv (f)) := (gd A 49).trans (show A.tmps.getD 49 undef = .agg (mv (f)) from hhas 16 _ rfl (hdep ⟨16, .data⟩ (by simp) rfl) 49 rfl)
      have h50 : A.tmps[50]?.getD undef = .agg (mv (g)) := (gd A 50).trans (show A.tmps.getD 50 undef = .agg (mv (g)) from hhas 17 _ rfl (hdep ⟨17, .data⟩ (by simp) rfl) 50 rfl)
      refine wpOp_step rfl (fun K hK => ?_)
      go_simp
      refine (union_ref f g _).mono ?_
      rintro e W' ⟨rfl, hb⟩
      exact hK _ _ (fin _ 51 _ hb rfl)
    | 19, ho =>
      cases Option.some.inj ho
      have hG : A.tmps[45]? = some (.bool true) := gdb (show A.tmps.getD 45 undef = .bool true from hhas 12 _ rfl (hdep ⟨12, .guard⟩ (by simp) rfl) 45 rfl)
      have h48 : A.tmps[48]?.getD undef = .agg (mv (fun i => (f i || g i) && decide (i < 1440))) := (gd A 48).trans (show A.tmps.getD 48 undef = .agg (mv (fun i => (f i || g i) && decide (i < 1440))) from hhas 15 _ rfl (hdep ⟨15, .data⟩ (by simp) rfl) 48 rfl)
      have h51 : A.tmps[51]?.getD undef = .agg (mv (fun i => (f i || g i) && decide (i < 1440))) := (gd A 51).trans (show A.tmps.getD 51 undef = .agg (mv (fun i => (f i || g i) && decide (i < 1440))) from hhas 18 _ rfl (hdep ⟨18, .data⟩ (by simp) rfl) 51 rfl)
      have he : ∀ w, (Op.equalIn 10000 37 (.agg (mv (fun i => (f i || g i) && decide (i < 1440)))) (.agg (mv (fun i => (f i || g i) && decide (i < 1440))))).run Tryd.prog w = .ok true w := fun w => by rw [eq_mask, eqm_refl]
      refine wpOp_step rfl (fun K hK => ?_)
      go_simp
      exact hK _ _ (fin _ 52 _ (Below.refl _ _) rfl)
    | 20, ho =>
      cases Option.some.inj ho
      have h45 : A.tmps[45]?.getD undef = .bool true := (gd A 45).trans (show A.tmps.getD 45 undef = .bool true from hhas 12 _ rfl (hdep ⟨12, .data⟩ (by simp) rfl) 45 rfl)
      have h52 : A.tmps[52]?.getD undef = .bool true := (gd A 52).trans (show A.tmps.getD 52 undef = .bool true from hhas 19 _ rfl (hdep ⟨19, .data⟩ (by simp) rfl) 52 rfl)
      refine wpOp_step rfl (fun K hK => ?_)
      go_simp
      exact hK _ _ (fin _ 53 _ (Below.refl _ _) rfl)
    | 21, ho =>
      cases Option.some.inj ho
      have h53 : A.tmps[53]?.getD undef = .bool true := (gd A 53).trans (show A.tmps.getD 53 undef = .bool true from hhas 20 _ rfl (hdep ⟨20, .data⟩ (by simp) rfl) 53 rfl)
      refine wpOp_step rfl (fun K hK => ?_)
      go_simp
      exact hK _ _ (fin _ 54 _ (Below.refl _ _) rfl)
    | 22, ho =>
      cases Option.some.inj ho
      have hG : A.tmps[54]? = some (.bool true) := gdb (show A.tmps.getD 54 undef = .bool true from hhas 21 _ rfl (hdep ⟨21, .guard⟩ (by simp) rfl) 54 rfl)
      have h8 : A.eval (.tmp 8) = .pointer (some ⟨w.heap.size, 0, none⟩) := (hkept 8 (fun j p hp _ => nd (by kernel_rfl) j p hp))
      have hg := (hJ.block _ (lt_of_block k8)).trans k8
      refine wpOp_step rfl (fun K hK => ?_)
      rw [if_pos (by simp [Region.wanted, yielded, hG])]
      refine wp_load_row 37 _ rfl _ h8 _ _ _ _ hg maskType rfl (maskSize _) ?_
      exact hK _ _ (fin _ 55 _ (Below.refl _ _) rfl)
    | 23, ho =>
      cases Option.some.inj ho
      have hG : A.tmps[54]? = some (.bool true) := gdb (show A.tmps.getD 54 undef = .bool true from hhas 21 _ rfl (hdep ⟨21, .guard⟩ (by simp) rfl) 54 rfl)
      have h9 : A.eval (.tmp 9) = .pointer (some ⟨w.heap.size + 1, 0, none⟩) := (hkept 9 (fun j p hp _ => nd (by kernel_rfl) j p hp))
      have hg := (hJ.block _ (lt_of_block k9)).trans k9
      refine wpOp_step rfl (fun K hK => ?_)
      rw [if_pos (by simp [Region.wanted, yielded, hG])]
      refine wp_load_row 37 _ rfl _ h9 _ _ _ _ hg maskType rfl (maskSize _) ?_
      exact hK _ _ (fin _ 56 _ (Below.refl _ _) rfl)
    | 24, ho =>
      cases Option.some.inj ho
      have hG : A.tmps[54]? = some (.bool true) := gdb (show A.tmps.getD 54 undef = .bool true from hhas 21 _ rfl (hdep ⟨21, .guard⟩ (by simp) rfl) 54 rfl)
      have h55 : A.tmps[55]?.getD undef = .agg (mv (f)) := (gd A 55).trans (show A.tmps.getD 55 undef = .agg (mv (f)) from hhas 22 _ rfl (hdep ⟨22, .data⟩ (by simp) rfl) 55 rfl)
      have h56 : A.tmps[56]?.getD undef = .agg (mv (g)) := (gd A 56).trans (show A.tmps.getD 56 undef = .agg (mv (g)) from hhas 23 _ rfl (hdep ⟨23, .data⟩ (by simp) rfl) 56 rfl)
      refine wpOp_step rfl (fun K hK => ?_)
      go_simp
      refine (diff_any f g _).mono ?_
      rintro e W' ⟨rfl, hb⟩
      exact hK _ _ (fin _ 57 _ hb rfl)
    | 25, ho =>
      cases Option.some.inj ho
      have hG : A.tmps[54]? = some (.bool true) := gdb (show A.tmps.getD 54 undef = .bool true from hhas 21 _ rfl (hdep ⟨21, .guard⟩ (by simp) rfl) 54 rfl)
      have h8 : A.eval (.tmp 8) = .pointer (some ⟨w.heap.size, 0, none⟩) := (hkept 8 (fun j p hp _ => nd (by kernel_rfl) j p hp))
      have hg := (hJ.block _ (lt_of_block k8)).trans k8
      refine wpOp_step rfl (fun K hK => ?_)
      rw [if_pos (by simp [Region.wanted, yielded, hG])]
      refine wp_load_row 37 _ rfl _ h8 _ _ _ _ hg maskType rfl (maskSize _) ?_
      exact hK _ _ (fin _ 58 _ (Below.refl _ _) rfl)
    | 26, ho =>
      cases Option.some.inj ho
      have hG : A.tmps[54]? = some (.bool true) := gdb (show A.tmps.getD 54 undef = .bool true from hhas 21 _ rfl (hdep ⟨21, .guard⟩ (by simp) rfl) 54 rfl)
      have h9 : A.eval (.tmp 9) = .pointer (some ⟨w.heap.size + 1, 0, none⟩) := (hkept 9 (fun j p hp _ => nd (by kernel_rfl) j p hp))
      have hg := (hJ.block _ (lt_of_block k9)).trans k9
      refine wpOp_step rfl (fun K hK => ?_)
      rw [if_pos (by simp [Region.wanted, yielded, hG])]
      refine wp_load_row 37 _ rfl _ h9 _ _ _ _ hg maskType rfl (maskSize _) ?_
      exact hK _ _ (fin _ 59 _ (Below.refl _ _) rfl)
    | 27, ho =>
      cases Option.some.inj ho
      have hG : A.tmps[54]? = some (.bool true) := gdb (show A.tmps.getD 54 undef = .bool true from hhas 21 _ rfl (hdep ⟨21, .guard⟩ (by simp) rfl) 54 rfl)
      have h58 : A.tmps[58]?.getD undef = .agg (mv (f)) := (gd A 58).trans (show A.tmps.getD 58 undef = .agg (mv (f)) from hhas 25 _ rfl (hdep ⟨25, .data⟩ (by simp) rfl) 58 rfl)
      have h59 : A.tmps[59]?.getD undef = .agg (mv (g)) := (gd A 59).trans (show A.tmps.getD 59 undef = .agg (mv (g)) from hhas 26 _ rfl (hdep ⟨26, .data⟩ (by simp) rfl) 59 rfl)
      refine wpOp_step rfl (fun K hK => ?_)
      go_simp
      refine (diff_ref f g _).mono ?_
      rintro e W' ⟨rfl, hb⟩
      exact hK _ _ (fin _ 60 _ hb rfl)
    | 28, ho =>
      cases Option.some.inj ho
      have hG : A.tmps[54]? = some (.bool true) := gdb (show A.tmps.getD 54 undef = .bool true from hhas 21 _ rfl (hdep ⟨21, .guard⟩ (by simp) rfl) 54 rfl)
      have h57 : A.tmps[57]?.getD undef = .agg (mv (fun i => (f i && !g i) && decide (i < 1440))) := (gd A 57).trans (show A.tmps.getD 57 undef = .agg (mv (fun i => (f i && !g i) && decide (i < 1440))) from hhas 24 _ rfl (hdep ⟨24, .data⟩ (by simp) rfl) 57 rfl)
      have h60 : A.tmps[60]?.getD undef = .agg (mv (fun i => (f i && !g i) && decide (i < 1440))) := (gd A 60).trans (show A.tmps.getD 60 undef = .agg (mv (fun i => (f i && !g i) && decide (i < 1440))) from hhas 27 _ rfl (hdep ⟨27, .data⟩ (by simp) rfl) 60 rfl)
      have he : ∀ w, (Op.equalIn 10000 37 (.agg (mv (fun i => (f i && !g i) && decide (i < 1440)))) (.agg (mv (fun i => (f i && !g i) && decide (i < 1440))))).run Tryd.prog w = .ok true w := fun w => by rw [eq_mask, eqm_refl]
      refine wpOp_step rfl (fun K hK => ?_)
      go_simp
      exact hK _ _ (fin _ 61 _ (Below.refl _ _) rfl)
    | 29, ho =>
      cases Option.some.inj ho
      have h54 : A.tmps[54]?.getD undef = .bool true := (gd A 54).trans (show A.tmps.getD 54 undef = .bool true from hhas 21 _ rfl (hdep ⟨21, .data⟩ (by simp) rfl) 54 rfl)
      have h61 : A.tmps[61]?.getD undef = .bool true := (gd A 61).trans (show A.tmps.getD 61 undef = .bool true from hhas 28 _ rfl (hdep ⟨28, .data⟩ (by simp) rfl) 61 rfl)
      refine wpOp_step rfl (fun K hK => ?_)
      go_simp
      exact hK _ _ (fin _ 62 _ (Below.refl _ _) rfl)
    | 30, ho =>
      cases Option.some.inj ho
      have h62 : A.tmps[62]?.getD undef = .bool true := (gd A 62).trans (show A.tmps.getD 62 undef = .bool true from hhas 29 _ rfl (hdep ⟨29, .data⟩ (by simp) rfl) 62 rfl)
      refine wpOp_step rfl (fun K hK => ?_)
      go_simp
      exact hK _ _ (fin _ 63 _ (Below.refl _ _) rfl)
    | 31, ho =>
      cases Option.some.inj ho
      have hG : A.tmps[63]? = some (.bool true) := gdb (show A.tmps.getD 63 undef = .bool true from hhas 30 _ rfl (hdep ⟨30, .guard⟩ (by simp) rfl) 63 rfl)
      have h8 : A.eval (.tmp 8) = .pointer (some ⟨w.heap.size, 0, none⟩) := (hkept 8 (fun j p hp _ => nd (by kernel_rfl) j p hp))
      have hg := (hJ.block _ (lt_of_block k8)).trans k8
      refine wpOp_step rfl (fun K hK => ?_)
      rw [if_pos (by simp [Region.wanted, yielded, hG])]
      refine wp_load_row 37 _ rfl _ h8 _ _ _ _ hg maskType rfl (maskSize _) ?_
      exact hK _ _ (fin _ 64 _ (Below.refl _ _) rfl)
    | 32, ho =>
      cases Option.some.inj ho
      have hG : A.tmps[63]? = some (.bool true) := gdb (show A.tmps.getD 63 undef = .bool true from hhas 30 _ rfl (hdep ⟨30, .guard⟩ (by simp) rfl) 63 rfl)
      have h9 : A.eval (.tmp 9) = .pointer (some ⟨w.heap.size + 1, 0, none⟩) := (hkept 9 (fun j p hp _ => nd (by kernel_rfl) j p hp))
      have hg := (hJ.block _ (lt_of_block k9)).trans k9
      refine wpOp_step rfl (fun K hK => ?_)
      rw [if_pos (by simp [Region.wanted, yielded, hG])]
      refine wp_load_row 37 _ rfl _ h9 _ _ _ _ hg maskType rfl (maskSize _) ?_
      exact hK _ _ (fin _ 65 _ (Below.refl _ _) rfl)
    | 33, ho =>
      cases Option.some.inj ho
      have hG : A.tmps[63]? = some (.bool true) := gdb (show A.tmps.getD 63 undef = .bool true from hhas 30 _ rfl (hdep ⟨30, .guard⟩ (by simp) rfl) 63 rfl)
      have h64 : A.tmps[64]?.getD undef = .agg (mv (f)) := (gd A 64).trans (show A.tmps.getD 64 undef = .agg (mv (f)) from hhas 31 _ rfl (hdep ⟨31, .data⟩ (by simp) rfl) 64 rfl)
      have h65 : A.tmps[65]?.getD undef = .agg (mv (g)) := (gd A 65).trans (show A.tmps.getD 65 undef = .agg (mv (g)) from hhas 32 _ rfl (hdep ⟨32, .data⟩ (by simp) rfl) 65 rfl)
      refine wpOp_step rfl (fun K hK => ?_)
      go_simp
      refine (both_any f g _).mono ?_
      rintro e W' ⟨rfl, hb⟩
      exact hK _ _ (fin _ 66 _ hb rfl)
    | 34, ho =>
      cases Option.some.inj ho
      have hG : A.tmps[63]? = some (.bool true) := gdb (show A.tmps.getD 63 undef = .bool true from hhas 30 _ rfl (hdep ⟨30, .guard⟩ (by simp) rfl) 63 rfl)
      have h8 : A.eval (.tmp 8) = .pointer (some ⟨w.heap.size, 0, none⟩) := (hkept 8 (fun j p hp _ => nd (by kernel_rfl) j p hp))
      have hg := (hJ.block _ (lt_of_block k8)).trans k8
      refine wpOp_step rfl (fun K hK => ?_)
      rw [if_pos (by simp [Region.wanted, yielded, hG])]
      refine wp_load_row 37 _ rfl _ h8 _ _ _ _ hg maskType rfl (maskSize _) ?_
      exact hK _ _ (fin _ 67 _ (Below.refl _ _) rfl)
    | 35, ho =>
      cases Option.some.inj ho
      have hG : A.tmps[63]? = some (.bool true) := gdb (show A.tmps.getD 63 undef = .bool true from hhas 30 _ rfl (hdep ⟨30, .guard⟩ (by simp) rfl) 63 rfl)
      have h9 : A.eval (.tmp 9) = .pointer (some ⟨w.heap.size + 1, 0, none⟩) := (hkept 9 (fun j p hp _ => nd (by kernel_rfl) j p hp))
      have hg := (hJ.block _ (lt_of_block k9)).trans k9
      refine wpOp_step rfl (fun K hK => ?_)
      rw [if_pos (by simp [Region.wanted, yielded, hG])]
      refine wp_load_row 37 _ rfl _ h9 _ _ _ _ hg maskType rfl (maskSize _) ?_
      exact hK _ _ (fin _ 68 _ (Below.refl _ _) rfl)
    | 36, ho =>
      cases Option.some.inj ho
      have hG : A.tmps[63]? = some (.bool true) := gdb (show A.tmps.getD 63 undef = .bool true from hhas 30 _ rfl (hdep ⟨30, .guard⟩ (by simp) rfl) 63 rfl)
      have h67 : A.tmps[67]?.getD undef = .agg (mv (f)) := (gd A 67).trans (show A.tmps.getD 67 undef = .agg (mv (f)) from hhas 34 _ rfl (hdep ⟨34, .data⟩ (by simp) rfl) 67 rfl)
      have h68 : A.tmps[68]?.getD undef = .agg (mv (g)) := (gd A 68).trans (show A.tmps.getD 68 undef = .agg (mv (g)) from hhas 35 _ rfl (hdep ⟨35, .data⟩ (by simp) rfl) 68 rfl)
      refine wpOp_step rfl (fun K hK => ?_)
      go_simp
      refine (both_ref f g _).mono ?_
      rintro e W' ⟨rfl, hb⟩
      exact hK _ _ (fin _ 69 _ hb rfl)
    | 37, ho =>
      cases Option.some.inj ho
      have hG : A.tmps[63]? = some (.bool true) := gdb (show A.tmps.getD 63 undef = .bool true from hhas 30 _ rfl (hdep ⟨30, .guard⟩ (by simp) rfl) 63 rfl)
      have h66 : A.tmps[66]?.getD undef = .agg (mv (fun i => (f i && g i) && decide (i < 1440))) := (gd A 66).trans (show A.tmps.getD 66 undef = .agg (mv (fun i => (f i && g i) && decide (i < 1440))) from hhas 33 _ rfl (hdep ⟨33, .data⟩ (by simp) rfl) 66 rfl)
      have h69 : A.tmps[69]?.getD undef = .agg (mv (fun i => (f i && g i) && decide (i < 1440))) := (gd A 69).trans (show A.tmps.getD 69 undef = .agg (mv (fun i => (f i && g i) && decide (i < 1440))) from hhas 36 _ rfl (hdep ⟨36, .data⟩ (by simp) rfl) 69 rfl)
      have he : ∀ w, (Op.equalIn 10000 37 (.agg (mv (fun i => (f i && g i) && decide (i < 1440)))) (.agg (mv (fun i => (f i && g i) && decide (i < 1440))))).run Tryd.prog w = .ok true w := fun w => by rw [eq_mask, eqm_refl]
      refine wpOp_step rfl (fun K hK => ?_)
      go_simp
      exact hK _ _ (fin _ 70 _ (Below.refl _ _) rfl)
    | 38, ho =>
      cases Option.some.inj ho
      have h63 : A.tmps[63]?.getD undef = .bool true := (gd A 63).trans (show A.tmps.getD 63 undef = .bool true from hhas 30 _ rfl (hdep ⟨30, .data⟩ (by simp) rfl) 63 rfl)
      have h70 : A.tmps[70]?.getD undef = .bool true := (gd A 70).trans (show A.tmps.getD 70 undef = .bool true from hhas 37 _ rfl (hdep ⟨37, .data⟩ (by simp) rfl) 70 rfl)
      refine wpOp_step rfl (fun K hK => ?_)
      go_simp
      exact hK _ _ (fin _ 71 _ (Below.refl _ _) rfl)
    | 39, ho =>
      cases Option.some.inj ho
      have h71 : A.tmps[71]?.getD undef = .bool true := (gd A 71).trans (show A.tmps.getD 71 undef = .bool true from hhas 38 _ rfl (hdep ⟨38, .data⟩ (by simp) rfl) 71 rfl)
      refine wpOp_step rfl (fun K hK => ?_)
      go_simp
      exact hK _ _ (fin _ 72 _ (Below.refl _ _) rfl)
    | 40, ho =>
      cases Option.some.inj ho
      have hG : A.tmps[72]? = some (.bool true) := gdb (show A.tmps.getD 72 undef = .bool true from hhas 39 _ rfl (hdep ⟨39, .guard⟩ (by simp) rfl) 72 rfl)
      have h8 : A.eval (.tmp 8) = .pointer (some ⟨w.heap.size, 0, none⟩) := (hkept 8 (fun j p hp _ => nd (by kernel_rfl) j p hp))
      have hg := (hJ.block _ (lt_of_block k8)).trans k8
      refine wpOp_step rfl (fun K hK => ?_)
      rw [if_pos (by simp [Region.wanted, yielded, hG])]
      refine wp_load_row 37 _ rfl _ h8 _ _ _ _ hg maskType rfl (maskSize _) ?_
      exact hK _ _ (fin _ 73 _ (Below.refl _ _) rfl)
    | 41, ho =>
      cases Option.some.inj ho
      have hG : A.tmps[72]? = some (.bool true) := gdb (show A.tmps.getD 72 undef = .bool true from hhas 39 _ rfl (hdep ⟨39, .guard⟩ (by simp) rfl) 72 rfl)
      have h3 : A.tmps[3]?.getD undef = .int .i64 (by_) := (gd A 3).trans (hkept 3 (fun j p hp _ => nd (by kernel_rfl) j p hp))
      refine wpOp_step rfl (fun K hK => ?_)
      go_simp
      exact hK _ _ (fin _ 74 _ (Below.refl _ _) rfl)
    | 42, ho =>
      cases Option.some.inj ho
      have hG : A.tmps[72]? = some (.bool true) := gdb (show A.tmps.getD 72 undef = .bool true from hhas 39 _ rfl (hdep ⟨39, .guard⟩ (by simp) rfl) 72 rfl)
      have h73 : A.tmps[73]?.getD undef = .agg (mv (f)) := (gd A 73).trans (show A.tmps.getD 73 undef = .agg (mv (f)) from hhas 40 _ rfl (hdep ⟨40, .data⟩ (by simp) rfl) 73 rfl)
      have h74 : A.tmps[74]?.getD undef = .int .i64 (by_) := (gd A 74).trans (show A.tmps.getD 74 undef = .int .i64 (by_) from hhas 41 _ rfl (hdep ⟨41, .data⟩ (by simp) rfl) 74 rfl)
      refine wpOp_step rfl (fun K hK => ?_)
      go_simp
      refine (shift_any f by_ _ hby.out.1 hby.out.2).mono ?_
      rintro e W' ⟨rfl, hb⟩
      exact hK _ _ (fin _ 75 _ hb rfl)
    | 43, ho =>
      cases Option.some.inj ho
      have hG : A.tmps[72]? = some (.bool true) := gdb (show A.tmps.getD 72 undef = .bool true from hhas 39 _ rfl (hdep ⟨39, .guard⟩ (by simp) rfl) 72 rfl)
      have h8 : A.eval (.tmp 8) = .pointer (some ⟨w.heap.size, 0, none⟩) := (hkept 8 (fun j p hp _ => nd (by kernel_rfl) j p hp))
      have hg := (hJ.block _ (lt_of_block k8)).trans k8
      refine wpOp_step rfl (fun K hK => ?_)
      rw [if_pos (by simp [Region.wanted, yielded, hG])]
      refine wp_load_row 37 _ rfl _ h8 _ _ _ _ hg maskType rfl (maskSize _) ?_
      exact hK _ _ (fin _ 76 _ (Below.refl _ _) rfl)
    | 44, ho =>
      cases Option.some.inj ho
      have hG : A.tmps[72]? = some (.bool true) := gdb (show A.tmps.getD 72 undef = .bool true from hhas 39 _ rfl (hdep ⟨39, .guard⟩ (by simp) rfl) 72 rfl)
      have h3 : A.tmps[3]?.getD undef = .int .i64 (by_) := (gd A 3).trans (hkept 3 (fun j p hp _ => nd (by kernel_rfl) j p hp))
      refine wpOp_step rfl (fun K hK => ?_)
      go_simp
      exact hK _ _ (fin _ 77 _ (Below.refl _ _) rfl)
    | 45, ho =>
      cases Option.some.inj ho
      have hG : A.tmps[72]? = some (.bool true) := gdb (show A.tmps.getD 72 undef = .bool true from hhas 39 _ rfl (hdep ⟨39, .guard⟩ (by simp) rfl) 72 rfl)
      have h76 : A.tmps[76]?.getD undef = .agg (mv (f)) := (gd A 76).trans (show A.tmps.getD 76 undef = .agg (mv (f)) from hhas 43 _ rfl (hdep ⟨43, .data⟩ (by simp) rfl) 76 rfl)
      have h77 : A.tmps[77]?.getD undef = .int .i64 (by_) := (gd A 77).trans (show A.tmps.getD 77 undef = .int .i64 (by_) from hhas 44 _ rfl (hdep ⟨44, .data⟩ (by simp) rfl) 77 rfl)
      refine wpOp_step rfl (fun K hK => ?_)
      go_simp
      refine (shift_ref f by_ _).mono ?_
      rintro e W' ⟨rfl, hb⟩
      exact hK _ _ (fin _ 78 _ hb rfl)
    | 46, ho =>
      cases Option.some.inj ho
      have hG : A.tmps[72]? = some (.bool true) := gdb (show A.tmps.getD 72 undef = .bool true from hhas 39 _ rfl (hdep ⟨39, .guard⟩ (by simp) rfl) 72 rfl)
      have h75 : A.tmps[75]?.getD undef = .agg (mv (shf f by_)) := (gd A 75).trans (show A.tmps.getD 75 undef = .agg (mv (shf f by_)) from hhas 42 _ rfl (hdep ⟨42, .data⟩ (by simp) rfl) 75 rfl)
      have h78 : A.tmps[78]?.getD undef = .agg (mv (shf f by_)) := (gd A 78).trans (show A.tmps.getD 78 undef = .agg (mv (shf f by_)) from hhas 45 _ rfl (hdep ⟨45, .data⟩ (by simp) rfl) 78 rfl)
      have he : ∀ w, (Op.equalIn 10000 37 (.agg (mv (shf f by_))) (.agg (mv (shf f by_)))).run Tryd.prog w = .ok true w := fun w => by rw [eq_mask, eqm_refl]
      refine wpOp_step rfl (fun K hK => ?_)
      go_simp
      exact hK _ _ (fin _ 79 _ (Below.refl _ _) rfl)
    | 47, ho =>
      cases Option.some.inj ho
      have h72 : A.tmps[72]?.getD undef = .bool true := (gd A 72).trans (show A.tmps.getD 72 undef = .bool true from hhas 39 _ rfl (hdep ⟨39, .data⟩ (by simp) rfl) 72 rfl)
      have h79 : A.tmps[79]?.getD undef = .bool true := (gd A 79).trans (show A.tmps.getD 79 undef = .bool true from hhas 46 _ rfl (hdep ⟨46, .data⟩ (by simp) rfl) 79 rfl)
      refine wpOp_step rfl (fun K hK => ?_)
      go_simp
      exact hK _ _ (fin _ 80 _ (Below.refl _ _) rfl)
    | 48, ho =>
      cases Option.some.inj ho
      have h80 : A.tmps[80]?.getD undef = .bool true := (gd A 80).trans (show A.tmps.getD 80 undef = .bool true from hhas 47 _ rfl (hdep ⟨47, .data⟩ (by simp) rfl) 80 rfl)
      refine wpOp_step rfl (fun K hK => ?_)
      go_simp
      exact hK _ _ (fin _ 81 _ (Below.refl _ _) rfl)
    | 49, ho =>
      cases Option.some.inj ho
      have hG : A.tmps[81]? = some (.bool true) := gdb (show A.tmps.getD 81 undef = .bool true from hhas 48 _ rfl (hdep ⟨48, .guard⟩ (by simp) rfl) 81 rfl)
      have h8 : A.eval (.tmp 8) = .pointer (some ⟨w.heap.size, 0, none⟩) := (hkept 8 (fun j p hp _ => nd (by kernel_rfl) j p hp))
      have hg := (hJ.block _ (lt_of_block k8)).trans k8
      refine wpOp_step rfl (fun K hK => ?_)
      rw [if_pos (by simp [Region.wanted, yielded, hG])]
      refine wp_load_row 37 _ rfl _ h8 _ _ _ _ hg maskType rfl (maskSize _) ?_
      exact hK _ _ (fin _ 82 _ (Below.refl _ _) rfl)
    | 50, ho =>
      cases Option.some.inj ho
      have hG : A.tmps[81]? = some (.bool true) := gdb (show A.tmps.getD 81 undef = .bool true from hhas 48 _ rfl (hdep ⟨48, .guard⟩ (by simp) rfl) 81 rfl)
      have h82 : A.tmps[82]?.getD undef = .agg (mv (f)) := (gd A 82).trans (show A.tmps.getD 82 undef = .agg (mv (f)) from hhas 49 _ rfl (hdep ⟨49, .data⟩ (by simp) rfl) 82 rfl)
      refine wpOp_step rfl (fun K hK => ?_)
      go_simp
      refine (count_any f _).mono ?_
      rintro e W' ⟨rfl, hb⟩
      exact hK _ _ (fin _ 83 _ hb rfl)
    | 51, ho =>
      cases Option.some.inj ho
      have hG : A.tmps[81]? = some (.bool true) := gdb (show A.tmps.getD 81 undef = .bool true from hhas 48 _ rfl (hdep ⟨48, .guard⟩ (by simp) rfl) 81 rfl)
      have h8 : A.eval (.tmp 8) = .pointer (some ⟨w.heap.size, 0, none⟩) := (hkept 8 (fun j p hp _ => nd (by kernel_rfl) j p hp))
      have hg := (hJ.block _ (lt_of_block k8)).trans k8
      refine wpOp_step rfl (fun K hK => ?_)
      rw [if_pos (by simp [Region.wanted, yielded, hG])]
      refine wp_load_row 37 _ rfl _ h8 _ _ _ _ hg maskType rfl (maskSize _) ?_
      exact hK _ _ (fin _ 84 _ (Below.refl _ _) rfl)
    | 52, ho =>
      cases Option.some.inj ho
      have hG : A.tmps[81]? = some (.bool true) := gdb (show A.tmps.getD 81 undef = .bool true from hhas 48 _ rfl (hdep ⟨48, .guard⟩ (by simp) rfl) 81 rfl)
      have h84 : A.tmps[84]?.getD undef = .agg (mv (f)) := (gd A 84).trans (show A.tmps.getD 84 undef = .agg (mv (f)) from hhas 51 _ rfl (hdep ⟨51, .data⟩ (by simp) rfl) 84 rfl)
      refine wpOp_step rfl (fun K hK => ?_)
      go_simp
      refine (count_ref f _).mono ?_
      rintro e W' ⟨rfl, hb⟩
      exact hK _ _ (fin _ 85 _ hb rfl)
    | 53, ho =>
      cases Option.some.inj ho
      have hG : A.tmps[81]? = some (.bool true) := gdb (show A.tmps.getD 81 undef = .bool true from hhas 48 _ rfl (hdep ⟨48, .guard⟩ (by simp) rfl) 81 rfl)
      have h83 : A.tmps[83]?.getD undef = .int .i64 (((cnt f 1440 : Nat) : Int)) := (gd A 83).trans (show A.tmps.getD 83 undef = .int .i64 (((cnt f 1440 : Nat) : Int)) from hhas 50 _ rfl (hdep ⟨50, .data⟩ (by simp) rfl) 83 rfl)
      have h85 : A.tmps[85]?.getD undef = .int .i64 (((cnt f 1440 : Nat) : Int)) := (gd A 85).trans (show A.tmps.getD 85 undef = .int .i64 (((cnt f 1440 : Nat) : Int)) from hhas 52 _ rfl (hdep ⟨52, .data⟩ (by simp) rfl) 85 rfl)
      refine wpOp_step rfl (fun K hK => ?_)
      go_simp
      exact hK _ _ (fin _ 86 _ (Below.refl _ _) rfl)
    | 54, ho =>
      cases Option.some.inj ho
      have h81 : A.tmps[81]?.getD undef = .bool true := (gd A 81).trans (show A.tmps.getD 81 undef = .bool true from hhas 48 _ rfl (hdep ⟨48, .data⟩ (by simp) rfl) 81 rfl)
      have h86 : A.tmps[86]?.getD undef = .bool true := (gd A 86).trans (show A.tmps.getD 86 undef = .bool true from hhas 53 _ rfl (hdep ⟨53, .data⟩ (by simp) rfl) 86 rfl)
      refine wpOp_step rfl (fun K hK => ?_)
      go_simp
      exact hK _ _ (fin _ 87 _ (Below.refl _ _) rfl)
    | 55, ho =>
      cases Option.some.inj ho
      have h87 : A.tmps[87]?.getD undef = .bool true := (gd A 87).trans (show A.tmps.getD 87 undef = .bool true from hhas 54 _ rfl (hdep ⟨54, .data⟩ (by simp) rfl) 87 rfl)
      refine wpOp_step rfl (fun K hK => ?_)
      go_simp
      exact hK _ _ (fin _ 88 _ (Below.refl _ _) rfl)
    | 56, ho =>
      cases Option.some.inj ho
      have hG : A.tmps[88]? = some (.bool true) := gdb (show A.tmps.getD 88 undef = .bool true from hhas 55 _ rfl (hdep ⟨55, .guard⟩ (by simp) rfl) 88 rfl)
      have h8 : A.eval (.tmp 8) = .pointer (some ⟨w.heap.size, 0, none⟩) := (hkept 8 (fun j p hp _ => nd (by kernel_rfl) j p hp))
      have hg := (hJ.block _ (lt_of_block k8)).trans k8
      refine wpOp_step rfl (fun K hK => ?_)
      rw [if_pos (by simp [Region.wanted, yielded, hG])]
      refine wp_load_row 37 _ rfl _ h8 _ _ _ _ hg maskType rfl (maskSize _) ?_
      exact hK _ _ (fin _ 89 _ (Below.refl _ _) rfl)
    | 57, ho =>
      cases Option.some.inj ho
      have hG : A.tmps[88]? = some (.bool true) := gdb (show A.tmps.getD 88 undef = .bool true from hhas 55 _ rfl (hdep ⟨55, .guard⟩ (by simp) rfl) 88 rfl)
      have h11 : A.eval (.tmp 11) = .pointer (some ⟨w.heap.size + 2, 0, none⟩) := (hkept 11 (fun j p hp _ => nd (by kernel_rfl) j p hp))
      have hg := (hJ.block _ (lt_of_block k11)).trans k11
      refine wpOp_step rfl (fun K hK => ?_)
      rw [if_pos (by simp [Region.wanted, yielded, hG])]
      refine wp_load_row 39 _ rfl _ h11 _ _ _ _ hg Tryd.underlying39 rfl (by kernel_rfl) ?_
      exact hK _ _ (fin _ 90 _ (Below.refl _ _) rfl)
    | 58, ho =>
      cases Option.some.inj ho
      have hG : A.tmps[88]? = some (.bool true) := gdb (show A.tmps.getD 88 undef = .bool true from hhas 55 _ rfl (hdep ⟨55, .guard⟩ (by simp) rfl) 88 rfl)
      have h89 : A.tmps[89]?.getD undef = .agg (mv (f)) := (gd A 89).trans (show A.tmps.getD 89 undef = .agg (mv (f)) from hhas 56 _ rfl (hdep ⟨56, .data⟩ (by simp) rfl) 89 rfl)
      have h90 : A.tmps[90]?.getD undef = .agg #[.int .i64 (sx), .int .i64 (sy)] := (gd A 90).trans (show A.tmps.getD 90 undef = .agg #[.int .i64 (sx), .int .i64 (sy)] from hhas 57 _ rfl (hdep ⟨57, .data⟩ (by simp) rfl) 90 rfl)
      refine wpOp_step rfl (fun K hK => ?_)
      go_simp
      refine (cH1 _).mono ?_
      rintro e W' ⟨rfl, hb⟩
      exact hK _ _ (fin _ 91 _ hb rfl)
    | 59, ho =>
      cases Option.some.inj ho
      have hG : A.tmps[88]? = some (.bool true) := gdb (show A.tmps.getD 88 undef = .bool true from hhas 55 _ rfl (hdep ⟨55, .guard⟩ (by simp) rfl) 88 rfl)
      have h8 : A.eval (.tmp 8) = .pointer (some ⟨w.heap.size, 0, none⟩) := (hkept 8 (fun j p hp _ => nd (by kernel_rfl) j p hp))
      have hg := (hJ.block _ (lt_of_block k8)).trans k8
      refine wpOp_step rfl (fun K hK => ?_)
      rw [if_pos (by simp [Region.wanted, yielded, hG])]
      refine wp_load_row 37 _ rfl _ h8 _ _ _ _ hg maskType rfl (maskSize _) ?_
      exact hK _ _ (fin _ 92 _ (Below.refl _ _) rfl)
    | 60, ho =>
      cases Option.some.inj ho
      have hG : A.tmps[88]? = some (.bool true) := gdb (show A.tmps.getD 88 undef = .bool true from hhas 55 _ rfl (hdep ⟨55, .guard⟩ (by simp) rfl) 88 rfl)
      have h11 : A.eval (.tmp 11) = .pointer (some ⟨w.heap.size + 2, 0, none⟩) := (hkept 11 (fun j p hp _ => nd (by kernel_rfl) j p hp))
      have hg := (hJ.block _ (lt_of_block k11)).trans k11
      refine wpOp_step rfl (fun K hK => ?_)
      rw [if_pos (by simp [Region.wanted, yielded, hG])]
      refine wp_load_row 39 _ rfl _ h11 _ _ _ _ hg Tryd.underlying39 rfl (by kernel_rfl) ?_
      exact hK _ _ (fin _ 93 _ (Below.refl _ _) rfl)
    | 61, ho =>
      cases Option.some.inj ho
      have hG : A.tmps[88]? = some (.bool true) := gdb (show A.tmps.getD 88 undef = .bool true from hhas 55 _ rfl (hdep ⟨55, .guard⟩ (by simp) rfl) 88 rfl)
      have h92 : A.tmps[92]?.getD undef = .agg (mv (f)) := (gd A 92).trans (show A.tmps.getD 92 undef = .agg (mv (f)) from hhas 59 _ rfl (hdep ⟨59, .data⟩ (by simp) rfl) 92 rfl)
      have h93 : A.tmps[93]?.getD undef = .agg #[.int .i64 (sx), .int .i64 (sy)] := (gd A 93).trans (show A.tmps.getD 93 undef = .agg #[.int .i64 (sx), .int .i64 (sy)] from hhas 60 _ rfl (hdep ⟨60, .data⟩ (by simp) rfl) 93 rfl)
      refine wpOp_step rfl (fun K hK => ?_)
      go_simp
      refine (cH2 _).mono ?_
      rintro e W' ⟨rfl, hb⟩
      exact hK _ _ (fin _ 94 _ hb rfl)
    | 62, ho =>
      cases Option.some.inj ho
      have hG : A.tmps[88]? = some (.bool true) := gdb (show A.tmps.getD 88 undef = .bool true from hhas 55 _ rfl (hdep ⟨55, .guard⟩ (by simp) rfl) 88 rfl)
      have h91 : A.tmps[91]?.getD undef = .bool hh := (gd A 91).trans (show A.tmps.getD 91 undef = .bool hh from hhas 58 _ rfl (hdep ⟨58, .data⟩ (by simp) rfl) 91 rfl)
      have h94 : A.tmps[94]?.getD undef = .bool hh := (gd A 94).trans (show A.tmps.getD 94 undef = .bool hh from hhas 61 _ rfl (hdep ⟨61, .data⟩ (by simp) rfl) 94 rfl)
      refine wpOp_step rfl (fun K hK => ?_)
      go_simp
      exact hK _ _ (fin _ 95 _ (Below.refl _ _) rfl)
    | 63, ho =>
      cases Option.some.inj ho
      have h88 : A.tmps[88]?.getD undef = .bool true := (gd A 88).trans (show A.tmps.getD 88 undef = .bool true from hhas 55 _ rfl (hdep ⟨55, .data⟩ (by simp) rfl) 88 rfl)
      have h95 : A.tmps[95]?.getD undef = .bool true := (gd A 95).trans (show A.tmps.getD 95 undef = .bool true from hhas 62 _ rfl (hdep ⟨62, .data⟩ (by simp) rfl) 95 rfl)
      refine wpOp_step rfl (fun K hK => ?_)
      go_simp
      exact hK _ _ (fin _ 96 _ (Below.refl _ _) rfl)
    | 64, ho =>
      cases Option.some.inj ho
      have h96 : A.tmps[96]?.getD undef = .bool true := (gd A 96).trans (show A.tmps.getD 96 undef = .bool true from hhas 63 _ rfl (hdep ⟨63, .data⟩ (by simp) rfl) 96 rfl)
      refine wpOp_step rfl (fun K hK => ?_)
      go_simp
      exact hK _ _ (fin _ 97 _ (Below.refl _ _) rfl)
    | 65, ho =>
      cases Option.some.inj ho
      have hG : A.tmps[97]? = some (.bool true) := gdb (show A.tmps.getD 97 undef = .bool true from hhas 64 _ rfl (hdep ⟨64, .guard⟩ (by simp) rfl) 97 rfl)
      have h15 : A.tmps[15]?.getD undef = .int .i64 (vn) := (gd A 15).trans (hkept 15 (fun j p hp _ => nd (by kernel_rfl) j p hp))
      refine wpOp_step rfl (fun K hK => ?_)
      go_simp
      exact hK _ _ (fin _ 98 _ (Below.refl _ _) rfl)
    | 66, ho =>
      cases Option.some.inj ho
      have hG : A.tmps[97]? = some (.bool true) := gdb (show A.tmps.getD 97 undef = .bool true from hhas 64 _ rfl (hdep ⟨64, .guard⟩ (by simp) rfl) 97 rfl)
      have h17 : A.tmps[17]?.getD undef = .int .i64 (vn) := (gd A 17).trans (hkept 17 (fun j p hp _ => nd (by kernel_rfl) j p hp))
      refine wpOp_step rfl (fun K hK => ?_)
      go_simp
      exact hK _ _ (fin _ 99 _ (Below.refl _ _) rfl)
    | 67, ho =>
      cases Option.some.inj ho
      have hG : A.tmps[97]? = some (.bool true) := gdb (show A.tmps.getD 97 undef = .bool true from hhas 64 _ rfl (hdep ⟨64, .guard⟩ (by simp) rfl) 97 rfl)
      have h98 : A.tmps[98]?.getD undef = .int .i64 (vn) := (gd A 98).trans (show A.tmps.getD 98 undef = .int .i64 (vn) from hhas 65 _ rfl (hdep ⟨65, .data⟩ (by simp) rfl) 98 rfl)
      have h99 : A.tmps[99]?.getD undef = .int .i64 (vn) := (gd A 99).trans (show A.tmps.getD 99 undef = .int .i64 (vn) from hhas 66 _ rfl (hdep ⟨66, .data⟩ (by simp) rfl) 99 rfl)
      refine wpOp_step rfl (fun K hK => ?_)
      go_simp
      exact hK _ _ (fin _ 100 _ (Below.refl _ _) rfl)
    | 68, ho =>
      cases Option.some.inj ho
      have h97 : A.tmps[97]?.getD undef = .bool true := (gd A 97).trans (show A.tmps.getD 97 undef = .bool true from hhas 64 _ rfl (hdep ⟨64, .data⟩ (by simp) rfl) 97 rfl)
      have h100 : A.tmps[100]?.getD undef = .bool true := (gd A 100).trans (show A.tmps.getD 100 undef = .bool true from hhas 67 _ rfl (hdep ⟨67, .data⟩ (by simp) rfl) 100 rfl)
      refine wpOp_step rfl (fun K hK => ?_)
      go_simp
      exact hK _ _ (fin _ 101 _ (Below.refl _ _) rfl)
    | 69, ho =>
      cases Option.some.inj ho
      have h101 : A.tmps[101]?.getD undef = .bool true := (gd A 101).trans (show A.tmps.getD 101 undef = .bool true from hhas 68 _ rfl (hdep ⟨68, .data⟩ (by simp) rfl) 101 rfl)
      refine wpOp_step rfl (fun K hK => ?_)
      go_simp
      exact hK _ _ (fin _ 102 _ (Below.refl _ _) rfl)
    | 70, ho =>
      cases Option.some.inj ho
      have hG : A.tmps[102]? = some (.bool true) := gdb (show A.tmps.getD 102 undef = .bool true from hhas 69 _ rfl (hdep ⟨69, .guard⟩ (by simp) rfl) 102 rfl)
      have h16 : A.tmps[16]?.getD undef = .bool ok := (gd A 16).trans (hkept 16 (fun j p hp _ => nd (by kernel_rfl) j p hp))
      refine wpOp_step rfl (fun K hK => ?_)
      go_simp
      exact hK _ _ (fin _ 103 _ (Below.refl _ _) rfl)
    | 71, ho =>
      cases Option.some.inj ho
      have hG : A.tmps[102]? = some (.bool true) := gdb (show A.tmps.getD 102 undef = .bool true from hhas 69 _ rfl (hdep ⟨69, .guard⟩ (by simp) rfl) 102 rfl)
      have h18 : A.tmps[18]?.getD undef = .bool ok := (gd A 18).trans (hkept 18 (fun j p hp _ => nd (by kernel_rfl) j p hp))
      refine wpOp_step rfl (fun K hK => ?_)
      go_simp
      exact hK _ _ (fin _ 104 _ (Below.refl _ _) rfl)
    | 72, ho =>
      cases Option.some.inj ho
      have hG : A.tmps[102]? = some (.bool true) := gdb (show A.tmps.getD 102 undef = .bool true from hhas 69 _ rfl (hdep ⟨69, .guard⟩ (by simp) rfl) 102 rfl)
      have h103 : A.tmps[103]?.getD undef = .bool ok := (gd A 103).trans (show A.tmps.getD 103 undef = .bool ok from hhas 70 _ rfl (hdep ⟨70, .data⟩ (by simp) rfl) 103 rfl)
      have h104 : A.tmps[104]?.getD undef = .bool ok := (gd A 104).trans (show A.tmps.getD 104 undef = .bool ok from hhas 71 _ rfl (hdep ⟨71, .data⟩ (by simp) rfl) 104 rfl)
      refine wpOp_step rfl (fun K hK => ?_)
      go_simp
      exact hK _ _ (fin _ 105 _ (Below.refl _ _) rfl)
    | 73, ho =>
      cases Option.some.inj ho
      have h102 : A.tmps[102]?.getD undef = .bool true := (gd A 102).trans (show A.tmps.getD 102 undef = .bool true from hhas 69 _ rfl (hdep ⟨69, .data⟩ (by simp) rfl) 102 rfl)
      have h105 : A.tmps[105]?.getD undef = .bool true := (gd A 105).trans (show A.tmps.getD 105 undef = .bool true from hhas 72 _ rfl (hdep ⟨72, .data⟩ (by simp) rfl) 105 rfl)
      refine wpOp_step rfl (fun K hK => ?_)
      go_simp
      exact hK _ _ (fin _ 106 _ (Below.refl _ _) rfl)
    | 74, ho =>
      cases Option.some.inj ho
      have h106 : A.tmps[106]?.getD undef = .bool true := (gd A 106).trans (show A.tmps.getD 106 undef = .bool true from hhas 73 _ rfl (hdep ⟨73, .data⟩ (by simp) rfl) 106 rfl)
      refine wpOp_step rfl (fun K hK => ?_)
      go_simp
      exact hK _ _ (fin _ 14 _ (Below.refl _ _) rfl)
    | k + 75, ho => simp at ho
  · intro L A W9 hL hJ hdef hsize hkept hhas
    have h14 : A.tmps[14]?.getD undef = .bool true := (gd A 14).trans (show A.tmps.getD 14 undef = .bool true from hhas 74 _ rfl 14 rfl)
    have hbw9 := hbw2.trans (hJ.mono hbw2.size)
    clear hL hkept hhas hsize hz
    go_wp2
    refine bodyPost_ret (v := .bool true) ?_ hdef ⟨rfl, hbw9⟩
    simp [results, Tryd.results7, h14]
end Go.Proofs.YtemdkpjdbciemaaDoor
