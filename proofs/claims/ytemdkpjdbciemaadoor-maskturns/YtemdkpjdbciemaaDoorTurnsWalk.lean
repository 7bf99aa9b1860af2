/- The law MaskTurns, walked out of the contracts. -/
import Derived.Test.YtemdkpjdbciemaaDoorTurnsFacts
import Derived.Test.YtemdkpjdbciemaaDoorSameA
import Derived.Test.YtemdkpjdbciemaaDoorLists
namespace Go.Proofs.YtemdkpjdbciemaaDoor
open Go.RowKit Msk

/-- So many values, one by one. -/
structure Fr68 (l : List Value) where
  (u0 u1 u2 u3 u4 u5 u6 u7 u8 u9 u10 u11 u12 u13 u14 u15 u16 u17 u18 u19 u20 u21 u22 u23 u24 u25 u26 u27 u28 u29 u30 u31 u32 u33 u34 u35 u36 u37 u38 u39 u40 u41 u42 u43 u44 u45 u46 u47 u48 u49 u50 u51 u52 u53 u54 u55 u56 u57 u58 u59 u60 u61 u62 u63 u64 u65 u66 u67 : Value)
  eq : l = [u0, u1, u2, u3, u4, u5, u6, u7, u8, u9, u10, u11, u12, u13, u14, u15, u16, u17, u18, u19, u20, u21, u22, u23, u24, u25, u26, u27, u28, u29, u30, u31, u32, u33, u34, u35, u36, u37, u38, u39, u40, u41, u42, u43, u44, u45, u46, u47, u48, u49, u50, u51, u52, u53, u54, u55, u56, u57, u58, u59, u60, u61, u62, u63, u64, u65, u66, u67]
set_option maxRecDepth 100000 in
theorem fr68 (l : List Value) (hl : l.length = 68) : Nonempty (Fr68 l) := allL 68 (fun l => Nonempty (Fr68 l)) (fun u0 u1 u2 u3 u4 u5 u6 u7 u8 u9 u10 u11 u12 u13 u14 u15 u16 u17 u18 u19 u20 u21 u22 u23 u24 u25 u26 u27 u28 u29 u30 u31 u32 u33 u34 u35 u36 u37 u38 u39 u40 u41 u42 u43 u44 u45 u46 u47 u48 u49 u50 u51 u52 u53 u54 u55 u56 u57 u58 u59 u60 u61 u62 u63 u64 u65 u66 u67 => ⟨⟨u0, u1, u2, u3, u4, u5, u6, u7, u8, u9, u10, u11, u12, u13, u14, u15, u16, u17, u18, u19, u20, u21, u22, u23, u24, u25, u26, u27, u28, u29, u30, u31, u32, u33, u34, u35, u36, u37, u38, u39, u40, u41, u42, u43, u44, u45, u46, u47, u48, u49, u50, u51, u52, u53, u54, u55, u56, u57, u58, u59, u60, u61, u62, u63, u64, u65, u66, u67, rfl⟩⟩) l hl
def sp4 (f : Nat → Bool) (i : Nat) (v : Value) (W : World) : Prop := match i with
  | 0 => Row W v (rs f 1440)
  | 1 => v = .agg (mv (inl (rs f 1440)))
  | 2 => v = .agg (mv (f))
  | 3 => v = .agg (mv (fun i => decide (i < 1440)))
  | 4 => v = .agg (mv (cutd f))
  | 5 => v = .bool false
  | _ => True
theorem sp4_mono {f : Nat → Bool} {W W' : World} (hb : Below W.heap.size W W') (i : Nat) (v : Value) (h : sp4 f i v W) : sp4 f i v W' := by
  unfold sp4 at *
  split at h
  all_goals first | exact h | exact h.later hb
def sp17 (f : Nat → Bool) (L0 : Sps) (i : Nat) (v : Value) (W : World) : Prop := match i with
  | 0 => v = .int .i64 (((cnt f 1440 : Nat) : Int))
  | 1 => v = .agg (mv (f))
  | 2 => v = .int .i64 (((cnt f 1440 : Nat) : Int))
  | 3 => v = .bool true
  | 4 => v = .bool true
  | 5 => v = .agg (mv (inl L0))
  | 6 => Row W v (rs (inl L0) 1440)
  | 7 => v = .agg (mv (inl (rs (inl L0) 1440)))
  | 8 => Row W v (rs (inl L0) 1440)
  | 9 => v = .agg (mv (inl L0))
  | 10 => Row W v (rs (inl L0) 1440)
  | 11 => v = .bool true
  | 12 => v = .bool true
  | 13 => v = .bool true
  | _ => True
theorem sp17_mono {f : Nat → Bool} {L0 : Sps} {W W' : World} (hb : Below W.heap.size W W') (i : Nat) (v : Value) (h : sp17 f L0 i v W) : sp17 f L0 i v W' := by
  unfold sp17 at *
  split at h
  all_goals first | exact h | exact h.later hb

set_option maxRecDepth 10000 in
set_option maxHeartbeats 4000000 in
theorem turns_walk (v0 : Value) (L0 : List (Int × Int)) (f : Nat → Bool) (w : World) (hR : Row w v0 L0) (hT : Tab w) :
    Calls Tryd.prog 8 #[v0, .agg (mv f)] w fun e w' => e = .returned (.bool true) ∧ Below w.heap.size w w' := by
  have hz := mv_lit
  have hb0 : Below w.heap.size w (w.alloc (.cells (mv f) 37)) := (Below.refl _ _).alloc (Nat.le_refl _) _
  have h0 : (w.alloc (.cells (mv f) 37)).heap[w.heap.size]? = some (.cells (mv f) 37 (0, 0)) := by (repeat (first | refine blk_old _ _ _ (by simp only [size_alloc]; omega) ?_ | exact blk_new _ _ _ (by first | rfl | simp only [size_alloc])))
  have cA := alive_any _ (hT.later hb0)
  have HRL : Hid (Runs (inl L0) 1440 (rs (inl L0) 1440)) := runs_rs _
  go_enter Tryd.func8, Tryd.ntmps8
  go_wp2_with (first
    | (go_at_call 39; refine cA.mono ?_; rintro e w1 ⟨rfl, hb1⟩; have k31 := (hb1.block _ (lt_of_block h0)).trans h0; have hbw1 := hb0.trans (hb1.mono hb0.size); clear cA hb1 h0 hb0)
    | (refine wpList_load_row rfl 37 _ rfl _ rfl _ _ _ _ k31 maskType rfl (maskSize _) ?_)
    | (go_at_call 25; refine (spans_any f _ (hT.later hbw1)).mono ?_; rintro e w2 ⟨⟨v5, rfl, hr5⟩, hruns0, hb2⟩; have hruns : Hid (Runs f 1440 (rs f 1440)) := hruns0; have k3 := (hb2.block _ (lt_of_block k31)).trans k31; have hbw2 := hbw1.trans (hb2.mono hbw1.size); clear hruns0 hb2 hbw1 k31))
  refine wp_region_flow (by kernel_rfl) (by kernel_rfl) (by kernel_rfl) (by kernel_rfl) (fun _ _ W => Below w2.heap.size w2 W) (sp4 f) ?_ ?_ ?_
  · intro L hL
    exact (Below.refl _ _).drew
  · intro i o L A W ho hLi hdep hJ hdef hkept hhas
    clear hdef hLi
    have fin : ∀ (v : Value) (ds : Nat) (W' : World), Below W.heap.size W W' → sp4 f i v W' → ∃ u, A.put (some ds) v = A.put (some ds) u ∧ (some ds ≠ none → sp4 f i u W') ∧ (∀ j x', L j = true → sp4 f j x' W → sp4 f j x' W') ∧ Below w2.heap.size w2 W' := by
      intro v ds W' hb hv
      exact ⟨v, rfl, fun _ => hv, fun j x' _ h => sp4_mono hb j x' h, hJ.trans (hb.mono hJ.size)⟩
    match i, ho with
    | 0, ho =>
      cases Option.some.inj ho
      have h5 : A.tmps[5]?.getD undef = v5 := (gd A 5).trans (hkept 5 (fun j p hp _ => nd (by kernel_rfl) j p hp)); have r5 := hr5.later hJ
      refine wpOp_step rfl (fun K hK => ?_)
      go_simp
      exact hK _ _ (fin _ 15 _ (Below.refl _ _) r5)
    | 1, ho =>
      cases Option.some.inj ho
      obtain ⟨v15, h15, r15⟩ : ∃ v, A.tmps[15]?.getD undef = v ∧ Row W v (rs f 1440) := ⟨_, gd A 15, hhas 0 _ rfl (hdep ⟨0, .data⟩ (by simp) rfl) 15 rfl⟩
      refine wpOp_step rfl (fun K hK => ?_)
      go_simp
      refine (of_any v15 _ _ r15).mono ?_
      rintro e W' ⟨rfl, hb⟩
      exact hK _ _ (fin _ 16 _ hb rfl)
    | 2, ho =>
      cases Option.some.inj ho
      have h3 : A.eval (.tmp 3) = .pointer (some ⟨w.heap.size, 0, none⟩) := (hkept 3 (fun j p hp _ => nd (by kernel_rfl) j p hp))
      have hg := (hJ.block _ (lt_of_block k3)).trans k3
      refine wpOp_step rfl (fun K hK => ?_)
      show Oper.wp _ _ _ _ _ _
      refine wp_load_row 37 _ rfl _ h3 _ _ _ _ hg maskType rfl (maskSize _) ?_
      exact hK _ _ (fin _ 17 _ (Below.refl _ _) rfl)
    | 3, ho =>
      cases Option.some.inj ho
      refine wpOp_step rfl (fun K hK => ?_)
      go_simp
      refine (all_any _).mono ?_
      rintro e W' ⟨rfl, hb⟩
      exact hK _ _ (fin _ 18 _ hb rfl)
    | 4, ho =>
      cases Option.some.inj ho
      have h17 : A.tmps[17]?.getD undef = .agg (mv (f)) := (gd A 17).trans (show A.tmps.getD 17 undef = .agg (mv (f)) from hhas 2 _ rfl (hdep ⟨2, .data⟩ (by simp) rfl) 17 rfl)
      have h18 : A.tmps[18]?.getD undef = .agg (mv (fun i => decide (i < 1440))) := (gd A 18).trans (show A.tmps.getD 18 undef = .agg (mv (fun i => decide (i < 1440))) from hhas 3 _ rfl (hdep ⟨3, .data⟩ (by simp) rfl) 18 rfl)
      refine wpOp_step rfl (fun K hK => ?_)
      go_simp
      refine (cut_any f _).mono ?_
      rintro e W' ⟨rfl, hb⟩
      exact hK _ _ (fin _ 19 _ hb rfl)
    | 5, ho =>
      cases Option.some.inj ho
      have h16 : A.tmps[16]?.getD undef = .agg (mv (inl (rs f 1440))) := (gd A 16).trans (show A.tmps.getD 16 undef = .agg (mv (inl (rs f 1440))) from hhas 1 _ rfl (hdep ⟨1, .data⟩ (by simp) rfl) 16 rfl)
      have h19 : A.tmps[19]?.getD undef = .agg (mv (cutd f)) := (gd A 19).trans (show A.tmps.getD 19 undef = .agg (mv (cutd f)) from hhas 4 _ rfl (hdep ⟨4, .data⟩ (by simp) rfl) 19 rfl)
      have he : ∀ w, (Op.equalIn 10000 37 (.agg (mv (inl (rs f 1440)))) (.agg (mv (cutd f)))).run Tryd.prog w = .ok true w := fun w => by rw [eq_mask, t_back hruns.out]
      refine wpOp_step rfl (fun K hK => ?_)
      go_simp
      exact hK _ _ (fin _ 20 _ (Below.refl _ _) rfl)
    | k + 6, ho => simp at ho
  · intro L A w3 hL hJ hdef hsize hkept hhas
    obtain ⟨t, d⟩ := A
    have hd : d = [] := hdef
    subst hd
    clear hdef
    obtain ⟨l, rfl⟩ : ∃ l : List Value, t = l.toArray := ⟨t.toList, by simp⟩
    have hl : l.length = 68 := by
      have h : l.toArray.size = 68 := hsize
      simpa using h
    obtain ⟨⟨u0, u1, u2, u3, u4, u5, u6, u7, u8, u9, u10, u11, u12, u13, u14, u15, u16, u17, u18, u19, u20, u21, u22, u23, u24, u25, u26, u27, u28, u29, u30, u31, u32, u33, u34, u35, u36, u37, u38, u39, u40, u41, u42, u43, u44, u45, u46, u47, u48, u49, u50, u51, u52, u53, u54, u55, u56, u57, u58, u59, u60, u61, u62, u63, u64, u65, u66, u67, rfl⟩⟩ := fr68 l hl
    have e0 : v0 = u0 := (hkept 0 (nd (by kernel_rfl))).symm
    have e3 : u3 = .pointer (some ⟨w.heap.size, 0, none⟩) := hkept 3 (nd (by kernel_rfl))
    have e4 : u4 = .bool false := hkept 4 (nd (by kernel_rfl))
    have e5 : v5 = u5 := (hkept 5 (nd (by kernel_rfl))).symm
    have e20 : u20 = .bool false := hhas 5 _ rfl 20 rfl
    subst e0 e3 e4 e5 e20
    have k33 := (hJ.block _ (lt_of_block k3)).trans k3
    have hr53 := hr5.later hJ
    have hbw3 := hbw2.trans (hJ.mono hbw2.size)
    clear hL hsize hkept hhas hl hJ k3 hr5 hbw2
    obtain ⟨p, c, rfl⟩ := hr53.form
    go_wp2
    have hlen : (rs f 1440).length ≤ 1440 := hruns.out.few
    have HR5 : Hid (Row w3 (.slice p (rs f 1440).length c) (rs f 1440)) := hr53
    clear hr53
    generalize hl : rs f 1440 = l at *
    go_loopw [6, 7, 23] (fun la n i wr => ∃ k : Nat, k ≤ l.length ∧ i = .int .i64 k ∧ la = .int .i64 (endOf (-1) (l.take k)) ∧ n = .int .i64 (len (l.take k)) ∧ Below w3.heap.size w3 wr) (fun _ _ i _ => l.length - (intOf i).toNat)
    case atStart => exact ⟨0, Nat.zero_le _, rfl, rfl, rfl, Below.refl _ _⟩
    case round =>
      obtain ⟨k, hk, rfl, rfl, rfl, hbel⟩ := hrel
      by_cases hlt : k < l.length
      · rcases HR5.out with ⟨_, _, h⟩ | ⟨g, o, c', e, _, hc⟩
        · rw [h] at hlt; simp at hlt
        obtain ⟨c1, c2⟩ := hc k hlt
        have ep : p = some ⟨g, o, none⟩ := by injection e
        subst ep
        have d1 := (hbel.cell (block_lt_of_cell c1)).trans c1
        have d2 := (hbel.cell (block_lt_of_cell c2)).trans c2
        generalize hs : l.getD k (0, 0) = s at d1 d2
        obtain ⟨x, y⟩ := s
        dsimp only at d1 d2
        obtain ⟨⟨t1, t2, t3⟩, ⟨t4, t5, t6⟩, t7, t8⟩ := t_round hruns.out k hlt x y hs
        have T7 : Hid (endOf (-1) (l.take (k + 1)) = y) := t7
        have T8 : Hid (len (l.take (k + 1)) = len (l.take k) + y - x) := t8
        generalize endOf (-1) (l.take k) = la at *
        generalize len (l.take k) = n at *
        have q1 : IntKind.i64.wrap (n + y) = n + y := by rw [IntKind.wrap_i64]; omega
        have q2 : IntKind.i64.wrap (n + y - x) = n + y - x := by rw [IntKind.wrap_i64]; omega
        have hb2 := hbel.alloc hbel.size (.cells #[.int .i64 x, .int .i64 y] 39)
        clear c1 c2 hc e hs t7 t8 HR5
        go_wp2
        go_roundw
        case rel => exact ⟨k + 1, by omega, by go_num, by rw [T7.out], by rw [T8.out], hb2⟩
        case measure => simp [intOf]; omega
      · have hkl : k = l.length := by omega
        subst hkl
        have hmany : len (l.take l.length) = ((cnt f 1440 : Nat) : Int) := by rw [List.take_length]; exact hruns.out.many
        rw [hmany]
        generalize endOf (-1) (l.take l.length) = la
        have k3r := (hbel.block _ (lt_of_block k33)).trans k33
        have hbwr := hbw3.trans (hbel.mono hbw3.size)
        have hRr := hR.later hbwr
        clear hmany hlt hk hbel k33 hbw3 HR5
        go_wp2_with (first
          | (go_at_call 22; refine (of_any v0 L0 _ hRr).mono ?_; rintro e w4 ⟨rfl, hb4⟩; have k3s := (hb4.block _ (lt_of_block k3r)).trans k3r; have l3 := lt_of_block k3s; have k3t := blk_old _ (.cells (mv fun _ => false) 37) _ l3 k3s; have hbw4 := hbwr.trans (hb4.mono hbwr.size); have hk1 := heap_alloc_new w4 (.cells (mv fun _ => false) 37 (0, 0)); clear hb4 k3r k3s hbwr)
          | (refine wpList_store_row rfl 37 _ _ rfl _ _ rfl rfl _ _ hk1 (maskSize _) (by simp [mv_size]) (mv_all _) ?_; have k10 := setRow_heap _ _ _ (mv (inl L0)) _ _ hk1; have k3 := (setRow_other _ w4.heap.size _ (mv (inl L0)) (Nat.ne_of_lt l3)).trans k3t; have hbw5 : Below w.heap.size w ((w4.alloc (.cells (mv fun _ => false) 37)).setRow w4.heap.size (mv (inl L0))) := below_setRow (hbw4.alloc hbw4.size _) hbw4.size _; generalize ((w4.alloc (.cells (mv fun _ => false) 37)).setRow w4.heap.size (mv (inl L0))) = w5 at *; clear hk1 hbw4 k3t l3; generalize w4.heap.size = g10 at *))
        have hT2 := hT.later hbw5
        have cS1 : ∀ w, Tab w → Calls Tryd.prog 25 #[.agg (mv (inl L0))] w fun e w' => (∃ v, e = .returned v ∧ Row w' v (rs (inl L0) 1440)) ∧ Below w.heap.size w w' := fun w hT => (spans_any (inl L0) w hT).mono fun e w' h => ⟨h.1, h.2.2⟩
        have cS2 : ∀ w, Tab w → Calls Tryd.prog 25 #[.agg (mv (inl (rs (inl L0) 1440)))] w fun e w' => (∃ v, e = .returned v ∧ Row w' v (rs (inl L0) 1440)) ∧ Below w.heap.size w w' := fun w hT => by
          have hh : Runs (inl L0) 1440 (rs (inl L0) 1440) := HRL.out
          have q := spans_any (inl (rs (inl L0) 1440)) w hT
          rw [t_again hh] at q
          exact q.mono fun e w' h => ⟨h.1, h.2.2⟩
        refine wp_region_flow (by kernel_rfl) (by kernel_rfl) (by kernel_rfl) (by kernel_rfl) (fun _ _ W => Below w5.heap.size w5 W) (sp17 f L0) ?_ ?_ ?_
        · intro L hL
          exact (Below.refl _ _).drew
        · intro i o L A W ho hLi hdep hJ hdef hkept hhas
          clear hdef hLi
          have fin : ∀ (v : Value) (ds : Nat) (W' : World), Below W.heap.size W W' → sp17 f L0 i v W' → ∃ u, A.put (some ds) v = A.put (some ds) u ∧ (some ds ≠ none → sp17 f L0 i u W') ∧ (∀ j x', L j = true → sp17 f L0 j x' W → sp17 f L0 j x' W') ∧ Below w5.heap.size w5 W' := by
            intro v ds W' hb hv
            exact ⟨v, rfl, fun _ => hv, fun j x' _ h => sp17_mono hb j x' h, hJ.trans (hb.mono hJ.size)⟩
          match i, ho with
          | 0, ho =>
            cases Option.some.inj ho
            have h7 : A.tmps[7]?.getD undef = .int .i64 (((cnt f 1440 : Nat) : Int)) := (gd A 7).trans (hkept 7 (fun j p hp _ => nd (by kernel_rfl) j p hp))
            refine wpOp_step rfl (fun K hK => ?_)
            go_simp
            exact hK _ _ (fin _ 55 _ (Below.refl _ _) rfl)
          | 1, ho =>
            cases Option.some.inj ho
            have h3 : A.eval (.tmp 3) = .pointer (some ⟨w.heap.size, 0, none⟩) := (hkept 3 (fun j p hp _ => nd (by kernel_rfl) j p hp))
            have hg := (hJ.block _ (lt_of_block k3)).trans k3
            refine wpOp_step rfl (fun K hK => ?_)
            show Oper.wp _ _ _ _ _ _
            refine wp_load_row 37 _ rfl _ h3 _ _ _ _ hg maskType rfl (maskSize _) ?_
            exact hK _ _ (fin _ 56 _ (Below.refl _ _) rfl)
          | 2, ho =>
            cases Option.some.inj ho
            have h56 : A.tmps[56]?.getD undef = .agg (mv (f)) := (gd A 56).trans (show A.tmps.getD 56 undef = .agg (mv (f)) from hhas 1 _ rfl (hdep ⟨1, .data⟩ (by simp) rfl) 56 rfl)
            refine wpOp_step rfl (fun K hK => ?_)
            go_simp
            refine (count_any f _).mono ?_
            rintro e W' ⟨rfl, hb⟩
            exact hK _ _ (fin _ 57 _ hb rfl)
          | 3, ho =>
            cases Option.some.inj ho
            have h55 : A.tmps[55]?.getD undef = .int .i64 (((cnt f 1440 : Nat) : Int)) := (gd A 55).trans (show A.tmps.getD 55 undef = .int .i64 (((cnt f 1440 : Nat) : Int)) from hhas 0 _ rfl (hdep ⟨0, .data⟩ (by simp) rfl) 55 rfl)
            have h57 : A.tmps[57]?.getD undef = .int .i64 (((cnt f 1440 : Nat) : Int)) := (gd A 57).trans (show A.tmps.getD 57 undef = .int .i64 (((cnt f 1440 : Nat) : Int)) from hhas 2 _ rfl (hdep ⟨2, .data⟩ (by simp) rfl) 57 rfl)
            refine wpOp_step rfl (fun K hK => ?_)
            go_simp
            exact hK _ _ (fin _ 58 _ (Below.refl _ _) rfl)
          | 4, ho =>
            cases Option.some.inj ho
            have h58 : A.tmps[58]?.getD undef = .bool true := (gd A 58).trans (show A.tmps.getD 58 undef = .bool true from hhas 3 _ rfl (hdep ⟨3, .data⟩ (by simp) rfl) 58 rfl)
            refine wpOp_step rfl (fun K hK => ?_)
            go_simp
            exact hK _ _ (fin _ 59 _ (Below.refl _ _) rfl)
          | 5, ho =>
            cases Option.some.inj ho
            have hG : A.tmps[59]? = some (.bool true) := gdb (show A.tmps.getD 59 undef = .bool true from hhas 4 _ rfl (hdep ⟨4, .guard⟩ (by simp) rfl) 59 rfl)
            have h10 : A.eval (.tmp 10) = .pointer (some ⟨g10, 0, none⟩) := (hkept 10 (fun j p hp _ => nd (by kernel_rfl) j p hp))
            have hg := (hJ.block _ (lt_of_block k10)).trans k10
            refine wpOp_step rfl (fun K hK => ?_)
            rw [if_pos (by simp [Region.wanted, yielded, hG])]
            refine wp_load_row 37 _ rfl _ h10 _ _ _ _ hg maskType rfl (maskSize _) ?_
            exact hK _ _ (fin _ 60 _ (Below.refl _ _) rfl)
          | 6, ho =>
            cases Option.some.inj ho
            have hG : A.tmps[59]? = some (.bool true) := gdb (show A.tmps.getD 59 undef = .bool true from hhas 4 _ rfl (hdep ⟨4, .guard⟩ (by simp) rfl) 59 rfl)
            have h60 : A.tmps[60]?.getD undef = .agg (mv (inl L0)) := (gd A 60).trans (show A.tmps.getD 60 undef = .agg (mv (inl L0)) from hhas 5 _ rfl (hdep ⟨5, .data⟩ (by simp) rfl) 60 rfl)
            refine wpOp_step rfl (fun K hK => ?_)
            go_simp
            refine (cS1 _ (hT2.later hJ)).mono ?_
            rintro e W' ⟨⟨v, rfl, hr⟩, hb⟩
            exact hK _ _ (fin _ 61 _ hb hr)
          | 7, ho =>
            cases Option.some.inj ho
            have hG : A.tmps[59]? = some (.bool true) := gdb (show A.tmps.getD 59 undef = .bool true from hhas 4 _ rfl (hdep ⟨4, .guard⟩ (by simp) rfl) 59 rfl)
            obtain ⟨v61, h61, r61⟩ : ∃ v, A.tmps[61]?.getD undef = v ∧ Row W v (rs (inl L0) 1440) := ⟨_, gd A 61, hhas 6 _ rfl (hdep ⟨6, .data⟩ (by simp) rfl) 61 rfl⟩
            refine wpOp_step rfl (fun K hK => ?_)
            go_simp
            refine (of_any v61 _ _ r61).mono ?_
            rintro e W' ⟨rfl, hb⟩
            exact hK _ _ (fin _ 62 _ hb rfl)
          | 8, ho =>
            cases Option.some.inj ho
            have hG : A.tmps[59]? = some (.bool true) := gdb (show A.tmps.getD 59 undef = .bool true from hhas 4 _ rfl (hdep ⟨4, .guard⟩ (by simp) rfl) 59 rfl)
            have h62 : A.tmps[62]?.getD undef = .agg (mv (inl (rs (inl L0) 1440))) := (gd A 62).trans (show A.tmps.getD 62 undef = .agg (mv (inl (rs (inl L0) 1440))) from hhas 7 _ rfl (hdep ⟨7, .data⟩ (by simp) rfl) 62 rfl)
            refine wpOp_step rfl (fun K hK => ?_)
            go_simp
            refine (cS2 _ (hT2.later hJ)).mono ?_
            rintro e W' ⟨⟨v, rfl, hr⟩, hb⟩
            exact hK _ _ (fin _ 63 _ hb hr)
          | 9, ho =>
            cases Option.some.inj ho
            have hG : A.tmps[59]? = some (.bool true) := gdb (show A.tmps.getD 59 undef = .bool true from hhas 4 _ rfl (hdep ⟨4, .guard⟩ (by simp) rfl) 59 rfl)
            have h10 : A.eval (.tmp 10) = .pointer (some ⟨g10, 0, none⟩) := (hkept 10 (fun j p hp _ => nd (by kernel_rfl) j p hp))
            have hg := (hJ.block _ (lt_of_block k10)).trans k10
            refine wpOp_step rfl (fun K hK => ?_)
            rw [if_pos (by simp [Region.wanted, yielded, hG])]
            refine wp_load_row 37 _ rfl _ h10 _ _ _ _ hg maskType rfl (maskSize _) ?_
            exact hK _ _ (fin _ 64 _ (Below.refl _ _) rfl)
          | 10, ho =>
            cases Option.some.inj ho
            have hG : A.tmps[59]? = some (.bool true) := gdb (show A.tmps.getD 59 undef = .bool true from hhas 4 _ rfl (hdep ⟨4, .guard⟩ (by simp) rfl) 59 rfl)
            have h64 : A.tmps[64]?.getD undef = .agg (mv (inl L0)) := (gd A 64).trans (show A.tmps.getD 64 undef = .agg (mv (inl L0)) from hhas 9 _ rfl (hdep ⟨9, .data⟩ (by simp) rfl) 64 rfl)
            refine wpOp_step rfl (fun K hK => ?_)
            go_simp
            refine (cS1 _ (hT2.later hJ)).mono ?_
            rintro e W' ⟨⟨v, rfl, hr⟩, hb⟩
            exact hK _ _ (fin _ 65 _ hb hr)
          | 11, ho =>
            cases Option.some.inj ho
            have hG : A.tmps[59]? = some (.bool true) := gdb (show A.tmps.getD 59 undef = .bool true from hhas 4 _ rfl (hdep ⟨4, .guard⟩ (by simp) rfl) 59 rfl)
            obtain ⟨v63, h63, r63⟩ : ∃ v, A.tmps[63]?.getD undef = v ∧ Row W v (rs (inl L0) 1440) := ⟨_, gd A 63, hhas 8 _ rfl (hdep ⟨8, .data⟩ (by simp) rfl) 63 rfl⟩
            obtain ⟨v65, h65, r65⟩ : ∃ v, A.tmps[65]?.getD undef = v ∧ Row W v (rs (inl L0) 1440) := ⟨_, gd A 65, hhas 10 _ rfl (hdep ⟨10, .data⟩ (by simp) rfl) 65 rfl⟩
            refine wpOp_step rfl (fun K hK => ?_)
            go_simp
            refine (same_true v63 v65 _ _ r63 r65).mono ?_
            rintro e W' ⟨rfl, hb⟩
            exact hK _ _ (fin _ 66 _ hb rfl)
          | 12, ho =>
            cases Option.some.inj ho
            have h59 : A.tmps[59]?.getD undef = .bool true := (gd A 59).trans (show A.tmps.getD 59 undef = .bool true from hhas 4 _ rfl (hdep ⟨4, .data⟩ (by simp) rfl) 59 rfl)
            have h66 : A.tmps[66]?.getD undef = .bool true := (gd A 66).trans (show A.tmps.getD 66 undef = .bool true from hhas 11 _ rfl (hdep ⟨11, .data⟩ (by simp) rfl) 66 rfl)
            refine wpOp_step rfl (fun K hK => ?_)
            go_simp
            exact hK _ _ (fin _ 67 _ (Below.refl _ _) rfl)
          | 13, ho =>
            cases Option.some.inj ho
            have h67 : A.tmps[67]?.getD undef = .bool true := (gd A 67).trans (show A.tmps.getD 67 undef = .bool true from hhas 12 _ rfl (hdep ⟨12, .data⟩ (by simp) rfl) 67 rfl)
            refine wpOp_step rfl (fun K hK => ?_)
            go_simp
            exact hK _ _ (fin _ 4 _ (Below.refl _ _) rfl)
          | k + 14, ho => simp at ho
        · intro L A W9 hL hJ hdef hsize hkept hhas
          have h4 : A.tmps[4]?.getD undef = .bool true := (gd A 4).trans (show A.tmps.getD 4 undef = .bool true from hhas 13 _ rfl 4 rfl)
          have hbw9 := hbw5.trans (hJ.mono hbw5.size)
          clear hL hkept hhas hsize hz
          go_wp2
          refine bodyPost_ret (v := .bool true) ?_ hdef ⟨rfl, hbw9⟩
          simp [results, Tryd.results8, h4]
end Go.Proofs.YtemdkpjdbciemaaDoor
