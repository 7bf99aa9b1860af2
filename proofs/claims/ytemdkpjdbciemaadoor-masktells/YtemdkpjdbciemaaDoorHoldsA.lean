/- What masks.Holds comes to. -/
import Derived.Test.YtemdkpjdbciemaaDoorNextA
import Derived.Test.YtemdkpjdbciemaaDoorEqs
namespace Go.Proofs.YtemdkpjdbciemaaDoor
open Go.RowKit Msk

/-- What each operation of the region yields. -/
def hsp (f : Nat → Bool) (x y : Int) (i : Nat) (v : Value) (W : World) : Prop := match i with
  | 0 => v = .agg #[.int .i64 x, .int .i64 y]
  | 1 => ∃ g, v = .slice (some ⟨g, 0, none⟩) 1 1 ∧ W.heap[g]? = some (.cells #[.int .i64 x, .int .i64 y] 39 (0, 0))
  | 2 => v = .agg (mv (inl [(x, y)]))
  | 3 => v = .agg (mv f)
  | 4 => v = .agg (mv fun i => (inl [(x, y)] i && !f i) && decide (i < 1440))
  | 5 => v = .agg (mv fun _ => false)
  | 6 => v = .bool (eqm (fun i => (inl [(x, y)] i && !f i) && decide (i < 1440)) fun _ => false)
  | 7 => v = .bool (eqm (fun i => (inl [(x, y)] i && !f i) && decide (i < 1440)) fun _ => false)
  | _ => True
theorem hsp_mono {f : Nat → Bool} {x y : Int} {W W' : World} (hb : Below W.heap.size W W') (i : Nat) (v : Value) (h : hsp f x y i v W) : hsp f x y i v W' := by
  unfold hsp at *
  split at h
  · exact h
  · obtain ⟨g, h1, h2⟩ := h
    exact ⟨g, h1, (hb.block g (lt_of_block h2)).trans h2⟩
  all_goals exact h

/-- Does a mask have all minutes of a span? -/
def holdB (f : Nat → Bool) (x y : Int) : Bool := decide (0 ≤ x) && decide (y ≤ 1440) && decide (x ≤ y) && eqm (fun i => (inl [(x, y)] i && !f i) && decide (i < 1440)) fun _ => false

set_option maxRecDepth 10000 in
set_option maxHeartbeats 1000000 in
theorem holds_any (f : Nat → Bool) (x y : Int) (w : World) :
    Calls Tryd.prog 37 #[.agg (mv f), .agg #[.int .i64 x, .int .i64 y]] w fun e w' => e = .returned (.bool (holdB f x y)) ∧ Below w.heap.size w w' := by
  have hz := mv_lit
  have hb0 : Below w.heap.size w ((w.alloc (.cells (mv f) 37)).alloc (.cells #[.int .i64 x, .int .i64 y] 39)) := ((Below.refl _ _).alloc (Nat.le_refl _) _).alloc (by simp) _
  have h1 : ((w.alloc (.cells (mv f) 37)).alloc (.cells #[.int .i64 x, .int .i64 y] 39)).heap[w.heap.size]? = some (.cells (mv f) 37 (0, 0)) := by (repeat (first | refine blk_old _ _ _ (by simp only [size_alloc]; omega) ?_ | exact blk_new _ _ _ (by first | rfl | simp only [size_alloc])))
  have h2 : ((w.alloc (.cells (mv f) 37)).alloc (.cells #[.int .i64 x, .int .i64 y] 39)).heap[w.heap.size + 1]? = some (.cells #[.int .i64 x, .int .i64 y] 39 (0, 0)) := by (repeat (first | refine blk_old _ _ _ (by simp only [size_alloc]; omega) ?_ | exact blk_new _ _ _ (by first | rfl | simp only [size_alloc])))
  by_cases hx : x < 0
  · have e : holdB f x y = false := by unfold holdB; have : ¬ 0 ≤ x := by omega
                                       simp [this]
    rw [e]
    go_enter Tryd.func37, Tryd.ntmps37
    go_wp2
    go_ret
    exact ⟨rfl, hb0⟩
  · have hx' : 0 ≤ x := by omega
    clear hx
    by_cases hy : 1440 < y
    · have e : holdB f x y = false := by unfold holdB; have : ¬ y ≤ 1440 := by omega
                                         simp [this]
      rw [e]
      go_enter Tryd.func37, Tryd.ntmps37
      go_wp2
      go_ret
      exact ⟨rfl, hb0⟩
    · have hy' : y ≤ 1440 := by omega
      clear hy
      by_cases hxy : y < x
      · have e : holdB f x y = false := by unfold holdB; have : ¬ x ≤ y := by omega
                                           simp [this]
        rw [e]
        go_enter Tryd.func37, Tryd.ntmps37
        go_wp2
        go_ret
        exact ⟨rfl, hb0⟩
      · have hxy' : x ≤ y := by omega
        clear hxy
        have e : holdB f x y = eqm (fun i => (inl [(x, y)] i && !f i) && decide (i < 1440)) fun _ => false := by unfold holdB; simp [hx', hy', hxy']
        rw [e]
        clear e
        go_enter Tryd.func37, Tryd.ntmps37
        go_wp2
        refine wp_region_flow (by kernel_rfl) (by kernel_rfl) (by kernel_rfl) (by kernel_rfl) (fun _ _ W => Below (w.heap.size + 1 + 1) ((w.alloc (.cells (mv f) 37)).alloc (.cells #[.int .i64 x, .int .i64 y] 39)) W) (hsp f x y) ?_ ?_ ?_
        · intro L hL
          exact (Below.refl _ _).drew
        · intro i o L a W ho hLi hdep hJ hdef hkept hhas
          clear hdef hLi
          have fin : ∀ (v : Value) (d : Nat) (W' : World), Below W.heap.size W W' → hsp f x y i v W' → ∃ u, a.put (some d) v = a.put (some d) u ∧ (some d ≠ none → hsp f x y i u W') ∧ (∀ j x', L j = true → hsp f x y j x' W → hsp f x y j x' W') ∧ Below (w.heap.size + 1 + 1) ((w.alloc (.cells (mv f) 37)).alloc (.cells #[.int .i64 x, .int .i64 y] 39)) W' := by
            intro v d W' hb hv
            exact ⟨v, rfl, fun _ => hv, fun j x' _ h => hsp_mono hb j x' h, hJ.trans (hb.mono (by have := hJ.size; simp only [size_alloc] at this; omega))⟩
          match i, ho with
          | 0, ho =>
            cases Option.some.inj ho
            have hA : a.eval (.tmp 3) = .pointer (some ⟨w.heap.size + 1, 0, none⟩) := hkept 3 (fun j p hp _ => nd (by kernel_rfl) j p hp)
            have hg := (hJ.block _ (by omega)).trans h2
            refine wpOp_step rfl (fun K hK => ?_)
            show Oper.wp _ _ _ _ _ _
            refine wp_load_row 39 _ rfl _ hA _ _ _ _ hg Tryd.underlying39 rfl (by kernel_rfl) ?_
            exact hK _ _ (fin _ 20 _ (Below.refl _ _) rfl)
          | 1, ho =>
            cases Option.some.inj ho
            have hA : a.tmps[20]?.getD undef = .agg #[.int .i64 x, .int .i64 y] := by
              have := hhas 0 _ rfl (hdep ⟨0, .data⟩ (by simp) rfl) 20 rfl
              simpa [hsp] using this
            refine wpOp_step rfl (fun K hK => ?_)
            go_simp
            exact hK _ _ (fin _ 21 _ ((Below.refl _ _).alloc (Nat.le_refl _) _) ⟨_, rfl, heap_alloc_new W _⟩)
          | 2, ho =>
            cases Option.some.inj ho
            obtain ⟨g, hA0, hg⟩ := hhas 1 _ rfl (hdep ⟨1, .data⟩ (by simp) rfl) 21 rfl
            have hA : a.tmps[21]?.getD undef = .slice (some ⟨g, 0, none⟩) 1 1 := by simpa using hA0
            have hrow : Row W (.slice (some ⟨g, 0, none⟩) 1 1) [(x, y)] := row_at hg
            refine wpOp_step rfl (fun K hK => ?_)
            go_simp
            refine (of_any _ _ _ hrow).mono ?_
            rintro e W' ⟨rfl, hb⟩
            exact hK _ _ (fin _ 22 _ hb rfl)
          | 3, ho =>
            cases Option.some.inj ho
            have hA : a.eval (.tmp 2) = .pointer (some ⟨w.heap.size, 0, none⟩) := hkept 2 (fun j p hp _ => nd (by kernel_rfl) j p hp)
            have hg := (hJ.block _ (by omega)).trans h1
            refine wpOp_step rfl (fun K hK => ?_)
            show Oper.wp _ _ _ _ _ _
            refine wp_load_row 37 _ rfl _ hA _ _ _ _ hg maskType rfl (maskSize _) ?_
            exact hK _ _ (fin _ 23 _ (Below.refl _ _) rfl)
          | 4, ho =>
            cases Option.some.inj ho
            have hA : a.tmps[22]?.getD undef = .agg (mv (inl [(x, y)])) := by
              have := hhas 2 _ rfl (hdep ⟨2, .data⟩ (by simp) rfl) 22 rfl
              simpa [hsp] using this
            have hB : a.tmps[23]?.getD undef = .agg (mv f) := by
              have := hhas 3 _ rfl (hdep ⟨3, .data⟩ (by simp) rfl) 23 rfl
              simpa [hsp] using this
            refine wpOp_step rfl (fun K hK => ?_)
            go_simp
            refine (diff_any _ _ _).mono ?_
            rintro e W' ⟨rfl, hb⟩
            exact hK _ _ (fin _ 24 _ hb rfl)
          | 5, ho =>
            cases Option.some.inj ho
            refine wpOp_step rfl (fun K hK => ?_)
            go_simp
            exact hK _ _ (fin _ 25 _ (Below.refl _ _) rfl)
          | 6, ho =>
            cases Option.some.inj ho
            have hA : a.tmps[24]?.getD undef = .agg (mv fun i => (inl [(x, y)] i && !f i) && decide (i < 1440)) := by
              have := hhas 4 _ rfl (hdep ⟨4, .data⟩ (by simp) rfl) 24 rfl
              simpa [hsp] using this
            have hB : a.tmps[25]?.getD undef = .agg (mv fun _ => false) := by
              have := hhas 5 _ rfl (hdep ⟨5, .data⟩ (by simp) rfl) 25 rfl
              simpa [hsp] using this
            have he := eq_mask (fun i => (inl [(x, y)] i && !f i) && decide (i < 1440)) (fun _ => false)
            refine wpOp_step rfl (fun K hK => ?_)
            go_simp
            exact hK _ _ (fin _ 26 _ (Below.refl _ _) rfl)
          | 7, ho =>
            cases Option.some.inj ho
            have hA : a.tmps[26]?.getD undef = .bool (eqm (fun i => (inl [(x, y)] i && !f i) && decide (i < 1440)) fun _ => false) := by
              have := hhas 6 _ rfl (hdep ⟨6, .data⟩ (by simp) rfl) 26 rfl
              simpa [hsp] using this
            refine wpOp_step rfl (fun K hK => ?_)
            go_simp
            exact hK _ _ (fin _ 4 _ (Below.refl _ _) rfl)
          | k + 8, ho => simp at ho
        · intro L a W hL hJ hdef hsize hkept hhas
          have h4 : a.tmps[4]?.getD undef = .bool (eqm (fun i => (inl [(x, y)] i && !f i) && decide (i < 1440)) fun _ => false) := by
            have := hhas 7 _ rfl 4 rfl
            simpa [hsp] using this
          clear hL hkept hhas hsize hz
          go_wp2
          refine bodyPost_ret (v := .bool (eqm (fun i => (inl [(x, y)] i && !f i) && decide (i < 1440)) fun _ => false)) ?_ hdef ⟨rfl, hb0.trans (hJ.mono (by omega))⟩
          simp [results, Tryd.results37, h4]
end Go.Proofs.YtemdkpjdbciemaaDoor
