/- What masks.visitRuns comes to, whatever function it is handed. -/
import Derived.Test.YtlhjgajhcabhoaaDoorMn02
import Derived.Test.YtlhjgajhcabhoaaDoorMn01
import Derived.OwnWalk
namespace Go.Proofs.YtlhjgajhcabhoaaDoor
open Go.RowKit Msk

/-- Masks in blocks from B on are as they were; no block has gone. -/
def Above (B : Nat) (w w' : World) : Prop := w.heap.size ≤ w'.heap.size ∧ ∀ k c, B ≤ k → w.heap[k]? = some (.cells c 41 (0, 0)) → w'.heap[k]? = some (.cells c 41 (0, 0))

theorem inl_day : mv (inl [((0 : Int), (1440 : Int))]) = mv fun i => decide (i < 1440) := mv_ext fun i _ => by
  have : ((i : Int) < 1440) = (i < 1440) := by apply propext; omega
  simp [inl, this]

theorem row_at {W : World} {g : Nat} {x y : Int} {t : TypeId} (hb : W.heap[g]? = some (.cells #[.int .i64 x, .int .i64 y] t (0, 0))) : Row W (.slice (some ⟨g, 0, none⟩) 1 1) [(x, y)] := by
  refine .inr ⟨_, 0, 1, rfl, by simp, fun j hj => ?_⟩
  have : j = 0 := by simpa using hj
  subst this
  exact ⟨by rw [cell_of_row _ _ _ _ _ _ hb]; rfl, by rw [cell_of_row _ _ _ _ _ _ hb]; rfl⟩
theorem row_new (W : World) (g : Nat) (hg : g = W.heap.size) (x y : Int) (t : TypeId) : Row (W.alloc (.cells #[.int .i64 x, .int .i64 y] t)).drew (.slice (some ⟨g, 0, none⟩) 1 1) [(x, y)] := by
  subst hg
  refine .inr ⟨_, 0, 1, rfl, by simp, fun j hj => ?_⟩
  have : j = 0 := by simpa using hj
  subst this
  have hb : (W.alloc (.cells #[.int .i64 x, .int .i64 y] t)).drew.heap[W.heap.size]? = some (.cells #[.int .i64 x, .int .i64 y] t (0, 0)) := heap_alloc_new W _
  exact ⟨by rw [cell_of_row _ _ _ _ _ _ hb]; rfl, by rw [cell_of_row _ _ _ _ _ _ hb]; rfl⟩
/-- What each operation of the region yields. -/
def vsp (B : Nat) (f : Nat → Bool) (i : Nat) (v : Value) (W : World) : Prop := match i with
  | 0 => v = .agg #[.int .i64 0, .int .i64 1440]
  | 1 => ∃ g, v = .slice (some ⟨g, 0, none⟩) 1 1 ∧ W.heap[g]? = some (.cells #[.int .i64 0, .int .i64 1440] 57 (0, 0))
  | 2 => v = .agg (mv fun i => decide (i < 1440))
  | 3 => v = .agg (mv f)
  | 4 => v = .agg (mv fun i => (decide (i < 1440) && !f i) && decide (i < 1440))
  | 5 => ∃ g c, v = .pointer (some ⟨g, 0, none⟩) ∧ B < g ∧ W.heap[g]? = some (.cells (mv c) 41 (0, 0))
  | _ => True
theorem vsp_mono {B : Nat} {f : Nat → Bool} {W W' : World} (hb : Below W.heap.size W W') (i : Nat) (v : Value) (h : vsp B f i v W) : vsp B f i v W' := by
  unfold vsp at *
  split at h
  · exact h
  · obtain ⟨g, h1, h2⟩ := h
    exact ⟨g, h1, (hb.block g (lt_of_block h2)).trans h2⟩
  · exact h
  · exact h
  · exact h
  · obtain ⟨g, c, h1, h2, h3⟩ := h
    exact ⟨g, c, h1, h2, (hb.block g (lt_of_block h3)).trans h3⟩
  · trivial
/-- What is said of the world. -/
structure VJ (B : Nat) (f : Nat → Bool) (W0 : World) (L : Nat → Bool) (a : Act) (W : World) : Prop where
  bel : Below (B + 1) W0 W
  last : L 6 = true → ∀ k, k < 6 → L k = true
  done : L 6 = true → ∃ g, a.tmps.getD 4 undef = .pointer (some ⟨g, 0, none⟩) ∧ B < g ∧ W.heap[g]? = some (.cells (mv fun i => (decide (i < 1440) && !f i) && decide (i < 1440)) 41 (0, 0))

set_option maxRecDepth 10000 in
set_option maxHeartbeats 2000000 in
theorem visit_any (f : Nat → Bool) (K : Nat) (C : Array Value) (I : Nat → World → Prop) (R : World → Prop) (w : World) (hI : I 0 w)
    (eK : ∀ args w, (callFunc K args).run Tryd.prog w = .ok (.enter K args) w)
    (hT : ∀ p wr, I p wr → Tab wr) (hmono : ∀ p wr w', I p wr → Below wr.heap.size wr w' → I p w')
    (hstep : ∀ (p a b : Nat) (wr : World), w.heap.size ≤ wr.heap.size → I p wr → p ≤ a → a < b → b ≤ 1440 → (∀ i, p ≤ i → i < a → f i = false) → (∀ i, a ≤ i → i < b → f i = true) → (b < 1440 → f b = false) →
      Calls Tryd.prog K (#[.agg #[.int .i64 a, .int .i64 b]] ++ C) wr fun e w' => ((e = .returned (.bool true) ∧ I b w') ∨ (e = .returned (.bool false) ∧ R w')) ∧ Above w.heap.size wr w')
    (hend : ∀ (p : Nat) (wr : World), I p wr → p ≤ 1440 → (∀ i, p ≤ i → i < 1440 → f i = false) → R wr) :
    Calls Tryd.prog 40 #[.agg (mv f), .func (.func K) #[] C] w fun e w' => e = .returned (.tuple #[]) ∧ R w' := by
  have hz := mv_lit
  have h1 : (w.alloc (.cells (mv f) 41)).heap[w.heap.size]? = some (.cells (mv f) 41 (0, 0)) := by (repeat (first | refine blk_old _ _ _ (by simp only [size_alloc]; omega) ?_ | exact blk_new _ _ _ (by first | rfl | simp only [size_alloc])))
  go_enter Tryd.func40, Tryd.ntmps40
  go_wp2
  refine wp_region_flow (by kernel_rfl) (by kernel_rfl) (by kernel_rfl) (by kernel_rfl) (VJ w.heap.size f (w.alloc (.cells (mv f) 41))) (vsp w.heap.size f) ?_ ?_ ?_
  · intro L hL
    have h6 : L 6 = true → False := fun h => by
      rw [hL 6 (by simp)] at h
      cases h
    exact ⟨(Below.refl _ _).drew, fun h => (h6 h).elim, fun h => (h6 h).elim⟩
  · clear hI eK hT hmono hstep hend
    intro i o L a W ho hLi hdep hJ hdef hkept hhas
    clear hdef
    have not6 : i < 6 → L 6 = true → False := fun h6 h => by
      have := hJ.last h i h6
      rw [hLi] at this; cases this
    have fin : ∀ (v : Value) (d : Nat) (W' : World), i < 6 → Below W.heap.size W W' → vsp w.heap.size f i v W' → ∃ u, a.put (some d) v = a.put (some d) u ∧ (some d ≠ none → vsp w.heap.size f i u W') ∧ (∀ j x, L j = true → vsp w.heap.size f j x W → vsp w.heap.size f j x W') ∧ VJ w.heap.size f (w.alloc (.cells (mv f) 41)) (fun k => decide (i = k) || L k) (a.put (some d) v) W' := by
      intro v d W' h6 hb hv
      have hno : (decide (i = 6) || L 6) = true → False := fun h => by
        have : i ≠ 6 := by omega
        simp [this] at h
        exact not6 h6 h
      exact ⟨v, rfl, fun _ => hv, fun j x _ h => vsp_mono hb j x h, hJ.bel.trans (hb.mono (by have := hJ.bel.size; rw [size_alloc] at this; omega)), fun h => (hno h).elim, fun h => (hno h).elim⟩
    match i, ho with
    | 0, ho =>
      cases Option.some.inj ho
      refine wpOp_step rfl (fun K hK => ?_)
      go_simp
      exact hK _ _ (fin _ 7 _ (by omega) (Below.refl _ _) rfl)
    | 1, ho =>
      cases Option.some.inj ho
      have hA : a.tmps[7]?.getD undef = .agg #[.int .i64 0, .int .i64 1440] := by
        have := hhas 0 _ rfl (hdep ⟨0, .data⟩ (by simp) rfl) 7 rfl
        simpa [vsp] using this
      refine wpOp_step rfl (fun K hK => ?_)
      go_simp
      exact hK _ _ (fin _ 8 _ (by omega) ((Below.refl _ _).alloc (Nat.le_refl _) _) ⟨_, rfl, heap_alloc_new W _⟩)
    | 2, ho =>
      cases Option.some.inj ho
      obtain ⟨g, hA0, hg⟩ := hhas 1 _ rfl (hdep ⟨1, .data⟩ (by simp) rfl) 8 rfl
      have hA : a.tmps[8]?.getD undef = .slice (some ⟨g, 0, none⟩) 1 1 := by simpa using hA0
      have hrow : Row W (.slice (some ⟨g, 0, none⟩) 1 1) [((0 : Int), (1440 : Int))] := row_at hg
      refine wpOp_step rfl (fun K hK => ?_)
      go_simp
      refine (of_any _ _ _ hrow).mono ?_
      rintro e W' ⟨rfl, hb⟩
      rw [inl_day]
      exact hK _ _ (fin _ 9 _ (by omega) hb rfl)
    | 3, ho =>
      cases Option.some.inj ho
      have hA : a.eval (.tmp 2) = .pointer (some ⟨w.heap.size, 0, none⟩) := by
        have := hkept 2 (fun j p hp _ => nd (by kernel_rfl) j p hp)
        exact this
      have hg : W.heap[w.heap.size]? = some (.cells (mv f) 41 (0, 0)) := (hJ.bel.block _ (by omega)).trans h1
      refine wpOp_step rfl (fun K hK => ?_)
      show Oper.wp _ _ _ _ _ _
      refine wp_load_row 41 _ rfl _ hA _ _ _ _ hg maskType rfl (maskSize _) ?_
      exact hK _ _ (fin _ 10 _ (by omega) (Below.refl _ _) rfl)
    | 4, ho =>
      cases Option.some.inj ho
      have hA0 := hhas 2 _ rfl (hdep ⟨2, .data⟩ (by simp) rfl) 9 rfl
      have hA : a.tmps[9]?.getD undef = .agg (mv fun i => decide (i < 1440)) := by simpa [vsp] using hA0
      have hB0 := hhas 3 _ rfl (hdep ⟨3, .data⟩ (by simp) rfl) 10 rfl
      have hB : a.tmps[10]?.getD undef = .agg (mv f) := by simpa [vsp] using hB0
      refine wpOp_step rfl (fun K hK => ?_)
      go_simp
      refine (diff_any _ _ _).mono ?_
      rintro e W' ⟨rfl, hb⟩
      exact hK _ _ (fin _ 11 _ (by omega) hb rfl)
    | 5, ho =>
      cases Option.some.inj ho
      refine wpOp_step rfl (fun K hK => ?_)
      go_simp
      have hs := hJ.bel.size
      rw [size_alloc] at hs
      exact hK _ _ (fin _ 4 _ (by omega) ((Below.refl _ _).alloc (Nat.le_refl _) _) ⟨_, _, rfl, by omega, heap_alloc_new W _⟩)
    | 6, ho =>
      cases Option.some.inj ho
      obtain ⟨g, c, hA0, hgB, hg⟩ := hhas 5 _ rfl (hdep ⟨5, .data⟩ (by simp) rfl) 4 rfl
      have hB0 := hhas 4 _ rfl (hdep ⟨4, .data⟩ (by simp) rfl) 11 rfl
      refine wpOp_step rfl (fun K hK => ?_)
      show Oper.wp _ _ _ _ _ _
      refine wp_store_row 41 _ _ rfl _ _ hA0 hB0 _ _ hg (maskSize _) (by simp [mv_size]) (mv_all _) ?_
      refine hK _ _ ⟨undef, rfl, fun h => absurd rfl h, fun j x _ h => ?_, below_setRow hJ.bel (by omega) _, fun _ k hk => ?_, fun _ => ⟨g, hA0, hgB, setRow_heap _ _ _ _ _ _ hg⟩⟩
      · match j, h with
        | 0, h => exact h
        | 1, h =>
          obtain ⟨g', e1, e2⟩ := h
          refine ⟨g', e1, (setRow_other _ _ _ _ fun e => ?_).trans e2⟩
          subst e
          rw [hg] at e2
          have := (Obj.cells.inj (Option.some.inj e2)).2.1
          exact absurd this (by decide)
        | 2, h => exact h
        | 3, h => exact h
        | 4, h => exact h
        | 5, h =>
          obtain ⟨g', c', e1, e2, e3⟩ := h
          by_cases e : g' = g
          · subst e
            exact ⟨g', _, e1, e2, setRow_heap _ _ _ _ _ _ hg⟩
          · exact ⟨g', c', e1, e2, (setRow_other _ _ _ _ e).trans e3⟩
        | k + 6, _ => trivial
      · have : L k = true := by
          match k, hk with
          | 0, _ => exact hdep ⟨0, .phase⟩ (by simp) rfl
          | 1, _ => exact hdep ⟨1, .phase⟩ (by simp) rfl
          | 2, _ => exact hdep ⟨2, .phase⟩ (by simp) rfl
          | 3, _ => exact hdep ⟨3, .phase⟩ (by simp) rfl
          | 4, _ => exact hdep ⟨4, .phase⟩ (by simp) rfl
          | 5, _ => exact hdep ⟨5, .phase⟩ (by simp) rfl
        simp [this]
    | k + 7, ho => simp at ho
  · intro L a W hL hJ hdef hsize hkept hhas
    obtain ⟨g, hA0, hgB, hg⟩ := hJ.done (hL 6 (by simp))
    obtain ⟨g8, h8, _⟩ := hhas 1 _ rfl 8 rfl
    have hgm : W.heap[w.heap.size]? = some (.cells (mv f) 41 (0, 0)) := (hJ.bel.block _ (by omega)).trans h1
    have hb0 : Below w.heap.size w W := ((Below.refl _ _).alloc (Nat.le_refl _) _).trans (hJ.bel.mono (by omega))
    have hIW := hmono 0 w W hI hb0
    obtain ⟨t, d⟩ := a
    have ht : t = #[.agg (mv f), .func (.func K) #[] C, .pointer (some ⟨w.heap.size, 0, none⟩), undef, .pointer (some ⟨g, 0, none⟩), undef, undef, .agg #[.int .i64 0, .int .i64 1440], .slice (some ⟨g8, 0, none⟩) 1 1, .agg (mv fun i => decide (i < 1440)), .agg (mv f), .agg (mv fun i => (decide (i < 1440) && !f i) && decide (i < 1440)), undef, undef, undef, undef, undef, undef, undef, undef, undef, undef, undef, undef, undef, undef, undef, undef] := arr_ext t _ hsize fun i hi => by
      match i, hi with
      | 0, _ => exact hkept 0 (nd (by kernel_rfl))
      | 1, _ => exact hkept 1 (nd (by kernel_rfl))
      | 2, _ => exact hkept 2 (nd (by kernel_rfl))
      | 3, _ => exact hkept 3 (nd (by kernel_rfl))
      | 4, _ => exact hA0
      | 5, _ => exact hkept 5 (nd (by kernel_rfl))
      | 6, _ => exact hkept 6 (nd (by kernel_rfl))
      | 7, _ => exact hhas 0 _ rfl 7 rfl
      | 8, _ => exact h8
      | 9, _ => exact hhas 2 _ rfl 9 rfl
      | 10, _ => exact hhas 3 _ rfl 10 rfl
      | 11, _ => exact hhas 4 _ rfl 11 rfl
      | 12, _ => exact hkept 12 (nd (by kernel_rfl))
      | 13, _ => exact hkept 13 (nd (by kernel_rfl))
      | 14, _ => exact hkept 14 (nd (by kernel_rfl))
      | 15, _ => exact hkept 15 (nd (by kernel_rfl))
      | 16, _ => exact hkept 16 (nd (by kernel_rfl))
      | 17, _ => exact hkept 17 (nd (by kernel_rfl))
      | 18, _ => exact hkept 18 (nd (by kernel_rfl))
      | 19, _ => exact hkept 19 (nd (by kernel_rfl))
      | 20, _ => exact hkept 20 (nd (by kernel_rfl))
      | 21, _ => exact hkept 21 (nd (by kernel_rfl))
      | 22, _ => exact hkept 22 (nd (by kernel_rfl))
      | 23, _ => exact hkept 23 (nd (by kernel_rfl))
      | 24, _ => exact hkept 24 (nd (by kernel_rfl))
      | 25, _ => exact hkept 25 (nd (by kernel_rfl))
      | 26, _ => exact hkept 26 (nd (by kernel_rfl))
      | 27, _ => exact hkept 27 (nd (by kernel_rfl))
      | _ + 28, hi => exact absurd hi (by simp)
    have hd : d = [] := hdef
    subst ht hd
    clear hL hJ hdef hsize hkept hhas hA0 h8 hI h1 hz
    have hTW := hT 0 W hIW
    go_wp2_with (first
      | (refine wpList_load_row rfl 41 _ rfl _ rfl _ _ _ _ hgm maskType rfl (maskSize _) ?_)
      | (go_at_call 45; refine (first_any f 0 (by omega) _ hTW).mono ?_; rintro e w1 ⟨⟨r, rfl, hr⟩, hb1⟩))
    have hI1 := hmono 0 W w1 hIW hb1
    have hm1 := (hb1.block _ (lt_of_block hgm)).trans hgm
    have hg1 := (hb1.block _ (lt_of_block hg)).trans hg
    have hs1 : w.heap.size ≤ w1.heap.size := by have := hb0.size; have := hb1.size; omega
    clear hIW hgm hg hb0 hTW hb1
    have HR : Hid (FirstAt f 0 r) := hr
    clear hr
    go_loopw [5] (fun v wr => ∃ p a : Nat, v = .int .i64 a ∧ FirstAt f p a ∧ I p wr ∧ w.heap.size ≤ wr.heap.size ∧ wr.heap[w.heap.size]? = some (.cells (mv f) 41 (0, 0)) ∧ wr.heap[g]? = some (.cells (mv fun i => (decide (i < 1440) && !f i) && decide (i < 1440)) 41 (0, 0))) (fun v _ => (1440 - intOf v).toNat)
    case atStart => exact ⟨0, r, rfl, HR.out, hI1, hs1, hm1, hg1⟩
    case round =>
      obtain ⟨p, a, rfl, hfa, hIp, hsz, hm2, hg2⟩ := hrel
      obtain ⟨q1, q2, q3, q4⟩ := hfa
      clear hI1 hm1 hg1 hs1 HR
      by_cases hlt : a < 1440
      · have hfa := q4 hlt
        have hT2 := hT p wr hIp
        have Q3 : Hid (∀ i, p ≤ i → i < a → f i = false) := q3
        have Q4 : Hid (f a = true) := hfa
        clear q3 q4 hfa
        go_wp2_with (first
          | (refine wpList_load_row rfl 41 _ rfl _ rfl _ _ _ _ hg2 maskType rfl (maskSize _) ?_)
          | (go_at_call 45; refine (first_any _ a (by omega) _ hT2).mono ?_; rintro e w3 ⟨⟨b, rfl, hb⟩, hb3⟩))
        obtain ⟨b1, b2, b3, b4⟩ := hb
        have ha := Q4.out
        have hyes : ∀ i, a ≤ i → i < b → f i = true := fun i x y => by
          have h1440 : i < 1440 := by omega
          have := b3 i x y
          simpa [h1440] using this
        have hab : a < b := by
          rcases Nat.lt_or_ge a b with h | h
          · exact h
          · have e : b = a := by omega
            subst e
            have := b4 hlt
            simp [ha] at this
        have hbb : b < 1440 → f b = false := fun h => by
          have := b4 h
          simpa [h] using this
        have hI3 := hmono p wr w3 hIp hb3
        have hs3 : w.heap.size ≤ w3.heap.size := by have := hb3.size; omega
        have hm3 := (hb3.block _ (lt_of_block hm2)).trans hm2
        have hg3 := (hb3.block _ (lt_of_block hg2)).trans hg2
        have hc := hstep p a b w3 hs3 hI3 q1 hab b2 Q3.out hyes hbb
        have Hyes : Hid (∀ i, a ≤ i → i < b → f i = true) := hyes
        clear b3 b4 hyes hbb hIp hm2 hg2 hT2 hI3 ha hb3
        refine hc.mono ?_
        rintro e w4 ⟨⟨rfl, hI4⟩ | ⟨rfl, hR4⟩, ⟨hz4, hk4⟩⟩
        · have hm4 := hk4 _ _ (Nat.le_refl _) hm3
          have hg4 := hk4 _ _ (by omega) hg3
          have hT4 := hT b w4 hI4
          clear hk4 hm3 hg3 hc
          go_wp2_with (first
            | (refine wpList_load_row rfl 41 _ rfl _ rfl _ _ _ _ hm4 maskType rfl (maskSize _) ?_)
            | (go_at_call 45; refine (first_any f b b2 _ hT4).mono ?_; rintro e w5 ⟨⟨r', rfl, hr'⟩, hb5⟩))
          go_roundw
          case rel => exact ⟨b, r', rfl, hr', hmono b w4 w5 hI4 hb5, by have := hb5.size; omega, (hb5.block _ (lt_of_block hm4)).trans hm4, (hb5.block _ (lt_of_block hg4)).trans hg4⟩
          case measure =>
            have := hr'.1
            simp [intOf]; omega
        · clear hk4 hm3 hg3 hc
          go_wp2
          refine bodyPost_ret (results_none rfl _ _ _) rfl ?_
          exact ⟨rfl, hR4⟩
      · have Hend : Hid (R wr) := hend p wr hIp (by omega) (fun i x y => q3 i x (by omega))
        clear q3 q4
        go_wp2
        go_end0
        exact ⟨rfl, Hend.out⟩
end Go.Proofs.YtlhjgajhcabhoaaDoor

/- What masks.Spans comes to. -/
namespace Go.Proofs.YtlhjgajhcabhoaaDoor
open Go.RowKit Msk

/-- The cells of a row of spans. -/
def flat : List (Int × Int) → List Value
  | [] => []
  | s :: l => .int .i64 s.1 :: .int .i64 s.2 :: flat l
theorem flat_snoc (x y : Int) : ∀ l : List (Int × Int), flat (l ++ [(x, y)]) = flat l ++ [.int .i64 x, .int .i64 y]
  | [] => rfl
  | s :: l => by simp [flat, flat_snoc x y l]
theorem flat_get : ∀ (l : List (Int × Int)) (j : Nat), j < l.length → (flat l)[j * 2]? = some (.int .i64 (l.getD j (0, 0)).1) ∧ (flat l)[j * 2 + 1]? = some (.int .i64 (l.getD j (0, 0)).2)
  | [], j, h => by simp at h
  | s :: l, 0, _ => by simp [flat]
  | s :: l, j + 1, h => by
    have := flat_get l j (by simpa using h)
    have e : (j + 1) * 2 = j * 2 + 1 + 1 := by omega
    rw [e]
    simpa [flat] using this
theorem info33 : (Tryd.prog.info? 57).map (fun i => (i.zero, i.size, i.bytes)) = some (some (.agg #[.int .i64 0, .int .i64 0]), 2, 16) := by kernel_rfl
theorem spansType : Tryd.prog.underlying 58 = some (.slice 57) := by kernel_rfl

theorem owns_below {w w' : World} {base : Nat} {e : TypeId} {size : Nat} {v : Value} {n : Nat} {xs : List Value} (h : w.ownsRow base e size v n xs) (hb : Below w.heap.size w w') : w'.ownsRow base e size v n xs := by
  obtain ⟨h1, h2⟩ := h
  refine ⟨h1, ?_⟩
  rcases h2 with h2 | ⟨g, cap, cur, hv, hg, hh, r⟩
  · exact .inl h2
  · exact .inr ⟨g, cap, cur, hv, hg, (hb.block g (lt_of_block hh)).trans hh, r⟩
theorem owns_type {w : World} {base : Nat} {e : TypeId} {size : Nat} {v : Value} {n : Nat} {xs : List Value} (h : w.ownsRow base e size v n xs) {k : Nat} {c : Array Value} {t : TypeId} (hk : w.heap[k]? = some (.cells c t (0, 0))) (ht : t ≠ e) : v.ownBlock ≠ some k := by
  obtain ⟨_, h2⟩ := h
  rcases h2 with ⟨h2, _⟩ | ⟨g, cap, cur, hv, hg, hh, r⟩
  · subst h2; simp [Value.ownBlock]
  · subst hv
    intro e1
    have e2 : g = k := by simpa [Value.ownBlock] using e1
    subst e2
    rw [hh] at hk
    exact ht (Obj.cells.inj (Option.some.inj hk)).2.1.symm
/-- What is owned is a row of spans. -/
theorem row_of_owns {w : World} {base : Nat} {v : Value} {l : List (Int × Int)} (h : w.ownsRow base 57 2 v l.length (flat l)) (hl : l.length < 9223372036854775808) : Row w v l := by
  obtain ⟨_, h2⟩ := h
  rcases h2 with ⟨h2, h3⟩ | ⟨g, cap, cur, hv, hg, hh, h3, h4, h5, h6⟩
  · exact .inl ⟨0, h2, List.length_eq_zero_iff.1 h3⟩
  · refine .inr ⟨g, 0, cap, hv, hl, fun j hj => ?_⟩
    obtain ⟨e1, e2⟩ := flat_get l j hj
    have key : ∀ k u, (flat l)[k]? = some u → cur[k]? = some u := fun k u hk => by
      rw [← h6, List.getElem?_take] at hk
      split at hk
      · simpa using hk
      · cases hk
    rw [Nat.zero_add, cell_of_row _ _ _ _ _ _ hh, cell_of_row _ _ _ _ _ _ hh]
    exact ⟨key _ _ e1, key _ _ e2⟩

set_option maxRecDepth 10000 in
set_option maxHeartbeats 1000000 in
theorem spansClosure_any (x y : Int) (v : Value) (l : List (Int × Int)) (base Bl : Nat) (w : World) (hll : l.length ≤ 1440) (hbase : base ≤ w.heap.size) (hbl : base ≤ Bl)
    (hl : w.heap[Bl]? = some (.cells #[v] 58 (0, 0))) (hown : w.ownsRow base 57 2 v l.length (flat l)) :
    Calls Tryd.prog 41 #[.agg #[.int .i64 x, .int .i64 y], .pointer (some ⟨Bl, 0, none⟩)] w fun e w' =>
      e = .returned (.bool true) ∧ Below base w w' ∧ (∃ v', w'.heap[Bl]? = some (.cells #[v'] 58 (0, 0)) ∧ w'.ownsRow base 57 2 v' (l ++ [(x, y)]).length (flat (l ++ [(x, y)]))) ∧ ∀ B, Above B w w' := by
  obtain ⟨i0, hi, hz0, hz1, hz2⟩ := info_parts info33
  have c1 := cell_of_one hl
  have f1 := free_of_one hl
  have l1 := lt_of_block hl
  have hob := owns_type hown hl (by decide)
  go_enter Tryd.func41, Tryd.ntmps41
  go_wp2_with (at_builtin; refine wpList_append_own _ rfl _ _ 58 rfl base 57 i0 (.agg #[.int .i64 0, .int .i64 0]) 2 16 spansType hi hz0 hz1 hz2 rfl (by decide) v l.length (flat l) rfl ((hown.alloc _).alloc _) ⟨w.heap.size + 1, 0, none⟩ 1 1 [.int .i64 x, .int .i64 y] rfl rfl ?c1 ?c2 ?c3 ?c4 ?c5 ?_)
  case c1 =>
    intro j u hj
    match j, hj with
    | 0, hj => simp at hj; subst hj; simp [Addr.add]
    | 1, hj => simp at hj; subst hj; simp [Addr.add]
  case c2 => intro u hu; simp at hu; rcases hu with rfl | rfl <;> rfl
  case c3 => unfold maxLen; omega
  case c4 => omega
  case c5 => simp; omega
  · intro v' w1 hown' hgrow _
    have hl1 := blk_old _ (.cells #[.int .i64 x, .int .i64 y] 57) _ l1 hl
    have hl2 := blk_old _ (.cells #[.int .i64 x, .int .i64 y] 57) _ (lt_of_block hl1) hl1
    have hl3 := (hgrow.block _ (lt_of_block hl2) (fun e => hob e.symm)).trans hl2
    have c3 := cell_of_one hl3
    have f3 := free_of_one hl3
    have hob' := owns_type hown' hl3 (by decide)
    obtain ⟨g, cap, rfl⟩ : ∃ g cap, v' = .slice (some ⟨g, 0, none⟩) (l.length + 1) cap := by
      rcases hown'.2 with ⟨_, h⟩ | ⟨g, cap, _, h, _⟩
      · omega
      · exact ⟨g, cap, h⟩
    have hbw : Below base w w1 := (((Below.refl _ _).alloc hbase _).alloc (by simp only [size_alloc]; omega) _).grown hgrow (by simp only [size_alloc]; omega) (fun k hk => (hown.lt k hk).1)
    have HO : Hid ((w.alloc (.cells #[.int .i64 x, .int .i64 y] 57)).heap.size = w.heap.size + 1) := size_alloc _ _
    have HW : Hid (w1.ownsRow base 57 2 (.slice (some ⟨g, 0, none⟩) (l.length + 1) cap) (l.length + 1) (flat l ++ [.int .i64 x, .int .i64 y])) := hown'
    have HG : Hid (((w.alloc (.cells #[.int .i64 x, .int .i64 y] 57)).alloc (.cells #[.int .i64 x, .int .i64 y] 57)).grownBy w1 v.ownBlock) := hgrow
    clear c1 f1 hl1 hl2 hown' hgrow
    go_wp2
    go_ret
    refine ⟨rfl, hbw.setCell hbl _, ⟨_, one_setCell hl3, ?_⟩, fun B => ⟨?_, fun k c _ hk => ?_⟩⟩
    · rw [flat_snoc]
      simp only [List.length_append, List.length_cons, List.length_nil, Nat.zero_add]
      exact ownsRow_setCell_other HW.out hob' _
    · have h1 := HG.out.size
      simp only [size_alloc] at h1
      simp
      omega
    · have hk1 := blk_old _ (.cells #[.int .i64 x, .int .i64 y] 57) _ (lt_of_block hk) hk
      have hk2 := blk_old _ (.cells #[.int .i64 x, .int .i64 y] 57) _ (lt_of_block hk1) hk1
      have hk3 := (HG.out.block _ (lt_of_block hk2) (fun e => owns_type hown hk (by decide) e.symm)).trans hk2
      refine (heap_setCell_other _ _ _ _ fun e => ?_).trans hk3
      have e' : k = Bl := e
      subst e'
      rw [hl] at hk
      exact absurd (Obj.cells.inj (Option.some.inj hk)).2.1 (by decide)

/-- What holds while the spans are gone through, and behind them. -/
structure SI (f : Nat → Bool) (w0 : World) (Bl : Nat) (p : Nat) (w : World) : Prop where
  bel : Below w0.heap.size w0 w
  row : ∃ v, w.heap[Bl]? = some (.cells #[v] 58 (0, 0)) ∧ w.ownsRow w0.heap.size 57 2 v (rs f p).length (flat (rs f p))
  seen : Seen f p (rs f p)
  le : p ≤ 1440
def SR (f : Nat → Bool) (w0 : World) (Bl : Nat) (w : World) : Prop :=
  Below w0.heap.size w0 w ∧ (∃ v, w.heap[Bl]? = some (.cells #[v] 58 (0, 0)) ∧ w.ownsRow w0.heap.size 57 2 v (rs f 1440).length (flat (rs f 1440))) ∧ Runs f 1440 (rs f 1440)

theorem spans_visit (f : Nat → Bool) (w0 w : World) (Bl : Nat) (hT : Tab w0) (lb : w0.heap.size ≤ Bl) (hI : SI f w0 Bl 0 w) :
    Calls Tryd.prog 40 #[.agg (mv f), .func (.func 41) #[] #[.pointer (some ⟨Bl, 0, none⟩)]] w fun e w' =>
      e = .returned (.tuple #[]) ∧ SR f w0 Bl w' := by
  refine visit_any f 41 _ (SI f w0 Bl) (SR f w0 Bl) w hI (fun _ _ => by simp [go_sem]) (fun p wr h => hT.later h.bel) ?_ ?_ ?_
  · intro p wr w' h hb
    obtain ⟨v, h1, h2⟩ := h.row
    exact ⟨h.bel.trans (hb.mono h.bel.size), ⟨v, (hb.block _ (lt_of_block h1)).trans h1, owns_below h2 hb⟩, h.seen, h.le⟩
  · intro p a b wr hsz h hpa hab hb3 hno hyes hbb
    obtain ⟨v, h1, h2⟩ := h.row
    have hs := h.seen.next a b hpa hab hb3 hno hyes hbb
    have e : rs f b = rs f p ++ [((a : Int), (b : Int))] := hs.same.symm
    refine (spansClosure_any a b v (rs f p) w0.heap.size Bl wr (by have := h.seen.runs.few; have := h.le; omega) h.bel.size lb h1 h2).mono ?_
    rintro e' w' ⟨rfl, hb, hrow, hab'⟩
    rw [← e] at hrow hs
    exact ⟨.inl ⟨rfl, h.bel.trans hb, hrow, hs, hb3⟩, hab' _⟩
  · intro p wr h hp hno
    obtain ⟨e, hr⟩ := h.seen.all hp hno
    have hrow := h.row
    rw [e] at hrow hr
    exact ⟨h.bel, hrow, hr⟩

set_option maxRecDepth 10000 in
set_option maxHeartbeats 1000000 in
theorem spans_any (f : Nat → Bool) (w : World) (hT : Tab w) :
    Calls Tryd.prog 33 #[.agg (mv f)] w fun e w' => (∃ v, e = .returned v ∧ Row w' v (rs f 1440)) ∧ Runs f 1440 (rs f 1440) ∧ Below w.heap.size w w' := by
  have hmf : ∀ (fn : Fn) (first cap : Array Value) (w : World), (Instr.makeFunc fn first cap).run Tryd.prog w = .ok (.func fn first cap) w := fun _ _ _ _ => rfl
  have hW1 : ((w.alloc (.cells (mv f) 41)).alloc (.cells #[.slice none 0 0] 58)).heap[w.heap.size]? = some (.cells (mv f) 41 (0, 0)) := by (repeat (first | refine blk_old _ _ _ (by simp only [size_alloc]; omega) ?_ | exact blk_new _ _ _ (by first | rfl | simp only [size_alloc])))
  have hW2 : ((w.alloc (.cells (mv f) 41)).alloc (.cells #[.slice none 0 0] 58)).heap[w.heap.size + 1]? = some (.cells #[.slice none 0 0] 58 (0, 0)) := by (repeat (first | refine blk_old _ _ _ (by simp only [size_alloc]; omega) ?_ | exact blk_new _ _ _ (by first | rfl | simp only [size_alloc])))
  have hb0 : Below w.heap.size w ((w.alloc (.cells (mv f) 41)).alloc (.cells #[.slice none 0 0] 58)) := ((Below.refl _ _).alloc (Nat.le_refl _) _).alloc (by simp) _
  have cv := spans_visit f w _ _ hT (by omega) ⟨hb0, ⟨_, hW2, World.ownsRow_nil _ _ _ _⟩, Seen.zero f, by omega⟩
  clear hW2 hb0
  go_enter Tryd.func33, Tryd.ntmps33
  go_wp2_with (first
    | (refine wpList_load_row rfl 41 _ rfl _ rfl _ _ _ _ hW1 maskType rfl (maskSize _) ?_)
    | (go_at_call 40; refine cv.mono ?_; rintro e w' ⟨rfl, hbel, ⟨v, hv, hown⟩, hruns⟩; have c1 := cell_of_one hv; have HR : Hid (Row w' v (rs f 1440)) := row_of_owns hown (by have := hruns.few; omega); have HN : Hid (Runs f 1440 (rs f 1440)) := hruns; clear hown hruns))
  go_ret
  exact ⟨⟨v, rfl, HR.out⟩, HN.out, hbel⟩
end Go.Proofs.YtlhjgajhcabhoaaDoor

/- What match.pick comes to. -/
namespace Go.Proofs.YtlhjgajhcabhoaaDoor
open Go.RowKit Msk Mx

def intsV (l : List Int) : List Value := l.map fun n => .int .i64 n
theorem intsV_len (l : List Int) : (intsV l).length = l.length := by simp [intsV]
theorem intsV_snoc (l : List Int) (n : Int) : intsV (l ++ [n]) = intsV l ++ [.int .i64 n] := by simp [intsV]
theorem intT : Tryd.prog.underlying 26 = some (.slice 3) := by kernel_rfl
theorem intInfo : (Tryd.prog.info? 3).map (fun i => (i.zero, i.size, i.bytes)) = some (some (.int .i64 0), 1, 8) := by kernel_rfl
theorem info_of {t : TypeId} {z : Value} {a b : Nat} (h : (Tryd.prog.info? t).map (fun i => (i.zero, i.size, i.bytes)) = some (some z, a, b)) : ∃ i, Tryd.prog.info? t = some i ∧ i.zero = some z ∧ i.size = a ∧ i.bytes = b := by
  cases hi : Tryd.prog.info? t with
  | none => rw [hi] at h; cases h
  | some i =>
    rw [hi] at h
    have h' := Option.some.inj h
    exact ⟨i, rfl, congrArg (fun x => x.1) h', congrArg (fun x => x.2.1) h', congrArg (fun x => x.2.2) h'⟩
/-- A row of one's own is a row. -/
theorem rowI_of_owns {w : World} {base : Nat} {v : Value} {l : List Int} (h : w.ownsRow base 3 1 v l.length (intsV l)) (hl : l.length < 9223372036854775808) : RowI w v l := by
  rcases h.2 with ⟨rfl, e⟩ | ⟨g, cap, cur, rfl, _, hg, _, _, _, ht⟩
  · refine ⟨none, 0, by rw [e], hl, fun j n hj => ?_⟩
    have := (List.getElem?_eq_some_iff.1 hj).1
    omega
  · refine ⟨_, cap, rfl, hl, fun j n hj => ⟨g, 0, rfl, ?_⟩⟩
    have hj' := (List.getElem?_eq_some_iff.1 hj).1
    rw [Nat.zero_add, cell_of_row w g j cur 3 (0, 0) hg, ← Array.getElem?_toList]
    have e : (intsV l)[j]? = some (.int .i64 n) := by simp [intsV, hj]
    rw [← ht, Nat.mul_one, List.getElem?_take_of_lt hj'] at e
    exact e
/-- One more in a row of one's own: at the same place, the row ahead of it being there still, or in new memory. -/
theorem append_pick (w : World) (base : Nat) (v : Value) (l : List Int) (r : Int) (hown : w.ownsRow base 3 1 v l.length (intsV l)) (gn c : Nat) (hn : w.cell? ⟨gn, 0, none⟩ = some (.int .i64 r)) (ty : TypeId) (hl : l.length ≤ 1000000) (hb : base ≤ w.heap.size) :
    ∃ v' w', (Builtin.append_ #[26, 26] ty #[v, .slice (some ⟨gn, 0, none⟩) 1 c]).run Tryd.prog w = .ok v' w' ∧ w'.ownsRow base 3 1 v' (l.length + 1) (intsV (l ++ [r])) ∧
      ((v'.ownBlock = v.ownBlock ∧ w.grownBy w' v.ownBlock ∧ ∀ w2 : World, w2.ownsRow base 3 1 v' (l.length + 1) (intsV (l ++ [r])) → w2.ownsRow base 3 1 v l.length (intsV l)) ∨ (w.grownBy w' none ∧ ∃ g, v'.ownBlock = some g ∧ w.heap.size ≤ g)) := by
  obtain ⟨i, hi, hz, hs, hby⟩ := info_of intInfo
  have hnews : ∀ (j : Nat) u, [Value.int .i64 r][j]? = some u → w.cell? ((⟨gn, 0, none⟩ : Addr).add j) = some u := fun j u hu => by
    match j, hu with
    | 0, hu => cases Option.some.inj hu; simpa [Addr.add] using hn
    | j + 1, hu => simp at hu
  have hml : l.length + 1 ≤ maxLen := by unfold maxLen; omega
  have grown : ∀ (old : Nat), (w.drew.alloc (.cells ((intsV l).toArray ++ [Value.int .i64 r].toArray ++ Builtin.zeroCells (Value.int .i64 0).cells (grownCap w (l.length + 1) old 3 - (l.length + 1))) 3)).ownsRow base 3 1 (.slice (some ⟨w.heap.size, 0, none⟩) (l.length + 1) (grownCap w (l.length + 1) old 3)) (l.length + 1) (intsV (l ++ [r])) ∧
      w.grownBy (w.drew.alloc (.cells ((intsV l).toArray ++ [Value.int .i64 r].toArray ++ Builtin.zeroCells (Value.int .i64 0).cells (grownCap w (l.length + 1) old 3 - (l.length + 1))) 3)) none := by
    intro old
    have hge := grownCap_ge w (l.length + 1) old 3
    have hcm := grownCap_le_maxLen w (l.length + 1) old 3 hml
    refine ⟨⟨by rw [intsV_len]; simp, .inr ⟨w.heap.size, _, _, rfl, hb, heap_alloc_new w.drew _, hge, hcm, ?_, ?_⟩⟩, ⟨rfl, rfl, rfl, by simp, fun k hk _ => Array.getElem?_push_lt hk |>.trans (Array.getElem?_eq_getElem hk).symm⟩⟩
    · simp only [Array.size_append, List.size_toArray, size_zeroCells, intsV_len]
      show l.length + [Value.int .i64 r].length + (grownCap w (l.length + 1) old 3 - (l.length + 1)) * 1 = _
      simp only [List.length_cons, List.length_nil]
      omega
    · rw [intsV_snoc]
      simp only [Array.toList_append, List.append_assoc]
      rw [← List.append_assoc, show (l.length + 1) * 1 = (intsV l ++ [Value.int .i64 r]).length by simp [intsV_len]]
      exact List.take_left
  rcases hown.2 with ⟨rfl, e0⟩ | ⟨g, cap, cur, rfl, hbg, hg, hnc, hcm, hcs, htake⟩
  · have hl0 : l = [] := List.eq_nil_of_length_eq_zero e0
    subst hl0
    have hr := run_append_nil (P := Tryd.prog) w 26 ty 3 i (.int .i64 0) intT hi hz ⟨gn, 0, none⟩ 1 c [.int .i64 r] (by rw [hs]; rfl) hnews (by omega) (by omega) (by omega)
    have hgr := grown 0
    refine ⟨_, _, hr, ?_, .inr ⟨?_, _, rfl, Nat.le_refl _⟩⟩
    · simpa [intsV] using hgr.1
    · simpa [intsV] using hgr.2
  · by_cases hroom : l.length + 1 ≤ cap
    · have hfit : l.length * i.size + [Value.int .i64 r].length ≤ cur.size := by rw [hs, hcs]; simp; omega
      have hr := run_append_room (P := Tryd.prog) w 26 ty 3 i intT hi g l.length cap cur hg ⟨gn, 0, none⟩ 1 c [.int .i64 r] (by rw [hs]; rfl) hnews (by simp [Value.oneCell']) hroom hfit
      refine ⟨_, _, hr, ⟨by rw [intsV_len]; simp, .inr ⟨g, cap, _, rfl, hbg, setRow_heap w g cur _ 3 _ hg, hroom, hcm, ?_, ?_⟩⟩, .inl ⟨rfl, ⟨rfl, rfl, rfl, by simp, fun k _ hk => setRow_other w g k _ (fun e => hk (by simp [Value.ownBlock, e]))⟩, fun w2 h2 => ?_⟩⟩
      · rw [hs]
        simp only [List.size_toArray, List.length_append, List.length_take, List.length_drop, Array.length_toList]
        simp only [List.length_cons, List.length_nil]
        omega
      · rw [hs, htake, intsV_snoc, show (l.length + 1) * 1 = (intsV l ++ [Value.int .i64 r]).length by simp [intsV_len]]
        exact List.take_left
      · refine ⟨hown.1, ?_⟩
        rcases h2.2 with ⟨e, _⟩ | ⟨g', cap', cur', e, hb', hg', hn', hm', hs', ht'⟩
        · cases e
        · injection e with e1 e2 e3
          injection e1 with e1
          injection e1 with e1
          subst e1 e3
          refine .inr ⟨g, cap, cur', rfl, hb', hg', by omega, hm', hs', ?_⟩
          have h3 := congrArg (List.take (l.length * 1)) ht'
          rw [List.take_take, intsV_snoc, Nat.min_eq_left (by omega), List.take_append_of_le_length (by rw [intsV_len]; omega)] at h3
          rw [h3]
          exact List.take_of_length_le (by rw [intsV_len]; omega)
    · have holds : ∀ j u, (intsV l)[j]? = some u → w.cell? ((⟨g, 0, none⟩ : Addr).add j) = some u := hown.cells (g := g) rfl
      have hr := run_append_grow (P := Tryd.prog) w 26 ty 3 i (.int .i64 0) intT hi hz ⟨g, 0, none⟩ l.length cap (intsV l) (by rw [hs]; exact hown.1) holds ⟨gn, 0, none⟩ 1 c [.int .i64 r] (by rw [hs]; rfl) hnews (by omega) (by omega) (growslice_fits (by omega) (by rw [hby]; omega))
      exact ⟨_, _, hr, (grown cap).1, .inr ⟨(grown cap).2, _, rfl, Nat.le_refl _⟩⟩
end Go.Proofs.YtlhjgajhcabhoaaDoor

/- What match.pick comes to: one of each pool, none twice. -/
namespace Go.Proofs.YtlhjgajhcabhoaaDoor
open Go.RowKit Msk Mx

theorem below_grownBy {B : Nat} {w0 w w' : World} {row : Option Nat} (hb : Below B w0 w) (hg : w.grownBy w' row) (hB : B ≤ w0.heap.size) (hr : ∀ k, row = some k → B ≤ k) : Below B w0 w' :=
  ⟨hg.os.trans hb.os, hg.tape.trans hb.tape, hg.output.trans hb.output, Nat.le_trans hb.size hg.size, fun k hk => (hg.block k (Nat.lt_of_lt_of_le (Nat.lt_of_lt_of_le hk hB) hb.size) (fun e => by have := hr k e.symm; omega)).trans (hb.block k hk)⟩
theorem grownBy_of_below {w w' : World} (hb : Below w.heap.size w w') (row : Option Nat) : w.grownBy w' row := ⟨hb.os, hb.tape, hb.output, hb.size, fun k hk _ => hb.block k hk⟩
theorem grown_then {a b c : World} {row row' : Option Nat} (h : a.grownBy b row) (k : b.grownBy c row') (hr : ∀ j, row' = some j → a.heap.size ≤ j ∨ row = some j) : a.grownBy c row :=
  ⟨k.os.trans h.os, k.tape.trans h.tape, k.output.trans h.output, Nat.le_trans h.size k.size, fun q hq hne => (k.block q (Nat.lt_of_lt_of_le hq h.size) (fun e => by
    rcases hr q e.symm with h1 | h1
    · omega
    · exact hne h1.symm)).trans (h.block q hq hne)⟩
theorem grown_but {a c : World} (h : a.grownBy c none) (row : Option Nat) : a.grownBy c row := ⟨h.os, h.tape, h.output, h.size, fun i hi _ => h.block i hi (by simp)⟩
/-- One more, in the walk. -/
theorem wpList_append_pick {ops : Array Oper} {rest : List Oper} {o : Oper} {a : Act} {w : World} {Q : Exit → Act → World → Prop} (hgd : o.guard = none) (s x : Operand) (ho : o.op = .call { callee := .builtin .append, args := #[s, x], argTypes := #[26, 26] })
    (base : Nat) (v : Value) (l : List Int) (r : Int) (hs : a.eval s = v) (hown : w.ownsRow base 3 1 v l.length (intsV l)) (gn c : Nat) (hx : a.eval x = .slice (some ⟨gn, 0, none⟩) 1 c) (hn : w.cell? ⟨gn, 0, none⟩ = some (.int .i64 r)) (hl : l.length ≤ 1000000) (hb : base ≤ w.heap.size)
    (h : ∀ v' w', w'.ownsRow base 3 1 v' (l.length + 1) (intsV (l ++ [r])) → ((v'.ownBlock = v.ownBlock ∧ w.grownBy w' v.ownBlock ∧ ∀ w2 : World, w2.ownsRow base 3 1 v' (l.length + 1) (intsV (l ++ [r])) → w2.ownsRow base 3 1 v l.length (intsV l)) ∨ (w.grownBy w' none ∧ ∃ g, v'.ownBlock = some g ∧ w.heap.size ≤ g)) → wpList Tryd.prog ops Q rest (a.put o.dst v') w') : wpList Tryd.prog ops Q (o :: rest) a w := by
  refine wpList_plain hgd fun K hK => ?_
  obtain ⟨v', w', hr, h1, h2⟩ := append_pick w base v l r hown gn c hn o.type hl hb
  unfold Oper.wp execOp
  simp only [ho, resolve, invoke, builtin, Sem.run_bind, Sem.run_pure, Result.andThen_ok, List.map_toArray, List.map_cons, List.map_nil, hs, hx, hr]
  exact hK _ _ (h v' w' h1 h2)
/-- What is picked. -/
def OutK (B : Nat) (res : Option (List Int)) (t : List Int) (tv : Value) (w : World) (e : Ending) (w' : World) : Prop :=
  w.grownBy w' tv.ownBlock ∧ ((∃ who v', res = some who ∧ e = .returned (.tuple #[v', .bool true]) ∧ w'.ownsRow B 3 1 v' who.length (intsV who)) ∨ (res = none ∧ e = .returned (.tuple #[.slice none 0 0, .bool false]) ∧ w'.ownsRow B 3 1 tv t.length (intsV t)))
theorem findSome_step {α β : Type} {f : α → Option β} {l : List α} {j : Nat} {x : α} (h : l[j]? = some x) : (l.drop j).findSome? f = match f x with | some y => some y | none => (l.drop (j + 1)).findSome? f := by
  obtain ⟨h1, h2⟩ := List.getElem?_eq_some_iff.1 h
  rw [List.drop_eq_getElem_cons h1, h2]
  rw [List.findSome?_cons]
  cases f x <;> rfl
set_option maxRecDepth 100000 in
set_option maxHeartbeats 2000000 in
theorem pick_any (pools : List (List Int)) (pv : Value) (w0 : World) (hP : RowRI w0 pv pools) (hpl : pools.length ≤ 1000) : ∀ (k : Nat) (t : List Int) (tv : Value) (w : World), t.length + k = pools.length → Below w0.heap.size w0 w → w.ownsRow w0.heap.size 3 1 tv t.length (intsV t) →
    Calls Tryd.prog 29 #[pv, tv] w (OutK w0.heap.size (pickP pools k t) t tv w) := by
  intro k
  induction k with
  | zero =>
    intro t tv w hk hb hown
    obtain ⟨pp, pc, rfl, hplen, _⟩ := hP
    obtain ⟨ta, tc, htv, _, _⟩ := rowI_of_owns hown (by omega)
    have he : ((t.length : Int) == (pools.length : Int)) = true := by rw [beq_iff_eq]; omega
    have HO := hidr hown
    subst htv
    clear hown
    go_enter Tryd.func29, Tryd.ntmps29
    go_wp2_with fail
    go_ret2
    exact ⟨World.grownBy.refl _ _, .inl ⟨t, _, rfl, rfl, HO.out⟩⟩
  | succ k ih =>
    intro t tv w hk hb hown
    have IH := hidr ih
    clear ih
    obtain ⟨pool, hpool⟩ : ∃ p, pools[t.length]? = some p := ⟨pools[t.length]'(by omega), List.getElem?_eq_getElem (by omega)⟩
    have HP := hidr hP
    obtain ⟨pp, pc, rfl, hplen, hall⟩ := hP
    obtain ⟨gp, op, sv, hpp, hcp0, hrowp⟩ := hall _ _ hpool
    subst hpp
    have hcp := (hb.cell (block_lt_of_cell hcp0)).trans hcp0
    obtain ⟨ap, cp, rfl, hlenp, hcells⟩ := hrowp
    have HC := hidr hcells
    obtain ⟨ta, tc, htv, _, _⟩ := rowI_of_owns hown (by omega)
    subst htv
    have hne : ((t.length : Int) == (pools.length : Int)) = false := by rw [beq_eq_false_iff_ne]; omega
    have hlt : (t.length : Int) < (pools.length : Int) := by omega
    have ht0 : (0 : Int) ≤ (t.length : Int) := by omega
    have HO := hidr hown
    have HB := hidr hb
    have HE : Hid (pickP pools (k + 1) t = pool.findSome? fun r => if r ∈ t then none else pickP pools k (t ++ [r])) := by
      show _ = _
      rw [pickP]
      congr 1
      simp [List.getD, hpool]
    clear hall hcells hown hb hpool hcp0
    go_enter Tryd.func29, Tryd.ntmps29
    go_wp2_with fail
    go_loopw [7, 8, 9, 22] (fun _ _ _ x wr => ∃ j : Nat, x = .int .i64 (j : Int) ∧ j ≤ pool.length ∧ Hid (pickP pools (k + 1) t = (pool.drop j).findSome? fun r => if r ∈ t then none else pickP pools k (t ++ [r])) ∧ Hid (wr.ownsRow w0.heap.size 3 1 (.slice ta t.length tc) t.length (intsV t)) ∧ Hid (w.grownBy wr (Value.slice ta t.length tc).ownBlock)) (fun _ _ _ x _ => pool.length - (intOf x).toNat)
    case atStart => exact ⟨0, rfl, by omega, HE, HO, World.grownBy.refl _ _⟩
    case round =>
      obtain ⟨j, rfl, hj, hX, hO, hG⟩ := hrel
      have hj0 : (0 : Int) ≤ (j : Int) := by omega
      by_cases hltj : j < pool.length
      · have hltj' : (j : Int) < (pool.length : Int) := by omega
        obtain ⟨r, hjr⟩ : ∃ r, pool[j]? = some r := ⟨pool[j], List.getElem?_eq_getElem hltj⟩
        obtain ⟨g, o, hpe, c0⟩ := HC.out j _ hjr
        subst hpe
        have hrow : ∀ q, (Value.slice ta t.length tc).ownBlock = some q → w0.heap.size ≤ q := fun q hq => (HO.out.lt q hq).1
        have HBr := hidr (below_grownBy HB.out hG.out (Nat.le_refl _) hrow)
        have hS := findSome_step (f := fun r => if r ∈ t then none else pickP pools k (t ++ [r])) hjr
        have c1 := contains5_any t (.slice ta t.length tc) r wr (rowI_of_owns hO.out (by omega))
        have c0' := (HBr.out.cell (block_lt_of_cell c0)).trans c0
        by_cases hm : r ∈ t
        · rw [if_pos hm] at hS
          rw [decide_eq_true hm] at c1
          have HX := hidr (hX.out.trans hS)
          clear hS hX hjr
          go_wp2_with fail
          refine c1.mono ?_
          rintro e w2 ⟨rfl, b2⟩
          have HO2 := hidr (owns_below hO.out b2)
          have HG2 := hidr (hG.out.trans (grownBy_of_below b2 _))
          clear c1 hO hG b2
          go_wp2_with fail
          go_roundw
          case rel => exact ⟨j + 1, by go_num, by omega, HX, HO2, HG2⟩
          case measure => simp [intOf]; omega
        · rw [if_neg hm] at hS
          rw [decide_eq_false hm] at c1
          have HX := hidr (hX.out.trans hS)
          clear hS hX hjr hm
          go_wp2_with fail
          refine c1.mono ?_
          rintro e w2 ⟨rfl, b2⟩
          have HO2 := hidr (owns_below hO.out b2)
          have HG2 := hidr (hG.out.trans (grownBy_of_below b2 _))
          have HB2 := hidr (HBr.out.trans (b2.mono HBr.out.size))
          clear c1 hO hG b2 HBr c0 c0'
          have bA := (Below.refl w2.heap.size w2).alloc (Nat.le_refl _) (.cells #[.int .i64 r] 3)
          have nA := heap_alloc_new w2 (.cells #[.int .i64 r] 3)
          generalize hwA : w2.alloc (.cells #[.int .i64 r] 3) = wA at *
          have zA := (cell_of_row _ _ 0 _ _ _ nA).trans rfl
          have HOA := hidr (owns_below HO2.out bA)
          have HGA := hidr (HG2.out.trans (grownBy_of_below bA _))
          have HBA := hidr (HB2.out.trans (bA.mono HB2.out.size))
          clear bA nA HO2 HG2 HB2
          go_wp2_with (first
            | (refine wpList_append_pick rfl _ _ rfl w0.heap.size _ t r rfl ?ho w2.heap.size 1 rfl zA ?hl ?hb ?_
               case ho => exact HOA.out
               case hl => omega
               case hb => exact HBA.out.size
               intro v' w3 ho3 hcase))
          have hl1 : (t ++ [r]).length = t.length + 1 := by simp
          have hfar : ∀ w4 : World, w3.grownBy w4 v'.ownBlock → wA.grownBy w4 (Value.slice ta t.length tc).ownBlock ∧ ((v'.ownBlock = (Value.slice ta t.length tc).ownBlock) ∨ wA.grownBy w4 none) := fun w4 h4 => by
            rcases hcase with ⟨e, g1, _⟩ | ⟨g1, q, e, hq⟩
            · rw [e] at h4
              exact ⟨g1.trans h4, .inl e⟩
            · rw [e] at h4
              have := grown_then g1 h4 (fun j hj => by cases hj; exact .inl hq)
              exact ⟨grown_but this _, .inr this⟩
          have HB3 := hidr (below_grownBy HBA.out (hfar w3 (World.grownBy.refl _ _)).1 (Nat.le_refl _) hrow)
          have c2 := IH.out (t ++ [r]) v' w3 (by rw [hl1]; omega) HB3.out (by rw [hl1]; exact ho3)
          have HF := hidr hfar
          have HC3 : Hid (∀ w2 : World, (v'.ownBlock = (Value.slice ta t.length tc).ownBlock) ∨ wA.grownBy w2 none → w2.ownsRow w0.heap.size 3 1 v' (t.length + 1) (intsV (t ++ [r])) → w2.ownsRow w0.heap.size 3 1 (.slice ta t.length tc) t.length (intsV t)) := fun w2 hor h2 => by
            rcases hcase with ⟨_, _, h⟩ | ⟨_, q, e, hq⟩
            · exact h w2 h2
            · rcases hor with h | h
              · exfalso
                rw [e] at h
                have := (HOA.out.lt q h.symm).2
                omega
              · exact HOA.out.kept h (by cases hz : (Value.slice ta t.length tc).ownBlock <;> simp)
          have HL := hidr hl1
          clear hcase hfar ho3 hl1 HB3
          refine c2.mono ?_
          rintro e w4 ⟨hg4, ⟨who, v2, hw, rfl, ho4⟩ | ⟨hw, rfl, ho4⟩⟩
          · have HX2 : Hid (pickP pools (k + 1) t = some who) := by
              show _ = _
              rw [HX.out, hw]
            have HR := hidr (HGA.out.trans (HF.out w4 hg4).1)
            clear c2 hg4 hw
            go_wp2_with fail
            go_ret2
            exact ⟨HR.out, .inl ⟨who, v2, HX2.out, rfl, ho4⟩⟩
          · have HX2 : Hid (pickP pools (k + 1) t = (pool.drop (j + 1)).findSome? fun r => if r ∈ t then none else pickP pools k (t ++ [r])) := by
              show _ = _
              rw [HX.out, hw]
            have HR := hidr (HGA.out.trans (HF.out w4 hg4).1)
            have HR2 := hidr (HC3.out w4 (HF.out w4 hg4).2 (by rw [HL.out] at ho4; exact ho4))
            clear c2 hg4 hw ho4
            go_wp2_with fail
            go_roundw
            case rel => exact ⟨j + 1, by go_num, by omega, HX2, HR2, HR⟩
            case measure => simp [intOf]; omega
      · have hltj' : ¬ (j : Int) < (pool.length : Int) := by omega
        have HX : Hid (pickP pools (k + 1) t = none) := by
          show _ = _
          rw [hX.out, List.drop_of_length_le (by omega)]
          rfl
        go_wp2_with fail
        go_ret2
        exact ⟨hG.out, .inr ⟨HX.out, rfl, hO.out⟩⟩
end Go.Proofs.YtlhjgajhcabhoaaDoor
