/- What masks.visitRuns comes to, whatever function it is handed. -/
import Derived.Test.YtemdkpjdbciemaaDoorFirstA
import Derived.Test.YtemdkpjdbciemaaDoorOfA
import Derived.Test.YtemdkpjdbciemaaDoorRuns
import Derived.Test.YtemdkpjdbciemaaDoorFlow
namespace Go.Proofs.YtemdkpjdbciemaaDoor
open Go.RowKit Msk

/-- Masks in blocks from B on are as they were; no block has gone. -/
def Above (B : Nat) (w w' : World) : Prop := w.heap.size ≤ w'.heap.size ∧ ∀ k c, B ≤ k → w.heap[k]? = some (.cells c 37 (0, 0)) → w'.heap[k]? = some (.cells c 37 (0, 0))

theorem inl_day : mv (inl [((0 : Int), (1440 : Int))]) = mv fun i => decide (i < 1440) := mv_ext fun i _ => by
  have : ((i : Int) < 1440) = (i < 1440) := by apply propext; omega
  simp [inl, this]

theorem row_at {W : World} {g : Nat} {x y : Int} {t : TypeId} (hb : W.heap[g]? = some (.cells #[.int .i64 x, .int .i64 y] t (0, 0))) : Row W (.slice (some ⟨g, 0, none⟩) 1 1) [(x, y)] := by
  refine .inr ⟨_, 0, 1, rfl, by simp, fun j hj => ?_⟩
  have : j = 0 := by simpa using hj
  subst this
  exact ⟨by rw [cell_of_row _ _ _ _ _ _ hb]; rfl, by rw [cell_of_row _ _ _ _ _ _ hb]; rfl⟩
theorem row_new (W : World) (g : Nat) (hg : g = W.heap.size) (x y : Int) (t : TypeId) : Row (W.alloc (.cells #[.int .i64 x, .int .i64 y] t)).drew (.slice (some ⟨g, 0, none⟩) 1 1) [(x, y)] := by
  subst hg
  refine .inr ⟨_, 0, 1, rfl, by simp, fun j hj => ?_⟩
  have : j = 0 := by simpa using hj
  subst this
  have hb : (W.alloc (.cells #[.int .i64 x, .int .i64 y] t)).drew.heap[W.heap.size]? = some (.cells #[.int .i64 x, .int .i64 y] t (0, 0)) := heap_alloc_new W _
  exact ⟨by rw [cell_of_row _ _ _ _ _ _ hb]; rfl, by rw [cell_of_row _ _ _ _ _ _ hb]; rfl⟩
/-- What each operation of the region yields. -/
def vsp (B : Nat) (f : Nat → Bool) (i : Nat) (v : Value) (W : World) : Prop := match i with
  | 0 => v = .agg #[.int .i64 0, .int .i64 1440]
  | 1 => ∃ g, v = .slice (some ⟨g, 0, none⟩) 1 1 ∧ W.heap[g]? = some (.cells #[.int .i64 0, .int .i64 1440] 39 (0, 0))
  | 2 => v = .agg (mv fun i => decide (i < 1440))
  | 3 => v = .agg (mv f)
  | 4 => v = .agg (mv fun i => (decide (i < 1440) && !f i) && decide (i < 1440))
  | 5 => ∃ g c, v = .pointer (some ⟨g, 0, none⟩) ∧ B < g ∧ W.heap[g]? = some (.cells (mv c) 37 (0, 0))
  | _ => True
theorem vsp_mono {B : Nat} {f : Nat → Bool} {W W' : World} (hb : Below W.heap.size W W') (i : Nat) (v : Value) (h : vsp B f i v W) : vsp B f i v W' := by
  unfold vsp at *
  split at h
  · exact h
  · obtain ⟨g, h1, h2⟩ := h
    exact ⟨g, h1, (hb.block g (lt_of_block h2)).trans h2⟩
  · exact h
  · exact h
  · exact h
  · obtain ⟨g, c, h1, h2, h3⟩ := h
    exact ⟨g, c, h1, h2, (hb.block g (lt_of_block h3)).trans h3⟩
  · trivial
/-- What is said of the world. -/
structure VJ (B : Nat) (f : Nat → Bool) (W0 : World) (L : Nat → Bool) (a : Act) (W : World) : Prop where
  bel : Below (B + 1) W0 W
  last : L 6 = true → ∀ k, k < 6 → L k = true
  done : L 6 = true → ∃ g, a.tmps.getD 4 undef = .pointer (some ⟨g, 0, none⟩) ∧ B < g ∧ W.heap[g]? = some (.cells (mv fun i => (decide (i < 1440) && !f i) && decide (i < 1440)) 37 (0, 0))

set_option maxRecDepth 10000 in
set_option maxHeartbeats 2000000 in
theorem visit_any (f : Nat → Bool) (K : Nat) (C : Array Value) (I : Nat → World → Prop) (R : World → Prop) (w : World) (hI : I 0 w)
    (eK : ∀ args w, (callFunc K args).run Tryd.prog w = .ok (.enter K args) w)
    (hT : ∀ p wr, I p wr → Tab wr) (hmono : ∀ p wr w', I p wr → Below wr.heap.size wr w' → I p w')
    (hstep : ∀ (p a b : Nat) (wr : World), w.heap.size ≤ wr.heap.size → I p wr → p ≤ a → a < b → b ≤ 1440 → (∀ i, p ≤ i → i < a → f i = false) → (∀ i, a ≤ i → i < b → f i = true) → (b < 1440 → f b = false) →
      Calls Tryd.prog K (#[.agg #[.int .i64 a, .int .i64 b]] ++ C) wr fun e w' => ((e = .returned (.bool true) ∧ I b w') ∨ (e = .returned (.bool false) ∧ R w')) ∧ Above w.heap.size wr w')
    (hend : ∀ (p : Nat) (wr : World), I p wr → p ≤ 1440 → (∀ i, p ≤ i → i < 1440 → f i = false) → R wr) :
    Calls Tryd.prog 47 #[.agg (mv f), .func (.func K) #[] C] w fun e w' => e = .returned (.tuple #[]) ∧ R w' := by
  have hz := mv_lit
  have h1 : (w.alloc (.cells (mv f) 37)).heap[w.heap.size]? = some (.cells (mv f) 37 (0, 0)) := by (repeat (first | refine blk_old _ _ _ (by simp only [size_alloc]; omega) ?_ | exact blk_new _ _ _ (by first | rfl | simp only [size_alloc])))
  go_enter Tryd.func47, Tryd.ntmps47
  go_wp2
  refine wp_region_flow (by kernel_rfl) (by kernel_rfl) (by kernel_rfl) (by kernel_rfl) (VJ w.heap.size f (w.alloc (.cells (mv f) 37))) (vsp w.heap.size f) ?_ ?_ ?_
  · intro L hL
    have h6 : L 6 = true → False := fun h => by
      rw [hL 6 (by simp)] at h
      cases h
    exact ⟨(Below.refl _ _).drew, fun h => (h6 h).elim, fun h => (h6 h).elim⟩
  · clear hI eK hT hmono hstep hend
    intro i o L a W ho hLi hdep hJ hdef hkept hhas
    clear hdef
    have not6 : i < 6 → L 6 = true → False := fun h6 h => by
      have := hJ.last h i h6
      rw [hLi] at this; cases this
    have fin : ∀ (v : Value) (d : Nat) (W' : World), i < 6 → Below W.heap.size W W' → vsp w.heap.size f i v W' → ∃ u, a.put (some d) v = a.put (some d) u ∧ (some d ≠ none → vsp w.heap.size f i u W') ∧ (∀ j x, L j = true → vsp w.heap.size f j x W → vsp w.heap.size f j x W') ∧ VJ w.heap.size f (w.alloc (.cells (mv f) 37)) (fun k => decide (i = k) || L k) (a.put (some d) v) W' := by
      intro v d W' h6 hb hv
      have hno : (decide (i = 6) || L 6) = true → False := fun h => by
        have : i ≠ 6 := by omega
        simp [this] at h
        exact not6 h6 h
      exact ⟨v, rfl, fun _ => hv, fun j x _ h => vsp_mono hb j x h, hJ.bel.trans (hb.mono (by have := hJ.bel.size; rw [size_alloc] at this; omega)), fun h => (hno h).elim, fun h => (hno h).elim⟩
    match i, ho with
    | 0, ho =>
      cases Option.some.inj ho
      refine wpOp_step rfl (fun K hK => ?_)
      go_simp
      exact hK _ _ (fin _ 7 _ (by omega) (Below.refl _ _) rfl)
    | 1, ho =>
      cases Option.some.inj ho
      have hA : a.tmps[7]?.getD undef = .agg #[.int .i64 0, .int .i64 1440] := by
        have := hhas 0 _ rfl (hdep ⟨0, .data⟩ (by simp) rfl) 7 rfl
        simpa [vsp] using this
      refine wpOp_step rfl (fun K hK => ?_)
      go_simp
      exact hK _ _ (fin _ 8 _ (by omega) ((Below.refl _ _).alloc (Nat.le_refl _) _) ⟨_, rfl, heap_alloc_new W _⟩)
    | 2, ho =>
      cases Option.some.inj ho
      obtain ⟨g, hA0, hg⟩ := hhas 1 _ rfl (hdep ⟨1, .data⟩ (by simp) rfl) 8 rfl
      have hA : a.tmps[8]?.getD undef = .slice (some ⟨g, 0, none⟩) 1 1 := by simpa using hA0
      have hrow : Row W (.slice (some ⟨g, 0, none⟩) 1 1) [((0 : Int), (1440 : Int))] := row_at hg
      refine wpOp_step rfl (fun K hK => ?_)
      go_simp
      refine (of_any _ _ _ hrow).mono ?_
      rintro e W' ⟨rfl, hb⟩
      rw [inl_day]
      exact hK _ _ (fin _ 9 _ (by omega) hb rfl)
    | 3, ho =>
      cases Option.some.inj ho
      have hA : a.eval (.tmp 2) = .pointer (some ⟨w.heap.size, 0, none⟩) := by
        have := hkept 2 (fun j p hp _ => nd (by kernel_rfl) j p hp)
        exact this
      have hg : W.heap[w.heap.size]? = some (.cells (mv f) 37 (0, 0)) := (hJ.bel.block _ (by omega)).trans h1
      refine wpOp_step rfl (fun K hK => ?_)
      show Oper.wp _ _ _ _ _ _
      refine wp_load_row 37 _ rfl _ hA _ _ _ _ hg maskType rfl (maskSize _) ?_
      exact hK _ _ (fin _ 10 _ (by omega) (Below.refl _ _) rfl)
    | 4, ho =>
      cases Option.some.inj ho
      have hA0 := hhas 2 _ rfl (hdep ⟨2, .data⟩ (by simp) rfl) 9 rfl
      have hA : a.tmps[9]?.getD undef = .agg (mv fun i => decide (i < 1440)) := by simpa [vsp] using hA0
      have hB0 := hhas 3 _ rfl (hdep ⟨3, .data⟩ (by simp) rfl) 10 rfl
      have hB : a.tmps[10]?.getD undef = .agg (mv f) := by simpa [vsp] using hB0
      refine wpOp_step rfl (fun K hK => ?_)
      go_simp
      refine (diff_any _ _ _).mono ?_
      rintro e W' ⟨rfl, hb⟩
      exact hK _ _ (fin _ 11 _ (by omega) hb rfl)
    | 5, ho =>
      cases Option.some.inj ho
      refine wpOp_step rfl (fun K hK => ?_)
      go_simp
      have hs := hJ.bel.size
      rw [size_alloc] at hs
      exact hK _ _ (fin _ 4 _ (by omega) ((Below.refl _ _).alloc (Nat.le_refl _) _) ⟨_, _, rfl, by omega, heap_alloc_new W _⟩)
    | 6, ho =>
      cases Option.some.inj ho
      obtain ⟨g, c, hA0, hgB, hg⟩ := hhas 5 _ rfl (hdep ⟨5, .data⟩ (by simp) rfl) 4 rfl
      have hB0 := hhas 4 _ rfl (hdep ⟨4, .data⟩ (by simp) rfl) 11 rfl
      refine wpOp_step rfl (fun K hK => ?_)
      show Oper.wp _ _ _ _ _ _
      refine wp_store_row 37 _ _ rfl _ _ hA0 hB0 _ _ hg (maskSize _) (by simp [mv_size]) (mv_all _) ?_
      refine hK _ _ ⟨undef, rfl, fun h => absurd rfl h, fun j x _ h => ?_, below_setRow hJ.bel (by omega) _, fun _ k hk => ?_, fun _ => ⟨g, hA0, hgB, setRow_heap _ _ _ _ _ _ hg⟩⟩
      · match j, h with
        | 0, h => exact h
        | 1, h =>
          obtain ⟨g', e1, e2⟩ := h
          refine ⟨g', e1, (setRow_other _ _ _ _ fun e => ?_).trans e2⟩
          subst e
          rw [hg] at e2
          have := (Obj.cells.inj (Option.some.inj e2)).2.1
          exact absurd this (by decide)
        | 2, h => exact h
        | 3, h => exact h
        | 4, h => exact h
        | 5, h =>
          obtain ⟨g', c', e1, e2, e3⟩ := h
          by_cases e : g' = g
          · subst e
            exact ⟨g', _, e1, e2, setRow_heap _ _ _ _ _ _ hg⟩
          · exact ⟨g', c', e1, e2, (setRow_other _ _ _ _ e).trans e3⟩
        | k + 6, _ => trivial
      · have : L k = true := by
          match k, hk with
          | 0, _ => exact hdep ⟨0, .phase⟩ (by simp) rfl
          | 1, _ => exact hdep ⟨1, .phase⟩ (by simp) rfl
          | 2, _ => exact hdep ⟨2, .phase⟩ (by simp) rfl
          | 3, _ => exact hdep ⟨3, .phase⟩ (by simp) rfl
          | 4, _ => exact hdep ⟨4, .phase⟩ (by simp) rfl
          | 5, _ => exact hdep ⟨5, .phase⟩ (by simp) rfl
        simp [this]
    | k + 7, ho => simp at ho
  · intro L a W hL hJ hdef hsize hkept hhas
    obtain ⟨g, hA0, hgB, hg⟩ := hJ.done (hL 6 (by simp))
    obtain ⟨g8, h8, _⟩ := hhas 1 _ rfl 8 rfl
    have hgm : W.heap[w.heap.size]? = some (.cells (mv f) 37 (0, 0)) := (hJ.bel.block _ (by omega)).trans h1
    have hb0 : Below w.heap.size w W := ((Below.refl _ _).alloc (Nat.le_refl _) _).trans (hJ.bel.mono (by omega))
    have hIW := hmono 0 w W hI hb0
    obtain ⟨t, d⟩ := a
    have ht : t = #[.agg (mv f), .func (.func K) #[] C, .pointer (some ⟨w.heap.size, 0, none⟩), undef, .pointer (some ⟨g, 0, none⟩), undef, undef, .agg #[.int .i64 0, .int .i64 1440], .slice (some ⟨g8, 0, none⟩) 1 1, .agg (mv fun i => decide (i < 1440)), .agg (mv f), .agg (mv fun i => (decide (i < 1440) && !f i) && decide (i < 1440)), undef, undef, undef, undef, undef, undef, undef, undef, undef, undef, undef, undef, undef, undef, undef, undef] := arr_ext t _ hsize fun i hi => by
      match i, hi with
      | 0, _ => exact hkept 0 (nd (by kernel_rfl))
      | 1, _ => exact hkept 1 (nd (by kernel_rfl))
      | 2, _ => exact hkept 2 (nd (by kernel_rfl))
      | 3, _ => exact hkept 3 (nd (by kernel_rfl))
      | 4, _ => exact hA0
      | 5, _ => exact hkept 5 (nd (by kernel_rfl))
      | 6, _ => exact hkept 6 (nd (by kernel_rfl))
      | 7, _ => exact hhas 0 _ rfl 7 rfl
      | 8, _ => exact h8
      | 9, _ => exact hhas 2 _ rfl 9 rfl
      | 10, _ => exact hhas 3 _ rfl 10 rfl
      | 11, _ => exact hhas 4 _ rfl 11 rfl
      | 12, _ => exact hkept 12 (nd (by kernel_rfl))
      | 13, _ => exact hkept 13 (nd (by kernel_rfl))
      | 14, _ => exact hkept 14 (nd (by kernel_rfl))
      | 15, _ => exact hkept 15 (nd (by kernel_rfl))
      | 16, _ => exact hkept 16 (nd (by kernel_rfl))
      | 17, _ => exact hkept 17 (nd (by kernel_rfl))
      | 18, _ => exact hkept 18 (nd (by kernel_rfl))
      | 19, _ => exact hkept 19 (nd (by kernel_rfl))
      | 20, _ => exact hkept 20 (nd (by kernel_rfl))
      | 21, _ => exact hkept 21 (nd (by kernel_rfl))
      | 22, _ => exact hkept 22 (nd (by kernel_rfl))
      | 23, _ => exact hkept 23 (nd (by kernel_rfl))
      | 24, _ => exact hkept 24 (nd (by kernel_rfl))
      | 25, _ => exact hkept 25 (nd (by kernel_rfl))
      | 26, _ => exact hkept 26 (nd (by kernel_rfl))
      | 27, _ => exact hkept 27 (nd (by kernel_rfl))
      | _ + 28, hi => exact absurd hi (by simp)
    have hd : d = [] := hdef
    subst ht hd
    clear hL hJ hdef hsize hkept hhas hA0 h8 hI h1 hz
    have hTW := hT 0 W hIW
    go_wp2_with (first
      | (refine wpList_load_row rfl 37 _ rfl _ rfl _ _ _ _ hgm maskType rfl (maskSize _) ?_)
      | (go_at_call 66; refine (first_any f 0 (by omega) _ hTW).mono ?_; rintro e w1 ⟨⟨r, rfl, hr⟩, hb1⟩))
    have hI1 := hmono 0 W w1 hIW hb1
    have hm1 := (hb1.block _ (lt_of_block hgm)).trans hgm
    have hg1 := (hb1.block _ (lt_of_block hg)).trans hg
    have hs1 : w.heap.size ≤ w1.heap.size := by have := hb0.size; have := hb1.size; omega
    clear hIW hgm hg hb0 hTW hb1
    have HR : Hid (FirstAt f 0 r) := hr
    clear hr
    go_loopw [5] (fun v wr => ∃ p a : Nat, v = .int .i64 a ∧ FirstAt f p a ∧ I p wr ∧ w.heap.size ≤ wr.heap.size ∧ wr.heap[w.heap.size]? = some (.cells (mv f) 37 (0, 0)) ∧ wr.heap[g]? = some (.cells (mv fun i => (decide (i < 1440) && !f i) && decide (i < 1440)) 37 (0, 0))) (fun v _ => (1440 - intOf v).toNat)
    case atStart => exact ⟨0, r, rfl, HR.out, hI1, hs1, hm1, hg1⟩
    case round =>
      obtain ⟨p, a, rfl, hfa, hIp, hsz, hm2, hg2⟩ := hrel
      obtain ⟨q1, q2, q3, q4⟩ := hfa
      clear hI1 hm1 hg1 hs1 HR
      by_cases hlt : a < 1440
      · have hfa := q4 hlt
        have hT2 := hT p wr hIp
        have Q3 : Hid (∀ i, p ≤ i → i < a → f i = false) := q3
        have Q4 : Hid (f a = true) := hfa
        clear q3 q4 hfa
        go_wp2_with (first
          | (refine wpList_load_row rfl 37 _ rfl _ rfl _ _ _ _ hg2 maskType rfl (maskSize _) ?_)
          | (go_at_call 66; refine (first_any _ a (by omega) _ hT2).mono ?_; rintro e w3 ⟨⟨b, rfl, hb⟩, hb3⟩))
        obtain ⟨b1, b2, b3, b4⟩ := hb
        have ha := Q4.out
        have hyes : ∀ i, a ≤ i → i < b → f i = true := fun i x y => by
          have h1440 : i < 1440 := by omega
          have := b3 i x y
          simpa [h1440] using this
        have hab : a < b := by
          rcases Nat.lt_or_ge a b with h | h
          · exact h
          · have e : b = a := by omega
            subst e
            have := b4 hlt
            simp [ha] at this
        have hbb : b < 1440 → f b = false := fun h => by
          have := b4 h
          simpa [h] using this
        have hI3 := hmono p wr w3 hIp hb3
        have hs3 : w.heap.size ≤ w3.heap.size := by have := hb3.size; omega
        have hm3 := (hb3.block _ (lt_of_block hm2)).trans hm2
        have hg3 := (hb3.block _ (lt_of_block hg2)).trans hg2
        have hc := hstep p a b w3 hs3 hI3 q1 hab b2 Q3.out hyes hbb
        have Hyes : Hid (∀ i, a ≤ i → i < b → f i = true) := hyes
        clear b3 b4 hyes hbb hIp hm2 hg2 hT2 hI3 ha hb3
        refine hc.mono ?_
        rintro e w4 ⟨⟨rfl, hI4⟩ | ⟨rfl, hR4⟩, ⟨hz4, hk4⟩⟩
        · have hm4 := hk4 _ _ (Nat.le_refl _) hm3
          have hg4 := hk4 _ _ (by omega) hg3
          have hT4 := hT b w4 hI4
          clear hk4 hm3 hg3 hc
          go_wp2_with (first
            | (refine wpList_load_row rfl 37 _ rfl _ rfl _ _ _ _ hm4 maskType rfl (maskSize _) ?_)
            | (go_at_call 66; refine (first_any f b b2 _ hT4).mono ?_; rintro e w5 ⟨⟨r', rfl, hr'⟩, hb5⟩))
          go_roundw
          case rel => exact ⟨b, r', rfl, hr', hmono b w4 w5 hI4 hb5, by have := hb5.size; omega, (hb5.block _ (lt_of_block hm4)).trans hm4, (hb5.block _ (lt_of_block hg4)).trans hg4⟩
          case measure =>
            have := hr'.1
            simp [intOf]; omega
        · clear hk4 hm3 hg3 hc
          go_wp2
          refine bodyPost_ret (results_none rfl _ _ _) rfl ?_
          exact ⟨rfl, hR4⟩
      · have Hend : Hid (R wr) := hend p wr hIp (by omega) (fun i x y => q3 i x (by omega))
        clear q3 q4
        go_wp2
        go_end0
        exact ⟨rfl, Hend.out⟩
end Go.Proofs.YtemdkpjdbciemaaDoor
