/- What is kept while rules' meanings are found out. -/
import Derived.Test.YtgfjbcdjpkcbkaaGreatDoorDu15
import Derived.Test.YtgfjbcdjpkcbkaaGreatDoorDu04
import Derived.Test.YtgfjbcdjpkcbkaaGreatDoorDu03
namespace Go.Proofs.YtgfjbcdjpkcbkaaGreatDoor
open Go.RowKit Lx
variable {w W W' : World} {n g gk gm mb : Nat} {day : Int} {lv : Value} {l : List Ru} {K : Nat → Bool} {M : Nat → Nat → Bool}
theorem MSt.keep (h : MSt w n g gk gm mb day lv l K M W) (hb : Below w.heap.size w W') (hk : ∀ q, q = g ∨ q = gk ∨ q = gm ∨ q = mb → W'.heap[q]? = W.heap[q]?) : MSt w n g gk gm mb day lv l K M W' := by
  refine ⟨hb, (hk _ (by simp)).trans h.blk, (hk _ (by simp)).trans h.known, fun i hi j v hv => ?_, ?_, h.nums.later (hk _ (by simp)), h.lo, h.ne⟩
  · exact (World.cell?_of_block (hk _ (by simp))).trans (h.meant i hi j v hv)
  · obtain ⟨cs, hc⟩ := h.held
    exact ⟨cs, (hk _ (by simp)).trans hc⟩
structure MD where
  w : World
  n : Nat
  g : Nat
  gk : Nat
  gm : Nat
  mb : Nat
  day : Int
  lv : Value
  l : List Ru
  V : Nat → Nat → Bool
def MD.st (D : MD) (K : Nat → Bool) (M : Nat → Nat → Bool) (W : World) : Prop := MSt D.w D.n D.g D.gk D.gm D.mb D.day D.lv D.l K M W
def MI (D : MD) (K : Nat → Bool) (W : World) : Prop := ∃ M, D.st K M W ∧ ∀ i, i < D.n → K i = true → M i = D.V i
def Kp (D : MD) (W W' : World) : Prop := W.heap.size ≤ W'.heap.size ∧ ∀ q, q < W.heap.size → q ≠ D.gk → q ≠ D.gm → W'.heap[q]? = W.heap[q]?
def MQ (D : MD) (P : (Nat → Bool) → Prop) (W W' : World) : Prop := (∃ K, MI D K W' ∧ P K) ∧ Kp D W W'
def Les (K K' : Nat → Bool) : Prop := ∀ i, K i = true → K' i = true
variable {D : MD} {P : (Nat → Bool) → Prop} {W0 : World} {K0 K1 : Nat → Bool}
theorem Les.refl (K : Nat → Bool) : Les K K := fun _ h => h
theorem Kp.refl (D : MD) (W : World) : Kp D W W := ⟨Nat.le_refl _, fun _ _ _ _ => rfl⟩
theorem Kp.trans (h : Kp D W0 W) (h' : Kp D W W') : Kp D W0 W' := ⟨Nat.le_trans h.1 h'.1, fun q a b c => (h'.2 q (Nat.lt_of_lt_of_le a h.1) b c).trans (h.2 q a b c)⟩
theorem Kp.below (h : Below W.heap.size W W') : Kp D W W' := ⟨h.size, fun q a _ _ => h.block q a⟩
theorem MI.later (h : MI D K W) (hb : Below W.heap.size W W') : MI D K W' := by
  obtain ⟨M, h1, h2⟩ := h
  exact ⟨M, MSt.later h1 hb, h2⟩
theorem MI.bel (h : MI D K W) : Below D.w.heap.size D.w W := by
  obtain ⟨M, h1, h2⟩ := h
  exact MSt.bel h1
theorem MI.blk (h : MI D K W) : W.heap[D.g]? = some (.cells #[.int .i64 D.day, D.lv, .map (some D.mb), .slice (some ⟨D.gk, 0, none⟩) D.n D.n, .slice (some ⟨D.gm, 0, none⟩) D.n D.n] 64 (0, 0)) := by
  obtain ⟨M, h1, h2⟩ := h
  exact MSt.blk h1
theorem MI.nums (h : MI D K W) : MapN W D.mb D.l := by
  obtain ⟨M, h1, h2⟩ := h
  exact MSt.nums h1
theorem MI.lts (h : MI D K W) : ∀ q, q = D.g ∨ q = D.gk ∨ q = D.gm ∨ q = D.mb → q < W.heap.size := by
  obtain ⟨M, h1, h2⟩ := h
  rintro q (rfl | rfl | rfl | rfl)
  · exact lt_of_block (MSt.blk h1)
  · exact lt_of_block (MSt.known h1)
  · obtain ⟨cs, hc⟩ := MSt.held h1
    exact lt_of_block hc
  · exact lt_of_map (MSt.nums h1)
theorem MQ.bel (h : MQ D P W W') : Below D.w.heap.size D.w W' := by
  obtain ⟨⟨K, h1, _⟩, _⟩ := h
  exact h1.bel
theorem MQ.blk (h : MQ D P W W') : W'.heap[D.g]? = some (.cells #[.int .i64 D.day, D.lv, .map (some D.mb), .slice (some ⟨D.gk, 0, none⟩) D.n D.n, .slice (some ⟨D.gm, 0, none⟩) D.n D.n] 64 (0, 0)) := by
  obtain ⟨⟨K, h1, _⟩, _⟩ := h
  exact h1.blk
theorem MQ.nums (h : MQ D P W W') : MapN W' D.mb D.l := by
  obtain ⟨⟨K, h1, _⟩, _⟩ := h
  exact h1.nums
theorem MQ.start (h : MI D K W) (hb : Below W.heap.size W W') : MQ D (Les K) W W' := ⟨⟨K, h.later hb, Les.refl K⟩, Kp.below hb⟩
theorem MQ.up (h : MQ D (Les K0) W0 W) (hc : ∀ K, MI D K W → MQ D (Les K) W W') : MQ D (Les K0) W0 W' := by
  obtain ⟨⟨K1, h1, h2⟩, h3⟩ := h
  obtain ⟨⟨K2, h4, h5⟩, h6⟩ := hc K1 h1
  exact ⟨⟨K2, h4, fun i hi => h5 i (h2 i hi)⟩, h3.trans h6⟩
theorem MQ.on (h2 : Les K0 K1) (h3 : Kp D W0 W) (h : MQ D (Les K1) W W') : MQ D (Les K0) W0 W' := by
  obtain ⟨⟨K2, h4, h5⟩, h6⟩ := h
  exact ⟨⟨K2, h4, fun i hi => h5 i (h2 i hi)⟩, h3.trans h6⟩
theorem MQ.onP (h2 : Les K0 K1) (h3 : Kp D W0 W) (h : MQ D (fun K' => Les K1 K' ∧ P K') W W') : MQ D (Les K0) W0 W' := by
  obtain ⟨⟨K2, h4, h5, _⟩, h6⟩ := h
  exact ⟨⟨K2, h4, fun i hi => h5 i (h2 i hi)⟩, h3.trans h6⟩
theorem MQ.low (h : MQ D (Les K0) W0 W) (hb : Below W.heap.size W W') : MQ D (Les K0) W0 W' := h.up fun _ h' => MQ.start h' hb
theorem MQ.drew (h : MQ D (Les K0) W0 W) : MQ D (Les K0) W0 W.drew := h.low (Below.refl _ _).drew
theorem MQ.ret {W1 : World} (h0 : MI D K W) (hb : Below W.heap.size W W1) {r : Nat} (hr : W.heap.size ≤ r) (h : MQ D P W1 W') (cs : Array Value) : MQ D P W (W'.setRow r cs) := by
  obtain ⟨⟨K2, ⟨M, h1, h2⟩, h3⟩, h4⟩ := h
  have hlt := h0.lts
  have hs := h0.bel.size
  refine ⟨⟨K2, ⟨M, MSt.keep h1 (below_setRow (MSt.bel h1) (by omega) _) fun q hq => setRow_other _ _ _ _ (by have := hlt q hq; omega), h2⟩, h3⟩, ?_, fun q a b c => ?_⟩
  · have := hb.size
    have := h4.1
    simp only [World.setRow, Array.size_modify]
    omega
  · rw [setRow_other _ _ _ _ (by omega), h4.2 q (by have := hb.size; omega) b c]
    exact hb.block q a
theorem MQ.own {W1 : World} (h0 : MI D K W) (h : MQ D P W1 W') {r : Nat} (hr : W.heap.size ≤ r) {o : Obj} (ho : W1.heap[r]? = some o) : W'.heap[r]? = some o := by
  have h1 := h0.lts D.gk (by simp)
  have h2 := h0.lts D.gm (by simp)
  exact (h.2.2 r (lt_of_block ho) (by omega) (by omega)).trans ho
theorem MQ.mask (h : MQ D (Les K0) W0 W) {i : Nat} (hi : i < D.n) : ∃ K M, D.st K M W ∧ (∀ j, j < D.n → K j = true → M j = D.V j) ∧ Les K0 K ∧ W.there D.gm (i * 23) 23 := by
  obtain ⟨⟨K, ⟨M, h1, h2⟩, h3⟩, _⟩ := h
  exact ⟨K, M, h1, h2, h3, MSt.there h1 hi⟩
end Go.Proofs.YtgfjbcdjpkcbkaaGreatDoor

/- What a rule means, as the program finds it out: a rule that is not known yet. Written by genmnf.py. -/
namespace Go.Proofs.YtgfjbcdjpkcbkaaGreatDoor
open Go.RowKit Lx
theorem size_setCellsM (b : Nat) : ∀ (vs : List Value) (o : Nat) (w : World), (w.setCells b o vs).heap.size = w.heap.size
  | [], _, _ => rfl
  | v :: vs, o, w => by
    rw [World.setCells, size_setCellsM b vs (o + 1)]
    simp [World.setCell]
set_option maxRecDepth 100000 in
set_option maxHeartbeats 2000000 in
theorem rule_new {D : MD} {K0 : Nat → Bool} {W : World} {us : List (Ru × Value)} {b o cv i : Nat} {u : Ru} {ps : Option Addr} {cs : Nat} (hin : InR D.w D.lv us) (hn : D.n ≤ 40) (hlv : D.lv = .slice (some ⟨b, o, none⟩) D.n cv) (hlen : us.length = D.n) (hu : us[i]? = some (u, .slice ps u.2.kids.length cs)) (h : MI D K0 W) (hK0 : K0 i = false)
    (hE : ∀ K W, MI D K W → Calls Tryz.prog 35 #[.pointer (some ⟨D.g, 0, none⟩), exV u.2 (.slice ps u.2.kids.length cs)] W fun r W' => r = .returned (.agg (mv (D.V i))) ∧ MQ D (Les K) W W') :
    Calls Tryz.prog 24 #[.pointer (some ⟨D.g, 0, none⟩), .int .i64 (i : Int)] W fun r W' => r = .returned (.agg (mv (D.V i))) ∧ MQ D (fun K => Les K0 K ∧ K i = true) W W' := by
  have hi : i < D.n := by rw [← hlen]; exact (List.getElem?_eq_some_iff.1 hu).1
  have HV := hid5 hlv
  obtain ⟨q1, q2, q3, q4, q5⟩ : D.w.cell? ⟨b, o + i * 6 + 1, none⟩ = some (.int .i64 u.2.kind) ∧ D.w.cell? ⟨b, o + i * 6 + 1 + 1, none⟩ = some (.int .i64 u.2.a) ∧ D.w.cell? ⟨b, o + i * 6 + 1 + 2, none⟩ = some (.int .i64 u.2.b) ∧ D.w.cell? ⟨b, o + i * 6 + 1 + 3, none⟩ = some (.string ⟨u.2.name.toArray⟩) ∧ D.w.cell? ⟨b, o + i * 6 + 1 + 4, none⟩ = some (.slice ps u.2.kids.length cs) := by
    rw [hlv, ← hlen] at hin
    obtain ⟨g', o', e, _, c1, c2, c3, c4, c5⟩ := hin.cells i _ hu
    cases e
    exact ⟨c1, c2, c3, c4, c5⟩
  have hz := mv_lit
  have bA := (Below.refl W.heap.size W).alloc (Nat.le_refl _) (.cells (mv fun _ => false) 43)
  have nA := heap_alloc_new W (.cells (mv fun _ => false) 43)
  generalize hwA : W.alloc (.cells (mv fun _ => false) 43) = WA at *
  have hA := h.later bA
  have hJ0 : MQ D (Les K0) WA WA := MQ.start hA (Below.refl _ _)
  have k3 := (cell_of_row _ _ 3 _ _ _ hA.blk).trans rfl
  have ki : WA.cell? ⟨D.gk, i, none⟩ = some (.bool false) := by
    obtain ⟨M, h1, _⟩ := hA
    rw [← hK0]
    exact (cell_of_row _ _ i _ _ _ (MSt.known h1)).trans (bcells_at hi)
  have hi0 : (0 : Int) ≤ (i : Int) := by omega
  have hiI : (i : Int) < (D.n : Int) := by omega
  have hn40 : (D.n : Int) ≤ 40 := by omega
  unfold exV at hE
  have HE := hid5 hE
  clear hlv hin hK0 hu hlen hn hE
  go_enter Tryz.func24, Tryz.ntmps24
  go_wp2_with fail
  clear k3 ki hwA hA
  refine wp_region_lastK (MQ D (Les K0) WA) (hJ0.drew) (by kernel_rfl) (by kernel_rfl) (by kernel_rfl) (by kernel_rfl) 16 (by kernel_rfl) (by kernel_rfl) [(13, .pointer (some ⟨D.g, 0, none⟩)), (14, .pointer (some ⟨D.g, 0, none⟩)), (15, .pointer (some ⟨D.g, 4, none⟩)), (16, .slice (some ⟨D.gm, 0, none⟩) D.n D.n), (17, .int .i64 (i : Int)), (18, .pointer (some ⟨D.g, 0, none⟩)), (19, .pointer (some ⟨D.g, 0, none⟩)), (20, .pointer (some ⟨D.g, 0, none⟩)), (21, .pointer (some ⟨D.g, 1, none⟩)), (22, .slice (some ⟨b, o, none⟩) D.n cv), (23, .int .i64 (i : Int)), (24, .pointer (some ⟨b, o + i * 6, none⟩)), (25, .pointer (some ⟨b, o + i * 6 + 1, none⟩)), (26, .agg #[.int .i64 u.2.kind, .int .i64 u.2.a, .int .i64 u.2.b, .string ⟨u.2.name.toArray⟩, .slice ps u.2.kids.length cs]), (27, .agg (mv (D.V i))), (28, .pointer (some ⟨D.gm, i * 23, none⟩))] (by kernel_rfl) (by kernel_rfl) ?_ ?_
  · intro i' s v o' L A W2 ho hv hdep hJ hkept hhas
    match i', ho, hv with
    | 0, ho, hv =>
      cases Option.some.inj ho
      cases Option.some.inj hv
      have h0 : A.tmps[0]?.getD undef = .pointer (some ⟨D.g, 0, none⟩) := (gd A 0).trans (hkept 0 (by kernel_rfl))
      refine wpOp_step rfl (fun K hK => ?_)
      go_simp
      exact hK _ _ ⟨rfl, hJ⟩
    | 1, ho, hv =>
      cases Option.some.inj ho
      cases Option.some.inj hv
      have h13 : A.tmps[13]?.getD undef = .pointer (some ⟨D.g, 0, none⟩) := (gd A 13).trans (hhas 0 13 _ rfl (hdep ⟨0, .data⟩ (by simp) rfl))
      refine wpOp_step rfl (fun K hK => ?_)
      go_simp
      exact hK _ _ ⟨rfl, hJ⟩
    | 2, ho, hv =>
      cases Option.some.inj ho
      cases Option.some.inj hv
      have h14 : A.tmps[14]?.getD undef = .pointer (some ⟨D.g, 0, none⟩) := (gd A 14).trans (hhas 1 14 _ rfl (hdep ⟨1, .data⟩ (by simp) rfl))
      refine wpOp_step rfl (fun K hK => ?_)
      go_simp
      exact hK _ _ ⟨rfl, hJ⟩
    | 3, ho, hv =>
      cases Option.some.inj ho
      cases Option.some.inj hv
      have h15 : A.tmps[15]?.getD undef = .pointer (some ⟨D.g, 4, none⟩) := (gd A 15).trans (hhas 2 15 _ rfl (hdep ⟨2, .data⟩ (by simp) rfl))
      have k4 : W2.cell? ⟨D.g, 4, none⟩ = some (.slice (some ⟨D.gm, 0, none⟩) D.n D.n) := (cell_of_row _ _ 4 _ _ _ hJ.blk).trans rfl
      refine wpOp_step rfl (fun K hK => ?_)
      go_simp
      exact hK _ _ ⟨rfl, hJ⟩
    | 4, ho, hv =>
      cases Option.some.inj ho
      cases Option.some.inj hv
      have h1 : A.tmps[1]?.getD undef = .int .i64 (i : Int) := (gd A 1).trans (hkept 1 (by kernel_rfl))
      refine wpOp_step rfl (fun K hK => ?_)
      go_simp
      exact hK _ _ ⟨rfl, hJ⟩
    | 5, ho, hv =>
      cases Option.some.inj ho
      cases Option.some.inj hv
      have h0 : A.tmps[0]?.getD undef = .pointer (some ⟨D.g, 0, none⟩) := (gd A 0).trans (hkept 0 (by kernel_rfl))
      refine wpOp_step rfl (fun K hK => ?_)
      go_simp
      exact hK _ _ ⟨rfl, hJ⟩
    | 6, ho, hv =>
      cases Option.some.inj ho
      cases Option.some.inj hv
      have h0 : A.tmps[0]?.getD undef = .pointer (some ⟨D.g, 0, none⟩) := (gd A 0).trans (hkept 0 (by kernel_rfl))
      refine wpOp_step rfl (fun K hK => ?_)
      go_simp
      exact hK _ _ ⟨rfl, hJ⟩
    | 7, ho, hv =>
      cases Option.some.inj ho
      cases Option.some.inj hv
      have h19 : A.tmps[19]?.getD undef = .pointer (some ⟨D.g, 0, none⟩) := (gd A 19).trans (hhas 6 19 _ rfl (hdep ⟨6, .data⟩ (by simp) rfl))
      refine wpOp_step rfl (fun K hK => ?_)
      go_simp
      exact hK _ _ ⟨rfl, hJ⟩
    | 8, ho, hv =>
      cases Option.some.inj ho
      cases Option.some.inj hv
      have h20 : A.tmps[20]?.getD undef = .pointer (some ⟨D.g, 0, none⟩) := (gd A 20).trans (hhas 7 20 _ rfl (hdep ⟨7, .data⟩ (by simp) rfl))
      refine wpOp_step rfl (fun K hK => ?_)
      go_simp
      exact hK _ _ ⟨rfl, hJ⟩
    | 9, ho, hv =>
      cases Option.some.inj ho
      cases Option.some.inj hv
      have h21 : A.tmps[21]?.getD undef = .pointer (some ⟨D.g, 1, none⟩) := (gd A 21).trans (hhas 8 21 _ rfl (hdep ⟨8, .data⟩ (by simp) rfl))
      have k1 : W2.cell? ⟨D.g, 1, none⟩ = some (.slice (some ⟨b, o, none⟩) D.n cv) := ((cell_of_row _ _ 1 _ _ _ hJ.blk).trans rfl).trans (congrArg some HV.out)
      refine wpOp_step rfl (fun K hK => ?_)
      go_simp
      exact hK _ _ ⟨rfl, hJ⟩
    | 10, ho, hv =>
      cases Option.some.inj ho
      cases Option.some.inj hv
      have h1 : A.tmps[1]?.getD undef = .int .i64 (i : Int) := (gd A 1).trans (hkept 1 (by kernel_rfl))
      refine wpOp_step rfl (fun K hK => ?_)
      go_simp
      exact hK _ _ ⟨rfl, hJ⟩
    | 11, ho, hv =>
      cases Option.some.inj ho
      cases Option.some.inj hv
      have h22 : A.tmps[22]?.getD undef = .slice (some ⟨b, o, none⟩) D.n cv := (gd A 22).trans (hhas 9 22 _ rfl (hdep ⟨9, .data⟩ (by simp) rfl))
      have h23 : A.tmps[23]?.getD undef = .int .i64 (i : Int) := (gd A 23).trans (hhas 10 23 _ rfl (hdep ⟨10, .data⟩ (by simp) rfl))
      refine wpOp_step rfl (fun K hK => ?_)
      go_simp
      exact hK _ _ ⟨rfl, hJ⟩
    | 12, ho, hv =>
      cases Option.some.inj ho
      cases Option.some.inj hv
      have h24 : A.tmps[24]?.getD undef = .pointer (some ⟨b, o + i * 6, none⟩) := (gd A 24).trans (hhas 11 24 _ rfl (hdep ⟨11, .data⟩ (by simp) rfl))
      refine wpOp_step rfl (fun K hK => ?_)
      go_simp
      exact hK _ _ ⟨rfl, hJ⟩
    | 13, ho, hv =>
      cases Option.some.inj ho
      cases Option.some.inj hv
      have h25 : A.tmps[25]?.getD undef = .pointer (some ⟨b, o + i * 6 + 1, none⟩) := (gd A 25).trans (hhas 12 25 _ rfl (hdep ⟨12, .data⟩ (by simp) rfl))
      have e1 : W2.cell? ⟨b, o + i * 6 + 1, none⟩ = some (.int .i64 u.2.kind) := (hJ.bel.cell (block_lt_of_cell q1)).trans q1
      have e2 : W2.cell? ⟨b, o + i * 6 + 1 + 1, none⟩ = some (.int .i64 u.2.a) := (hJ.bel.cell (block_lt_of_cell q2)).trans q2
      have e3 : W2.cell? ⟨b, o + i * 6 + 1 + 2, none⟩ = some (.int .i64 u.2.b) := (hJ.bel.cell (block_lt_of_cell q3)).trans q3
      have e4 : W2.cell? ⟨b, o + i * 6 + 1 + 3, none⟩ = some (.string ⟨u.2.name.toArray⟩) := (hJ.bel.cell (block_lt_of_cell q4)).trans q4
      have e5 : W2.cell? ⟨b, o + i * 6 + 1 + 4, none⟩ = some (.slice ps u.2.kids.length cs) := (hJ.bel.cell (block_lt_of_cell q5)).trans q5
      refine wpOp_step rfl (fun K hK => ?_)
      go_simp
      exact hK _ _ ⟨rfl, hJ⟩
    | 14, ho, hv =>
      cases Option.some.inj ho
      cases Option.some.inj hv
      have h18 : A.tmps[18]?.getD undef = .pointer (some ⟨D.g, 0, none⟩) := (gd A 18).trans (hhas 5 18 _ rfl (hdep ⟨5, .data⟩ (by simp) rfl))
      have h26 : A.tmps[26]?.getD undef = .agg #[.int .i64 u.2.kind, .int .i64 u.2.a, .int .i64 u.2.b, .string ⟨u.2.name.toArray⟩, .slice ps u.2.kids.length cs] := (gd A 26).trans (hhas 13 26 _ rfl (hdep ⟨13, .data⟩ (by simp) rfl))
      obtain ⟨⟨K1, hM1, hle1⟩, hkp1⟩ := id hJ
      refine wpOp_step rfl (fun K hK => ?_)
      go_simp
      refine (HE.out K1 W2 hM1).mono ?_
      rintro e' W' ⟨rfl, hb'⟩
      exact hK _ _ ⟨rfl, MQ.on hle1 hkp1 hb'⟩
    | 15, ho, hv =>
      cases Option.some.inj ho
      cases Option.some.inj hv
      have h16 : A.tmps[16]?.getD undef = .slice (some ⟨D.gm, 0, none⟩) D.n D.n := (gd A 16).trans (hhas 3 16 _ rfl (hdep ⟨3, .data⟩ (by simp) rfl))
      have h17 : A.tmps[17]?.getD undef = .int .i64 (i : Int) := (gd A 17).trans (hhas 4 17 _ rfl (hdep ⟨4, .data⟩ (by simp) rfl))
      refine wpOp_step rfl (fun K hK => ?_)
      go_simp
      exact hK _ _ ⟨rfl, hJ⟩
    | kk + 16, ho, hv => simp at hv
  · intro o' W2 A ho hJ hA
    obtain ⟨K3, M3, hst, hrt, hle, hth⟩ := hJ.mask hi
    cases Option.some.inj ho
    have hx : A.eval (.tmp 28) = .pointer (some ⟨D.gm, i * 23, none⟩) := by
      rw [hA]
      simp only [putAll_cons, putAll_nil, Act.put, List.setIfInBounds_toArray, List.set_cons_succ, List.set_cons_zero]
      rfl
    have hy : A.eval (.tmp 27) = .agg (mv (D.V i)) := by
      rw [hA]
      simp only [putAll_cons, putAll_nil, Act.put, List.setIfInBounds_toArray, List.set_cons_succ, List.set_cons_zero]
      rfl
    refine wpOp_step rfl (fun K hK => ?_)
    show Oper.wp _ _ _ _ _ _
    refine wp_store_mid 43 _ _ rfl D.gm (i * 23) (mv (D.V i)) hx hy (by rw [mv_size]; exact hth) (maskSize _) (mv_all _) ?_
    have h3 : D.st K3 (updM M3 i (D.V i)) (W2.setCells D.gm (i * 23) (mv (D.V i)).toList) := MSt.put hst hi (D.V i)
    refine hK _ _ ⟨⟨undef, rfl⟩, ?_⟩
    subst hA
    simp only [putAll_cons, putAll_nil, Act.put, List.setIfInBounds_toArray, List.set_cons_succ, List.set_cons_zero]
    have n3 : (W2.setCells D.gm (i * 23) (mv (D.V i)).toList).heap[W.heap.size]? = some (.cells (mv fun _ => false) 43 (0, 0)) := (heap_setCells_other D.gm _ _ W2 _ (by have := h.lts D.gm (by simp); omega)).trans (hJ.own h (Nat.le_refl _) nA)
    have hk3 : Kp D WA (W2.setCells D.gm (i * 23) (mv (D.V i)).toList) := ⟨by
      rw [size_setCellsM]
      exact hJ.2.1, fun q a b c => (heap_setCells_other D.gm _ _ W2 q c).trans (hJ.2.2 q a b c)⟩
    clear hK hth hx hy
    generalize W2.setCells D.gm (i * 23) (mv (D.V i)).toList = W3 at *
    have h4 : D.st (upd K3 i) (updM M3 i (D.V i)) (W3.setCell ⟨D.gk, i, none⟩ (.bool true)) := MSt.mark h3 i
    have n4 : (W3.setCell ⟨D.gk, i, none⟩ (.bool true)).heap[W.heap.size]? = some (.cells (mv fun _ => false) 43 (0, 0)) := (heap_setCell_other W3 ⟨D.gk, i, none⟩ _ _ (by show W.heap.size ≠ D.gk; have := h.lts D.gk (by simp); omega)).trans n3
    have hQ : MQ D (fun K' => Les K0 K' ∧ K' i = true) WA (W3.setCell ⟨D.gk, i, none⟩ (.bool true)) := by
      refine ⟨⟨upd K3 i, ⟨_, h4, fun j hj hKj => ?_⟩, fun j hj => ?_, by simp [upd]⟩, ?_, fun q a b c => (heap_setCell_other W3 ⟨D.gk, i, none⟩ q _ b).trans (hk3.2 q a b c)⟩
      · by_cases e : j = i
        · subst e
          simp [updM]
        · rw [updM, if_neg e]
          exact hrt j hj (by simpa [upd, e] using hKj)
      · have := hle j hj
        show (decide (j = i) || K3 j) = true
        rw [this, Bool.or_true]
      · simpa [World.setCell] using hk3.1
    have k3 := (cell_of_row _ _ 3 _ _ _ (MSt.blk h3)).trans rfl
    have ki := (cell_of_row _ _ i _ _ _ (MSt.known h3)).trans (bcells_at hi)
    have kf := frozen_of_row _ _ i _ _ (MSt.known h3)
    have k4 := (cell_of_row _ _ 4 _ _ _ (MSt.blk h4)).trans rfl
    have hm4 := MSt.meant h4 i hi
    rw [show updM M3 i (D.V i) i = D.V i by simp [updM]] at hm4
    have HM := hid5 hm4
    have HQ := hid5 (MQ.ret h bA (Nat.le_refl _) hQ (mv (D.V i)))
    clear hm4 hQ h4 h3 hst hrt hle hJ hk3
    generalize hw4 : W3.setCell ⟨D.gk, i, none⟩ (.bool true) = W4 at *
    go_wp2_with (first
      | (refine wpList_load_mask rfl _ rfl D.gm (i * 23) rfl (D.V i) HM.out ?_)
      | (refine wpList_store_row rfl 43 _ _ rfl _ _ rfl rfl _ _ n4 (maskSize _) (by simp [mv_size]) (mv_all _) ?_))
    refine bodyPost_ret (v := .agg (mv (D.V i))) ?_ rfl ⟨rfl, ?_⟩
    · exact results_cell_row rfl _ _ W.heap.size _ _ _ _ rfl (setRow_heap _ _ _ _ _ _ n4) maskType rfl (maskSize _)
    · exact HQ.out
end Go.Proofs.YtgfjbcdjpkcbkaaGreatDoor

/- What an expression's kid means, as the program finds it out. Written by genmng.py. -/
namespace Go.Proofs.YtgfjbcdjpkcbkaaGreatDoor
open Go.RowKit Lx
theorem MQ.far {D : MD} {P : (Nat → Bool) → Prop} {W1 W' : World} (h : MQ D P W1 W') {r : Nat} (h1 : r ≠ D.gk) (h2 : r ≠ D.gm) {o : Obj} (ho : W1.heap[r]? = some o) : W'.heap[r]? = some o := (h.2.2 r (lt_of_block ho) h1 h2).trans ho
set_option maxRecDepth 100000 in
set_option maxHeartbeats 1000000 in
theorem kid_any {D : MD} {K0 : Nat → Bool} {W : World} {e k : Ex} {f : Nat → Bool} {bd be b o c j : Nat} {ps : Option Addr} {cs : Nat} (h : MI D K0 W) (hj : e.kids[j]? = some k) (hlen : e.kids.length < 9223372036854775808)
    (hbd : W.heap[bd]? = some (.cells #[.pointer (some ⟨D.g, 0, none⟩)] 79 (0, 0))) (hbe : W.heap[be]? = some (.cells #[.int .i64 e.kind, .int .i64 e.a, .int .i64 e.b, .string ⟨e.name.toArray⟩, .slice (some ⟨b, o, none⟩) e.kids.length c] 31 (0, 0)))
    (d1 : bd ≠ D.gk) (d2 : bd ≠ D.gm) (d3 : be ≠ D.gk) (d4 : be ≠ D.gm)
    (q0 : D.w.cell? ⟨b, o + j * 5, none⟩ = some (.int .i64 k.kind)) (q1 : D.w.cell? ⟨b, o + j * 5 + 1, none⟩ = some (.int .i64 k.a)) (q2 : D.w.cell? ⟨b, o + j * 5 + 2, none⟩ = some (.int .i64 k.b)) (q3 : D.w.cell? ⟨b, o + j * 5 + 3, none⟩ = some (.string ⟨k.name.toArray⟩)) (q4 : D.w.cell? ⟨b, o + j * 5 + 4, none⟩ = some (.slice ps k.kids.length cs))
    (hE : ∀ K W, MI D K W → Calls Tryz.prog 35 #[.pointer (some ⟨D.g, 0, none⟩), exV k (.slice ps k.kids.length cs)] W fun r W' => r = .returned (.agg (mv f)) ∧ MQ D (Les K) W W') :
    Calls Tryz.prog 44 #[.int .i64 (j : Int), .pointer (some ⟨bd, 0, none⟩), .pointer (some ⟨be, 0, none⟩)] W fun r W' => r = .returned (.agg (mv f)) ∧ MQ D (Les K0) W W' := by
  have hjl : (j : Int) < (e.kids.length : Int) := by have := (List.getElem?_eq_some_iff.1 hj).1; omega
  have hj0 : (0 : Int) ≤ (j : Int) := by omega
  have hlI : (e.kids.length : Int) < 9223372036854775808 := by omega
  have hz := mv_lit
  have bA := (Below.refl W.heap.size W).alloc (Nat.le_refl _) (.cells (mv fun _ => false) 43)
  have nA := heap_alloc_new W (.cells (mv fun _ => false) 43)
  generalize hwA : W.alloc (.cells (mv fun _ => false) 43) = WA at *
  have hA := h.later bA
  have hJ0 : MQ D (Les K0) WA WA := MQ.start hA (Below.refl _ _)
  have hbd' := (bA.block _ (lt_of_block hbd)).trans hbd
  have hbe' := (bA.block _ (lt_of_block hbe)).trans hbe
  have HBd := hid5 (fun (W2 : World) (hJ : MQ D (Les K0) WA W2) => hJ.far d1 d2 hbd')
  have HBe := hid5 (fun (W2 : World) (hJ : MQ D (Les K0) WA W2) => hJ.far d3 d4 hbe')
  unfold exV at hE
  have HE := hid5 hE
  clear hE hbd hbe hbd' hbe' d1 d2 d3 d4 hj hA
  go_enter Tryz.func44, Tryz.ntmps44
  go_wp2_with fail
  clear hwA
  refine wp_region_lastK (MQ D (Les K0) WA) (hJ0.drew) (by kernel_rfl) (by kernel_rfl) (by kernel_rfl) (by kernel_rfl) 7 (by kernel_rfl) (by kernel_rfl) [(5, .pointer (some ⟨D.g, 0, none⟩)), (6, .pointer (some ⟨be, 4, none⟩)), (7, .slice (some ⟨b, o, none⟩) e.kids.length c), (8, .int .i64 (j : Int)), (9, .pointer (some ⟨b, o + j * 5, none⟩)), (10, .agg #[.int .i64 k.kind, .int .i64 k.a, .int .i64 k.b, .string ⟨k.name.toArray⟩, .slice ps k.kids.length cs]), (11, .agg (mv f))] (by kernel_rfl) (by kernel_rfl) ?_ ?_
  · intro i' s v o' L A W2 ho hv hdep hJ hkept hhas
    match i', ho, hv with
    | 0, ho, hv =>
      cases Option.some.inj ho
      cases Option.some.inj hv
      have h1 : A.tmps[1]?.getD undef = .pointer (some ⟨bd, 0, none⟩) := (gd A 1).trans (hkept 1 (by kernel_rfl))
      have kd : W2.cell? ⟨bd, 0, none⟩ = some (.pointer (some ⟨D.g, 0, none⟩)) := (cell_of_row _ _ 0 _ _ _ (HBd.out W2 hJ)).trans rfl
      refine wpOp_step rfl (fun K hK => ?_)
      go_simp
      exact hK _ _ ⟨rfl, hJ⟩
    | 1, ho, hv =>
      cases Option.some.inj ho
      cases Option.some.inj hv
      have h2 : A.tmps[2]?.getD undef = .pointer (some ⟨be, 0, none⟩) := (gd A 2).trans (hkept 2 (by kernel_rfl))
      refine wpOp_step rfl (fun K hK => ?_)
      go_simp
      exact hK _ _ ⟨rfl, hJ⟩
    | 2, ho, hv =>
      cases Option.some.inj ho
      cases Option.some.inj hv
      have h6 : A.tmps[6]?.getD undef = .pointer (some ⟨be, 4, none⟩) := (gd A 6).trans (hhas 1 6 _ rfl (hdep ⟨1, .data⟩ (by simp) rfl))
      have ke : W2.cell? ⟨be, 4, none⟩ = some (.slice (some ⟨b, o, none⟩) e.kids.length c) := (cell_of_row _ _ 4 _ _ _ (HBe.out W2 hJ)).trans rfl
      refine wpOp_step rfl (fun K hK => ?_)
      go_simp
      exact hK _ _ ⟨rfl, hJ⟩
    | 3, ho, hv =>
      cases Option.some.inj ho
      cases Option.some.inj hv
      have h0 : A.tmps[0]?.getD undef = .int .i64 (j : Int) := (gd A 0).trans (hkept 0 (by kernel_rfl))
      refine wpOp_step rfl (fun K hK => ?_)
      go_simp
      exact hK _ _ ⟨rfl, hJ⟩
    | 4, ho, hv =>
      cases Option.some.inj ho
      cases Option.some.inj hv
      have h7 : A.tmps[7]?.getD undef = .slice (some ⟨b, o, none⟩) e.kids.length c := (gd A 7).trans (hhas 2 7 _ rfl (hdep ⟨2, .data⟩ (by simp) rfl))
      have h8 : A.tmps[8]?.getD undef = .int .i64 (j : Int) := (gd A 8).trans (hhas 3 8 _ rfl (hdep ⟨3, .data⟩ (by simp) rfl))
      refine wpOp_step rfl (fun K hK => ?_)
      go_simp
      exact hK _ _ ⟨rfl, hJ⟩
    | 5, ho, hv =>
      cases Option.some.inj ho
      cases Option.some.inj hv
      have h9 : A.tmps[9]?.getD undef = .pointer (some ⟨b, o + j * 5, none⟩) := (gd A 9).trans (hhas 4 9 _ rfl (hdep ⟨4, .data⟩ (by simp) rfl))
      have e0 : W2.cell? ⟨b, o + j * 5, none⟩ = some (.int .i64 k.kind) := (hJ.bel.cell (block_lt_of_cell q0)).trans q0
      have e1 : W2.cell? ⟨b, o + j * 5 + 1, none⟩ = some (.int .i64 k.a) := (hJ.bel.cell (block_lt_of_cell q1)).trans q1
      have e2 : W2.cell? ⟨b, o + j * 5 + 2, none⟩ = some (.int .i64 k.b) := (hJ.bel.cell (block_lt_of_cell q2)).trans q2
      have e3 : W2.cell? ⟨b, o + j * 5 + 3, none⟩ = some (.string ⟨k.name.toArray⟩) := (hJ.bel.cell (block_lt_of_cell q3)).trans q3
      have e4 : W2.cell? ⟨b, o + j * 5 + 4, none⟩ = some (.slice ps k.kids.length cs) := (hJ.bel.cell (block_lt_of_cell q4)).trans q4
      refine wpOp_step rfl (fun K hK => ?_)
      go_simp
      exact hK _ _ ⟨rfl, hJ⟩
    | 6, ho, hv =>
      cases Option.some.inj ho
      cases Option.some.inj hv
      have h5 : A.tmps[5]?.getD undef = .pointer (some ⟨D.g, 0, none⟩) := (gd A 5).trans (hhas 0 5 _ rfl (hdep ⟨0, .data⟩ (by simp) rfl))
      have h10 : A.tmps[10]?.getD undef = .agg #[.int .i64 k.kind, .int .i64 k.a, .int .i64 k.b, .string ⟨k.name.toArray⟩, .slice ps k.kids.length cs] := (gd A 10).trans (hhas 5 10 _ rfl (hdep ⟨5, .data⟩ (by simp) rfl))
      obtain ⟨⟨K1, hM1, hle1⟩, hkp1⟩ := id hJ
      refine wpOp_step rfl (fun K hK => ?_)
      go_simp
      refine (HE.out K1 W2 hM1).mono ?_
      rintro e' W' ⟨rfl, hb'⟩
      exact hK _ _ ⟨rfl, MQ.on hle1 hkp1 hb'⟩
    | kk + 7, ho, hv => simp at hv
  · intro o' W2 A ho hJ hA
    cases Option.some.inj ho
    have hx : A.eval (.tmp 4) = .pointer (some ⟨W.heap.size, 0, none⟩) := by
      rw [hA]
      simp only [putAll_cons, putAll_nil, Act.put, List.setIfInBounds_toArray, List.set_cons_succ, List.set_cons_zero]
      rfl
    have hy : A.eval (.tmp 11) = .agg (mv f) := by
      rw [hA]
      simp only [putAll_cons, putAll_nil, Act.put, List.setIfInBounds_toArray, List.set_cons_succ, List.set_cons_zero]
      rfl
    have n2 := hJ.own h (Nat.le_refl _) nA
    refine wpOp_step rfl (fun K hK => ?_)
    show Oper.wp _ _ _ _ _ _
    refine wp_store_row 43 _ _ rfl _ _ hx hy _ _ n2 (maskSize _) (by simp [mv_size]) (mv_all _) ?_
    refine hK _ _ ⟨⟨undef, rfl⟩, ?_⟩
    change Exit.then _ _ Exit.normal A _
    subst hA
    simp only [putAll_cons, putAll_nil, Act.put, List.setIfInBounds_toArray, List.set_cons_succ, List.set_cons_zero]
    have HQ := hid5 (MQ.ret h bA (Nat.le_refl _) hJ (mv f))
    have N2 := hid5 (setRow_heap _ _ _ (mv f) _ _ n2)
    clear hK hJ hx hy
    go_wp2_with fail
    refine bodyPost_ret (v := .agg (mv f)) ?_ rfl ⟨rfl, ?_⟩
    · exact results_cell_row rfl _ _ W.heap.size _ _ _ _ rfl N2.out maskType rfl (maskSize _)
    · exact HQ.out
end Go.Proofs.YtgfjbcdjpkcbkaaGreatDoor

/- What an expression means, as the program finds it out: kind by kind. Written by genmnh.py. -/
namespace Go.Proofs.YtgfjbcdjpkcbkaaGreatDoor
open Go.RowKit Lx Msk
variable {D : MD} {K0 : Nat → Bool} {W : World} {a b : Int} {nm : List UInt8} {pe : Option Addr} {ks : List Ex} {ce : Nat}
def KidC (D : MD) (kd a b : Int) (nm : List UInt8) (pe : Option Addr) (ks : List Ex) (ce : Nat) (j : Int) (f : Nat → Bool) : Prop := ∀ (bd be : Nat) (K : Nat → Bool) (W : World), MI D K W → W.heap[bd]? = some (.cells #[.pointer (some ⟨D.g, 0, none⟩)] 79 (0, 0)) →
  W.heap[be]? = some (.cells #[.int .i64 kd, .int .i64 a, .int .i64 b, .string ⟨nm.toArray⟩, .slice pe ks.length ce] 31 (0, 0)) → bd ≠ D.gk → bd ≠ D.gm → be ≠ D.gk → be ≠ D.gm →
  Calls Tryz.prog 44 #[.int .i64 j, .pointer (some ⟨bd, 0, none⟩), .pointer (some ⟨be, 0, none⟩)] W fun r W' => r = .returned (.agg (mv f)) ∧ MQ D (Les K) W W'
theorem MQ.kid {W3 W4 : World} {kd j : Int} {f : Nat → Bool} {bd be : Nat} (h0 : MI D K0 W) (hq : MQ D (Les K0) W3 W4) (hc : KidC D kd a b nm pe ks ce j f) (hd : W3.heap[bd]? = some (.cells #[.pointer (some ⟨D.g, 0, none⟩)] 79 (0, 0)))
    (he : W3.heap[be]? = some (.cells #[.int .i64 kd, .int .i64 a, .int .i64 b, .string ⟨nm.toArray⟩, .slice pe ks.length ce] 31 (0, 0))) (h1 : W.heap.size ≤ bd) (h2 : W.heap.size ≤ be) :
    Calls Tryz.prog 44 #[.int .i64 j, .pointer (some ⟨bd, 0, none⟩), .pointer (some ⟨be, 0, none⟩)] W4 fun r W' => r = .returned (.agg (mv f)) ∧ MQ D (Les K0) W3 W' := by
  have hd4 := hq.own h0 h1 hd
  have he4 := hq.own h0 h2 he
  have l1 := h0.lts D.gk (by simp)
  have l2 := h0.lts D.gm (by simp)
  obtain ⟨⟨K1, hM1, hle1⟩, hkp1⟩ := hq
  refine (hc bd be K1 W4 hM1 hd4 he4 (by omega) (by omega) (by omega) (by omega)).mono ?_
  rintro r W' ⟨rfl, hb⟩
  exact ⟨rfl, MQ.on hle1 hkp1 hb⟩
theorem row_at6 {W : World} {g : Nat} {x y : Int} {t : TypeId} (hb : W.heap[g]? = some (.cells #[.int .i64 x, .int .i64 y] t (0, 0))) : Row W (.slice (some ⟨g, 0, none⟩) 1 1) [(x, y)] := by
  refine .inr ⟨_, 0, 1, rfl, by simp, fun j hj => ?_⟩
  have : j = 0 := by simpa using hj
  subst this
  exact ⟨by rw [cell_of_row _ _ _ _ _ _ hb]; rfl, by rw [cell_of_row _ _ _ _ _ _ hb]; rfl⟩
set_option maxRecDepth 100000 in
set_option maxHeartbeats 1000000 in
theorem expr_6 {f0 f1 : Nat → Bool} (h : MI D K0 W) (c0 : KidC D 6 a b nm pe ks ce 0 f0) (c1 : KidC D 6 a b nm pe ks ce 1 f1) : Calls Tryz.prog 35 #[.pointer (some ⟨D.g, 0, none⟩), .agg #[.int .i64 6, .int .i64 a, .int .i64 b, .string ⟨nm.toArray⟩, .slice pe ks.length ce]] W fun r W' => r = .returned (.agg (mv (fun i => (f0 i || f1 i) && decide (i < 1440)))) ∧ MQ D (Les K0) W W' := by
  have hz := mv_lit
  have b3 : Below W.heap.size W (((W.alloc (.cells #[.pointer (some ⟨D.g, 0, none⟩)] 79)).alloc (.cells #[.int .i64 6, .int .i64 a, .int .i64 b, .string ⟨nm.toArray⟩, .slice pe ks.length ce] 31)).alloc (.cells (mv fun _ => false) 43)) := (((Below.refl _ _).alloc (Nat.le_refl _) _).alloc (by simp) _).alloc (by simp only [size_alloc]; omega) _
  have nD : (((W.alloc (.cells #[.pointer (some ⟨D.g, 0, none⟩)] 79)).alloc (.cells #[.int .i64 6, .int .i64 a, .int .i64 b, .string ⟨nm.toArray⟩, .slice pe ks.length ce] 31)).alloc (.cells (mv fun _ => false) 43)).heap[W.heap.size]? = some (.cells #[.pointer (some ⟨D.g, 0, none⟩)] 79 (0, 0)) := by (repeat (first | refine blk_old _ _ _ (by simp only [size_alloc]; omega) ?_ | exact blk_new _ _ _ (by first | rfl | simp only [size_alloc])))
  have nE : (((W.alloc (.cells #[.pointer (some ⟨D.g, 0, none⟩)] 79)).alloc (.cells #[.int .i64 6, .int .i64 a, .int .i64 b, .string ⟨nm.toArray⟩, .slice pe ks.length ce] 31)).alloc (.cells (mv fun _ => false) 43)).heap[W.heap.size + 1]? = some (.cells #[.int .i64 6, .int .i64 a, .int .i64 b, .string ⟨nm.toArray⟩, .slice pe ks.length ce] 31 (0, 0)) := by (repeat (first | refine blk_old _ _ _ (by simp only [size_alloc]; omega) ?_ | exact blk_new _ _ _ (by first | rfl | simp only [size_alloc])))
  have nR : (((W.alloc (.cells #[.pointer (some ⟨D.g, 0, none⟩)] 79)).alloc (.cells #[.int .i64 6, .int .i64 a, .int .i64 b, .string ⟨nm.toArray⟩, .slice pe ks.length ce] 31)).alloc (.cells (mv fun _ => false) 43)).heap[W.heap.size + 1 + 1]? = some (.cells (mv fun _ => false) 43 (0, 0)) := by (repeat (first | refine blk_old _ _ _ (by simp only [size_alloc]; omega) ?_ | exact blk_new _ _ _ (by first | rfl | simp only [size_alloc])))
  generalize hwA : (((W.alloc (.cells #[.pointer (some ⟨D.g, 0, none⟩)] 79)).alloc (.cells #[.int .i64 6, .int .i64 a, .int .i64 b, .string ⟨nm.toArray⟩, .slice pe ks.length ce] 31)).alloc (.cells (mv fun _ => false) 43)) = W3 at *
  have hA := h.later b3
  have q3 : MQ D (Les K0) W3 W3 := MQ.start hA (Below.refl _ _)
  have z0 := (cell_of_row _ _ 0 _ _ _ nE).trans rfl
  clear hA
  go_enter Tryz.func35, Tryz.ntmps35
  go_wp2_with fail
  refine (MQ.kid h q3 c0 nD nE (by omega) (by omega)).mono ?_
  rintro r W4 ⟨rfl, q4⟩
  clear q3 z0 hwA
  go_wp2_with fail
  refine (MQ.kid h q4 c1 nD nE (by omega) (by omega)).mono ?_
  rintro r W5 ⟨rfl, q5⟩
  clear q4
  go_wp2_with fail
  refine (union_any f0 f1 W5).mono ?_
  rintro r W6 ⟨rfl, hb6⟩
  have q9 := q5.low hb6
  have n9 := q9.own h (show W.heap.size ≤ W.heap.size + 1 + 1 by omega) nR
  have HQ := hid5 (MQ.ret h b3 (show W.heap.size ≤ W.heap.size + 1 + 1 by omega) q9 (mv (fun i => (f0 i || f1 i) && decide (i < 1440))))
  clear q9 q5 hb6 nD nE nR
  go_wp2_with (refine wpList_store_row rfl 43 _ _ rfl _ _ rfl rfl _ _ n9 (maskSize _) (by simp [mv_size]) (mv_all _) ?_)
  refine bodyPost_ret (v := .agg (mv (fun i => (f0 i || f1 i) && decide (i < 1440)))) ?_ rfl ⟨rfl, HQ.out⟩
  exact results_cell_row rfl _ _ (W.heap.size + 1 + 1) _ _ _ _ rfl (setRow_heap _ _ _ _ _ _ n9) maskType rfl (maskSize _)
set_option maxRecDepth 100000 in
set_option maxHeartbeats 1000000 in
theorem expr_7 {f0 f1 : Nat → Bool} (h : MI D K0 W) (c0 : KidC D 7 a b nm pe ks ce 0 f0) (c1 : KidC D 7 a b nm pe ks ce 1 f1) : Calls Tryz.prog 35 #[.pointer (some ⟨D.g, 0, none⟩), .agg #[.int .i64 7, .int .i64 a, .int .i64 b, .string ⟨nm.toArray⟩, .slice pe ks.length ce]] W fun r W' => r = .returned (.agg (mv (fun i => (f0 i && !f1 i) && decide (i < 1440)))) ∧ MQ D (Les K0) W W' := by
  have hz := mv_lit
  have b3 : Below W.heap.size W (((W.alloc (.cells #[.pointer (some ⟨D.g, 0, none⟩)] 79)).alloc (.cells #[.int .i64 7, .int .i64 a, .int .i64 b, .string ⟨nm.toArray⟩, .slice pe ks.length ce] 31)).alloc (.cells (mv fun _ => false) 43)) := (((Below.refl _ _).alloc (Nat.le_refl _) _).alloc (by simp) _).alloc (by simp only [size_alloc]; omega) _
  have nD : (((W.alloc (.cells #[.pointer (some ⟨D.g, 0, none⟩)] 79)).alloc (.cells #[.int .i64 7, .int .i64 a, .int .i64 b, .string ⟨nm.toArray⟩, .slice pe ks.length ce] 31)).alloc (.cells (mv fun _ => false) 43)).heap[W.heap.size]? = some (.cells #[.pointer (some ⟨D.g, 0, none⟩)] 79 (0, 0)) := by (repeat (first | refine blk_old _ _ _ (by simp only [size_alloc]; omega) ?_ | exact blk_new _ _ _ (by first | rfl | simp only [size_alloc])))
  have nE : (((W.alloc (.cells #[.pointer (some ⟨D.g, 0, none⟩)] 79)).alloc (.cells #[.int .i64 7, .int .i64 a, .int .i64 b, .string ⟨nm.toArray⟩, .slice pe ks.length ce] 31)).alloc (.cells (mv fun _ => false) 43)).heap[W.heap.size + 1]? = some (.cells #[.int .i64 7, .int .i64 a, .int .i64 b, .string ⟨nm.toArray⟩, .slice pe ks.length ce] 31 (0, 0)) := by (repeat (first | refine blk_old _ _ _ (by simp only [size_alloc]; omega) ?_ | exact blk_new _ _ _ (by first | rfl | simp only [size_alloc])))
  have nR : (((W.alloc (.cells #[.pointer (some ⟨D.g, 0, none⟩)] 79)).alloc (.cells #[.int .i64 7, .int .i64 a, .int .i64 b, .string ⟨nm.toArray⟩, .slice pe ks.length ce] 31)).alloc (.cells (mv fun _ => false) 43)).heap[W.heap.size + 1 + 1]? = some (.cells (mv fun _ => false) 43 (0, 0)) := by (repeat (first | refine blk_old _ _ _ (by simp only [size_alloc]; omega) ?_ | exact blk_new _ _ _ (by first | rfl | simp only [size_alloc])))
  generalize hwA : (((W.alloc (.cells #[.pointer (some ⟨D.g, 0, none⟩)] 79)).alloc (.cells #[.int .i64 7, .int .i64 a, .int .i64 b, .string ⟨nm.toArray⟩, .slice pe ks.length ce] 31)).alloc (.cells (mv fun _ => false) 43)) = W3 at *
  have hA := h.later b3
  have q3 : MQ D (Les K0) W3 W3 := MQ.start hA (Below.refl _ _)
  have z0 := (cell_of_row _ _ 0 _ _ _ nE).trans rfl
  clear hA
  go_enter Tryz.func35, Tryz.ntmps35
  go_wp2_with fail
  refine (MQ.kid h q3 c0 nD nE (by omega) (by omega)).mono ?_
  rintro r W4 ⟨rfl, q4⟩
  clear q3 z0 hwA
  go_wp2_with fail
  refine (MQ.kid h q4 c1 nD nE (by omega) (by omega)).mono ?_
  rintro r W5 ⟨rfl, q5⟩
  clear q4
  go_wp2_with fail
  refine (diff_any f0 f1 W5).mono ?_
  rintro r W6 ⟨rfl, hb6⟩
  have q9 := q5.low hb6
  have n9 := q9.own h (show W.heap.size ≤ W.heap.size + 1 + 1 by omega) nR
  have HQ := hid5 (MQ.ret h b3 (show W.heap.size ≤ W.heap.size + 1 + 1 by omega) q9 (mv (fun i => (f0 i && !f1 i) && decide (i < 1440))))
  clear q9 q5 hb6 nD nE nR
  go_wp2_with (refine wpList_store_row rfl 43 _ _ rfl _ _ rfl rfl _ _ n9 (maskSize _) (by simp [mv_size]) (mv_all _) ?_)
  refine bodyPost_ret (v := .agg (mv (fun i => (f0 i && !f1 i) && decide (i < 1440)))) ?_ rfl ⟨rfl, HQ.out⟩
  exact results_cell_row rfl _ _ (W.heap.size + 1 + 1) _ _ _ _ rfl (setRow_heap _ _ _ _ _ _ n9) maskType rfl (maskSize _)
set_option maxRecDepth 100000 in
set_option maxHeartbeats 1000000 in
theorem expr_8 {f0 f1 : Nat → Bool} (h : MI D K0 W) (c0 : KidC D 8 a b nm pe ks ce 0 f0) (c1 : KidC D 8 a b nm pe ks ce 1 f1) : Calls Tryz.prog 35 #[.pointer (some ⟨D.g, 0, none⟩), .agg #[.int .i64 8, .int .i64 a, .int .i64 b, .string ⟨nm.toArray⟩, .slice pe ks.length ce]] W fun r W' => r = .returned (.agg (mv (fun i => (f0 i && f1 i) && decide (i < 1440)))) ∧ MQ D (Les K0) W W' := by
  have hz := mv_lit
  have b3 : Below W.heap.size W (((W.alloc (.cells #[.pointer (some ⟨D.g, 0, none⟩)] 79)).alloc (.cells #[.int .i64 8, .int .i64 a, .int .i64 b, .string ⟨nm.toArray⟩, .slice pe ks.length ce] 31)).alloc (.cells (mv fun _ => false) 43)) := (((Below.refl _ _).alloc (Nat.le_refl _) _).alloc (by simp) _).alloc (by simp only [size_alloc]; omega) _
  have nD : (((W.alloc (.cells #[.pointer (some ⟨D.g, 0, none⟩)] 79)).alloc (.cells #[.int .i64 8, .int .i64 a, .int .i64 b, .string ⟨nm.toArray⟩, .slice pe ks.length ce] 31)).alloc (.cells (mv fun _ => false) 43)).heap[W.heap.size]? = some (.cells #[.pointer (some ⟨D.g, 0, none⟩)] 79 (0, 0)) := by (repeat (first | refine blk_old _ _ _ (by simp only [size_alloc]; omega) ?_ | exact blk_new _ _ _ (by first | rfl | simp only [size_alloc])))
  have nE : (((W.alloc (.cells #[.pointer (some ⟨D.g, 0, none⟩)] 79)).alloc (.cells #[.int .i64 8, .int .i64 a, .int .i64 b, .string ⟨nm.toArray⟩, .slice pe ks.length ce] 31)).alloc (.cells (mv fun _ => false) 43)).heap[W.heap.size + 1]? = some (.cells #[.int .i64 8, .int .i64 a, .int .i64 b, .string ⟨nm.toArray⟩, .slice pe ks.length ce] 31 (0, 0)) := by (repeat (first | refine blk_old _ _ _ (by simp only [size_alloc]; omega) ?_ | exact blk_new _ _ _ (by first | rfl | simp only [size_alloc])))
  have nR : (((W.alloc (.cells #[.pointer (some ⟨D.g, 0, none⟩)] 79)).alloc (.cells #[.int .i64 8, .int .i64 a, .int .i64 b, .string ⟨nm.toArray⟩, .slice pe ks.length ce] 31)).alloc (.cells (mv fun _ => false) 43)).heap[W.heap.size + 1 + 1]? = some (.cells (mv fun _ => false) 43 (0, 0)) := by (repeat (first | refine blk_old _ _ _ (by simp only [size_alloc]; omega) ?_ | exact blk_new _ _ _ (by first | rfl | simp only [size_alloc])))
  generalize hwA : (((W.alloc (.cells #[.pointer (some ⟨D.g, 0, none⟩)] 79)).alloc (.cells #[.int .i64 8, .int .i64 a, .int .i64 b, .string ⟨nm.toArray⟩, .slice pe ks.length ce] 31)).alloc (.cells (mv fun _ => false) 43)) = W3 at *
  have hA := h.later b3
  have q3 : MQ D (Les K0) W3 W3 := MQ.start hA (Below.refl _ _)
  have z0 := (cell_of_row _ _ 0 _ _ _ nE).trans rfl
  clear hA
  go_enter Tryz.func35, Tryz.ntmps35
  go_wp2_with fail
  refine (MQ.kid h q3 c0 nD nE (by omega) (by omega)).mono ?_
  rintro r W4 ⟨rfl, q4⟩
  clear q3 z0 hwA
  go_wp2_with fail
  refine (MQ.kid h q4 c1 nD nE (by omega) (by omega)).mono ?_
  rintro r W5 ⟨rfl, q5⟩
  clear q4
  go_wp2_with fail
  refine (both_any f0 f1 W5).mono ?_
  rintro r W6 ⟨rfl, hb6⟩
  have q9 := q5.low hb6
  have n9 := q9.own h (show W.heap.size ≤ W.heap.size + 1 + 1 by omega) nR
  have HQ := hid5 (MQ.ret h b3 (show W.heap.size ≤ W.heap.size + 1 + 1 by omega) q9 (mv (fun i => (f0 i && f1 i) && decide (i < 1440))))
  clear q9 q5 hb6 nD nE nR
  go_wp2_with (refine wpList_store_row rfl 43 _ _ rfl _ _ rfl rfl _ _ n9 (maskSize _) (by simp [mv_size]) (mv_all _) ?_)
  refine bodyPost_ret (v := .agg (mv (fun i => (f0 i && f1 i) && decide (i < 1440)))) ?_ rfl ⟨rfl, HQ.out⟩
  exact results_cell_row rfl _ _ (W.heap.size + 1 + 1) _ _ _ _ rfl (setRow_heap _ _ _ _ _ _ n9) maskType rfl (maskSize _)
set_option maxRecDepth 100000 in
set_option maxHeartbeats 1000000 in
theorem expr_4t {f0 : Nat → Bool} (h : MI D K0 W) (d0 : 0 ≤ D.day) (d1 : D.day < 146097) (hg : wkB D.day a = true) (c0 : KidC D 4 a b nm pe ks ce 0 f0) : Calls Tryz.prog 35 #[.pointer (some ⟨D.g, 0, none⟩), .agg #[.int .i64 4, .int .i64 a, .int .i64 b, .string ⟨nm.toArray⟩, .slice pe ks.length ce]] W fun r W' => r = .returned (.agg (mv f0)) ∧ MQ D (Les K0) W W' := by
  have hz := mv_lit
  have b3 : Below W.heap.size W (((W.alloc (.cells #[.pointer (some ⟨D.g, 0, none⟩)] 79)).alloc (.cells #[.int .i64 4, .int .i64 a, .int .i64 b, .string ⟨nm.toArray⟩, .slice pe ks.length ce] 31)).alloc (.cells (mv fun _ => false) 43)) := (((Below.refl _ _).alloc (Nat.le_refl _) _).alloc (by simp) _).alloc (by simp only [size_alloc]; omega) _
  have nD : (((W.alloc (.cells #[.pointer (some ⟨D.g, 0, none⟩)] 79)).alloc (.cells #[.int .i64 4, .int .i64 a, .int .i64 b, .string ⟨nm.toArray⟩, .slice pe ks.length ce] 31)).alloc (.cells (mv fun _ => false) 43)).heap[W.heap.size]? = some (.cells #[.pointer (some ⟨D.g, 0, none⟩)] 79 (0, 0)) := by (repeat (first | refine blk_old _ _ _ (by simp only [size_alloc]; omega) ?_ | exact blk_new _ _ _ (by first | rfl | simp only [size_alloc])))
  have nE : (((W.alloc (.cells #[.pointer (some ⟨D.g, 0, none⟩)] 79)).alloc (.cells #[.int .i64 4, .int .i64 a, .int .i64 b, .string ⟨nm.toArray⟩, .slice pe ks.length ce] 31)).alloc (.cells (mv fun _ => false) 43)).heap[W.heap.size + 1]? = some (.cells #[.int .i64 4, .int .i64 a, .int .i64 b, .string ⟨nm.toArray⟩, .slice pe ks.length ce] 31 (0, 0)) := by (repeat (first | refine blk_old _ _ _ (by simp only [size_alloc]; omega) ?_ | exact blk_new _ _ _ (by first | rfl | simp only [size_alloc])))
  have nR : (((W.alloc (.cells #[.pointer (some ⟨D.g, 0, none⟩)] 79)).alloc (.cells #[.int .i64 4, .int .i64 a, .int .i64 b, .string ⟨nm.toArray⟩, .slice pe ks.length ce] 31)).alloc (.cells (mv fun _ => false) 43)).heap[W.heap.size + 1 + 1]? = some (.cells (mv fun _ => false) 43 (0, 0)) := by (repeat (first | refine blk_old _ _ _ (by simp only [size_alloc]; omega) ?_ | exact blk_new _ _ _ (by first | rfl | simp only [size_alloc])))
  generalize hwA : (((W.alloc (.cells #[.pointer (some ⟨D.g, 0, none⟩)] 79)).alloc (.cells #[.int .i64 4, .int .i64 a, .int .i64 b, .string ⟨nm.toArray⟩, .slice pe ks.length ce] 31)).alloc (.cells (mv fun _ => false) 43)) = W3 at *
  have hA := h.later b3
  have q3 : MQ D (Les K0) W3 W3 := MQ.start hA (Below.refl _ _)
  have z0 := (cell_of_row _ _ 0 _ _ _ nE).trans rfl
  have hds : DaySt W3 D.g D.day D.lv D.mb (.slice (some ⟨D.gk, 0, none⟩) D.n D.n) (.slice (some ⟨D.gm, 0, none⟩) D.n D.n) := ⟨hA.blk⟩
  have cO := isOf4 D.g D.day D.lv D.mb _ _ (⟨4, a, b, nm, ks⟩ : Ex) pe ce W3 hds d0 d1 rfl
  rw [hg] at cO
  clear hA hds hg
  have kD := (cell_of_row _ _ 0 _ _ _ nD).trans rfl
  go_enter Tryz.func35, Tryz.ntmps35
  go_wp2_with (refine wpList_load_row rfl 31 _ rfl _ rfl _ _ _ _ nE exprType5 rfl (by kernel_rfl) ?_)
  refine cO.mono ?_
  rintro r W4 ⟨rfl, hb4⟩
  have q4 := q3.low hb4
  clear q3 z0 kD hwA cO hb4
  go_wp2_with fail
  refine (MQ.kid h q4 c0 nD nE (by omega) (by omega)).mono ?_
  rintro r W5 ⟨rfl, q9⟩
  clear q4
  have n9 := q9.own h (show W.heap.size ≤ W.heap.size + 1 + 1 by omega) nR
  have HQ := hid5 (MQ.ret h b3 (show W.heap.size ≤ W.heap.size + 1 + 1 by omega) q9 (mv f0))
  clear q9 nD nE nR
  go_wp2_with (refine wpList_store_row rfl 43 _ _ rfl _ _ rfl rfl _ _ n9 (maskSize _) (by simp [mv_size]) (mv_all _) ?_)
  refine bodyPost_ret (v := .agg (mv f0)) ?_ rfl ⟨rfl, HQ.out⟩
  exact results_cell_row rfl _ _ (W.heap.size + 1 + 1) _ _ _ _ rfl (setRow_heap _ _ _ _ _ _ n9) maskType rfl (maskSize _)
set_option maxRecDepth 100000 in
set_option maxHeartbeats 1000000 in
theorem expr_4f (h : MI D K0 W) (d0 : 0 ≤ D.day) (d1 : D.day < 146097) (hg : wkB D.day a = false) : Calls Tryz.prog 35 #[.pointer (some ⟨D.g, 0, none⟩), .agg #[.int .i64 4, .int .i64 a, .int .i64 b, .string ⟨nm.toArray⟩, .slice pe ks.length ce]] W fun r W' => r = .returned (.agg (mv (fun _ => false))) ∧ MQ D (Les K0) W W' := by
  have hz := mv_lit
  have b3 : Below W.heap.size W (((W.alloc (.cells #[.pointer (some ⟨D.g, 0, none⟩)] 79)).alloc (.cells #[.int .i64 4, .int .i64 a, .int .i64 b, .string ⟨nm.toArray⟩, .slice pe ks.length ce] 31)).alloc (.cells (mv fun _ => false) 43)) := (((Below.refl _ _).alloc (Nat.le_refl _) _).alloc (by simp) _).alloc (by simp only [size_alloc]; omega) _
  have nD : (((W.alloc (.cells #[.pointer (some ⟨D.g, 0, none⟩)] 79)).alloc (.cells #[.int .i64 4, .int .i64 a, .int .i64 b, .string ⟨nm.toArray⟩, .slice pe ks.length ce] 31)).alloc (.cells (mv fun _ => false) 43)).heap[W.heap.size]? = some (.cells #[.pointer (some ⟨D.g, 0, none⟩)] 79 (0, 0)) := by (repeat (first | refine blk_old _ _ _ (by simp only [size_alloc]; omega) ?_ | exact blk_new _ _ _ (by first | rfl | simp only [size_alloc])))
  have nE : (((W.alloc (.cells #[.pointer (some ⟨D.g, 0, none⟩)] 79)).alloc (.cells #[.int .i64 4, .int .i64 a, .int .i64 b, .string ⟨nm.toArray⟩, .slice pe ks.length ce] 31)).alloc (.cells (mv fun _ => false) 43)).heap[W.heap.size + 1]? = some (.cells #[.int .i64 4, .int .i64 a, .int .i64 b, .string ⟨nm.toArray⟩, .slice pe ks.length ce] 31 (0, 0)) := by (repeat (first | refine blk_old _ _ _ (by simp only [size_alloc]; omega) ?_ | exact blk_new _ _ _ (by first | rfl | simp only [size_alloc])))
  have nR : (((W.alloc (.cells #[.pointer (some ⟨D.g, 0, none⟩)] 79)).alloc (.cells #[.int .i64 4, .int .i64 a, .int .i64 b, .string ⟨nm.toArray⟩, .slice pe ks.length ce] 31)).alloc (.cells (mv fun _ => false) 43)).heap[W.heap.size + 1 + 1]? = some (.cells (mv fun _ => false) 43 (0, 0)) := by (repeat (first | refine blk_old _ _ _ (by simp only [size_alloc]; omega) ?_ | exact blk_new _ _ _ (by first | rfl | simp only [size_alloc])))
  generalize hwA : (((W.alloc (.cells #[.pointer (some ⟨D.g, 0, none⟩)] 79)).alloc (.cells #[.int .i64 4, .int .i64 a, .int .i64 b, .string ⟨nm.toArray⟩, .slice pe ks.length ce] 31)).alloc (.cells (mv fun _ => false) 43)) = W3 at *
  have hA := h.later b3
  have q3 : MQ D (Les K0) W3 W3 := MQ.start hA (Below.refl _ _)
  have z0 := (cell_of_row _ _ 0 _ _ _ nE).trans rfl
  have hds : DaySt W3 D.g D.day D.lv D.mb (.slice (some ⟨D.gk, 0, none⟩) D.n D.n) (.slice (some ⟨D.gm, 0, none⟩) D.n D.n) := ⟨hA.blk⟩
  have cO := isOf4 D.g D.day D.lv D.mb _ _ (⟨4, a, b, nm, ks⟩ : Ex) pe ce W3 hds d0 d1 rfl
  rw [hg] at cO
  clear hA hds hg
  have kD := (cell_of_row _ _ 0 _ _ _ nD).trans rfl
  go_enter Tryz.func35, Tryz.ntmps35
  go_wp2_with (refine wpList_load_row rfl 31 _ rfl _ rfl _ _ _ _ nE exprType5 rfl (by kernel_rfl) ?_)
  refine cO.mono ?_
  rintro r W4 ⟨rfl, hb4⟩
  have q9 := q3.low hb4
  clear q3 z0 kD hwA cO hb4
  have n9 := q9.own h (show W.heap.size ≤ W.heap.size + 1 + 1 by omega) nR
  have HQ := hid5 (MQ.ret h b3 (show W.heap.size ≤ W.heap.size + 1 + 1 by omega) q9 (mv (fun _ => false)))
  clear q9 nD nE nR
  go_wp2_with (refine wpList_store_row rfl 43 _ _ rfl _ _ rfl rfl _ _ n9 (maskSize _) (by simp [mv_size]) (mv_all _) ?_)
  refine bodyPost_ret (v := .agg (mv (fun _ => false))) ?_ rfl ⟨rfl, HQ.out⟩
  exact results_cell_row rfl _ _ (W.heap.size + 1 + 1) _ _ _ _ rfl (setRow_heap _ _ _ _ _ _ n9) maskType rfl (maskSize _)
set_option maxRecDepth 100000 in
set_option maxHeartbeats 1000000 in
theorem expr_5t {f0 : Nat → Bool} (h : MI D K0 W) (_ : 0 ≤ D.day) (_ : D.day < 146097) (hg : (decide (a ≤ D.day) && decide (D.day ≤ b)) = true) (c0 : KidC D 5 a b nm pe ks ce 0 f0) : Calls Tryz.prog 35 #[.pointer (some ⟨D.g, 0, none⟩), .agg #[.int .i64 5, .int .i64 a, .int .i64 b, .string ⟨nm.toArray⟩, .slice pe ks.length ce]] W fun r W' => r = .returned (.agg (mv f0)) ∧ MQ D (Les K0) W W' := by
  have hz := mv_lit
  have b3 : Below W.heap.size W (((W.alloc (.cells #[.pointer (some ⟨D.g, 0, none⟩)] 79)).alloc (.cells #[.int .i64 5, .int .i64 a, .int .i64 b, .string ⟨nm.toArray⟩, .slice pe ks.length ce] 31)).alloc (.cells (mv fun _ => false) 43)) := (((Below.refl _ _).alloc (Nat.le_refl _) _).alloc (by simp) _).alloc (by simp only [size_alloc]; omega) _
  have nD : (((W.alloc (.cells #[.pointer (some ⟨D.g, 0, none⟩)] 79)).alloc (.cells #[.int .i64 5, .int .i64 a, .int .i64 b, .string ⟨nm.toArray⟩, .slice pe ks.length ce] 31)).alloc (.cells (mv fun _ => false) 43)).heap[W.heap.size]? = some (.cells #[.pointer (some ⟨D.g, 0, none⟩)] 79 (0, 0)) := by (repeat (first | refine blk_old _ _ _ (by simp only [size_alloc]; omega) ?_ | exact blk_new _ _ _ (by first | rfl | simp only [size_alloc])))
  have nE : (((W.alloc (.cells #[.pointer (some ⟨D.g, 0, none⟩)] 79)).alloc (.cells #[.int .i64 5, .int .i64 a, .int .i64 b, .string ⟨nm.toArray⟩, .slice pe ks.length ce] 31)).alloc (.cells (mv fun _ => false) 43)).heap[W.heap.size + 1]? = some (.cells #[.int .i64 5, .int .i64 a, .int .i64 b, .string ⟨nm.toArray⟩, .slice pe ks.length ce] 31 (0, 0)) := by (repeat (first | refine blk_old _ _ _ (by simp only [size_alloc]; omega) ?_ | exact blk_new _ _ _ (by first | rfl | simp only [size_alloc])))
  have nR : (((W.alloc (.cells #[.pointer (some ⟨D.g, 0, none⟩)] 79)).alloc (.cells #[.int .i64 5, .int .i64 a, .int .i64 b, .string ⟨nm.toArray⟩, .slice pe ks.length ce] 31)).alloc (.cells (mv fun _ => false) 43)).heap[W.heap.size + 1 + 1]? = some (.cells (mv fun _ => false) 43 (0, 0)) := by (repeat (first | refine blk_old _ _ _ (by simp only [size_alloc]; omega) ?_ | exact blk_new _ _ _ (by first | rfl | simp only [size_alloc])))
  generalize hwA : (((W.alloc (.cells #[.pointer (some ⟨D.g, 0, none⟩)] 79)).alloc (.cells #[.int .i64 5, .int .i64 a, .int .i64 b, .string ⟨nm.toArray⟩, .slice pe ks.length ce] 31)).alloc (.cells (mv fun _ => false) 43)) = W3 at *
  have hA := h.later b3
  have q3 : MQ D (Les K0) W3 W3 := MQ.start hA (Below.refl _ _)
  have z0 := (cell_of_row _ _ 0 _ _ _ nE).trans rfl
  have hds : DaySt W3 D.g D.day D.lv D.mb (.slice (some ⟨D.gk, 0, none⟩) D.n D.n) (.slice (some ⟨D.gm, 0, none⟩) D.n D.n) := ⟨hA.blk⟩
  have cO := isOf5 D.g D.day D.lv D.mb _ _ (⟨5, a, b, nm, ks⟩ : Ex) pe ce W3 hds rfl
  rw [hg] at cO
  clear hA hds hg
  have kD := (cell_of_row _ _ 0 _ _ _ nD).trans rfl
  go_enter Tryz.func35, Tryz.ntmps35
  go_wp2_with (refine wpList_load_row rfl 31 _ rfl _ rfl _ _ _ _ nE exprType5 rfl (by kernel_rfl) ?_)
  refine cO.mono ?_
  rintro r W4 ⟨rfl, hb4⟩
  have q4 := q3.low hb4
  clear q3 z0 kD hwA cO hb4
  go_wp2_with fail
  refine (MQ.kid h q4 c0 nD nE (by omega) (by omega)).mono ?_
  rintro r W5 ⟨rfl, q9⟩
  clear q4
  have n9 := q9.own h (show W.heap.size ≤ W.heap.size + 1 + 1 by omega) nR
  have HQ := hid5 (MQ.ret h b3 (show W.heap.size ≤ W.heap.size + 1 + 1 by omega) q9 (mv f0))
  clear q9 nD nE nR
  go_wp2_with (refine wpList_store_row rfl 43 _ _ rfl _ _ rfl rfl _ _ n9 (maskSize _) (by simp [mv_size]) (mv_all _) ?_)
  refine bodyPost_ret (v := .agg (mv f0)) ?_ rfl ⟨rfl, HQ.out⟩
  exact results_cell_row rfl _ _ (W.heap.size + 1 + 1) _ _ _ _ rfl (setRow_heap _ _ _ _ _ _ n9) maskType rfl (maskSize _)
set_option maxRecDepth 100000 in
set_option maxHeartbeats 1000000 in
theorem expr_5f (h : MI D K0 W) (_ : 0 ≤ D.day) (_ : D.day < 146097) (hg : (decide (a ≤ D.day) && decide (D.day ≤ b)) = false) : Calls Tryz.prog 35 #[.pointer (some ⟨D.g, 0, none⟩), .agg #[.int .i64 5, .int .i64 a, .int .i64 b, .string ⟨nm.toArray⟩, .slice pe ks.length ce]] W fun r W' => r = .returned (.agg (mv (fun _ => false))) ∧ MQ D (Les K0) W W' := by
  have hz := mv_lit
  have b3 : Below W.heap.size W (((W.alloc (.cells #[.pointer (some ⟨D.g, 0, none⟩)] 79)).alloc (.cells #[.int .i64 5, .int .i64 a, .int .i64 b, .string ⟨nm.toArray⟩, .slice pe ks.length ce] 31)).alloc (.cells (mv fun _ => false) 43)) := (((Below.refl _ _).alloc (Nat.le_refl _) _).alloc (by simp) _).alloc (by simp only [size_alloc]; omega) _
  have nD : (((W.alloc (.cells #[.pointer (some ⟨D.g, 0, none⟩)] 79)).alloc (.cells #[.int .i64 5, .int .i64 a, .int .i64 b, .string ⟨nm.toArray⟩, .slice pe ks.length ce] 31)).alloc (.cells (mv fun _ => false) 43)).heap[W.heap.size]? = some (.cells #[.pointer (some ⟨D.g, 0, none⟩)] 79 (0, 0)) := by (repeat (first | refine blk_old _ _ _ (by simp only [size_alloc]; omega) ?_ | exact blk_new _ _ _ (by first | rfl | simp only [size_alloc])))
  have nE : (((W.alloc (.cells #[.pointer (some ⟨D.g, 0, none⟩)] 79)).alloc (.cells #[.int .i64 5, .int .i64 a, .int .i64 b, .string ⟨nm.toArray⟩, .slice pe ks.length ce] 31)).alloc (.cells (mv fun _ => false) 43)).heap[W.heap.size + 1]? = some (.cells #[.int .i64 5, .int .i64 a, .int .i64 b, .string ⟨nm.toArray⟩, .slice pe ks.length ce] 31 (0, 0)) := by (repeat (first | refine blk_old _ _ _ (by simp only [size_alloc]; omega) ?_ | exact blk_new _ _ _ (by first | rfl | simp only [size_alloc])))
  have nR : (((W.alloc (.cells #[.pointer (some ⟨D.g, 0, none⟩)] 79)).alloc (.cells #[.int .i64 5, .int .i64 a, .int .i64 b, .string ⟨nm.toArray⟩, .slice pe ks.length ce] 31)).alloc (.cells (mv fun _ => false) 43)).heap[W.heap.size + 1 + 1]? = some (.cells (mv fun _ => false) 43 (0, 0)) := by (repeat (first | refine blk_old _ _ _ (by simp only [size_alloc]; omega) ?_ | exact blk_new _ _ _ (by first | rfl | simp only [size_alloc])))
  generalize hwA : (((W.alloc (.cells #[.pointer (some ⟨D.g, 0, none⟩)] 79)).alloc (.cells #[.int .i64 5, .int .i64 a, .int .i64 b, .string ⟨nm.toArray⟩, .slice pe ks.length ce] 31)).alloc (.cells (mv fun _ => false) 43)) = W3 at *
  have hA := h.later b3
  have q3 : MQ D (Les K0) W3 W3 := MQ.start hA (Below.refl _ _)
  have z0 := (cell_of_row _ _ 0 _ _ _ nE).trans rfl
  have hds : DaySt W3 D.g D.day D.lv D.mb (.slice (some ⟨D.gk, 0, none⟩) D.n D.n) (.slice (some ⟨D.gm, 0, none⟩) D.n D.n) := ⟨hA.blk⟩
  have cO := isOf5 D.g D.day D.lv D.mb _ _ (⟨5, a, b, nm, ks⟩ : Ex) pe ce W3 hds rfl
  rw [hg] at cO
  clear hA hds hg
  have kD := (cell_of_row _ _ 0 _ _ _ nD).trans rfl
  go_enter Tryz.func35, Tryz.ntmps35
  go_wp2_with (refine wpList_load_row rfl 31 _ rfl _ rfl _ _ _ _ nE exprType5 rfl (by kernel_rfl) ?_)
  refine cO.mono ?_
  rintro r W4 ⟨rfl, hb4⟩
  have q9 := q3.low hb4
  clear q3 z0 kD hwA cO hb4
  have n9 := q9.own h (show W.heap.size ≤ W.heap.size + 1 + 1 by omega) nR
  have HQ := hid5 (MQ.ret h b3 (show W.heap.size ≤ W.heap.size + 1 + 1 by omega) q9 (mv (fun _ => false)))
  clear q9 nD nE nR
  go_wp2_with (refine wpList_store_row rfl 43 _ _ rfl _ _ rfl rfl _ _ n9 (maskSize _) (by simp [mv_size]) (mv_all _) ?_)
  refine bodyPost_ret (v := .agg (mv (fun _ => false))) ?_ rfl ⟨rfl, HQ.out⟩
  exact results_cell_row rfl _ _ (W.heap.size + 1 + 1) _ _ _ _ rfl (setRow_heap _ _ _ _ _ _ n9) maskType rfl (maskSize _)
end Go.Proofs.YtgfjbcdjpkcbkaaGreatDoor
