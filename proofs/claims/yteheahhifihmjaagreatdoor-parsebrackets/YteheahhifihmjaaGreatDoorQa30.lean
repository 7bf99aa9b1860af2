/- What writePair comes to. -/
import Derived.Test.YteheahhifihmjaaGreatDoorQa29
namespace Go.Proofs.YteheahhifihmjaaGreatDoor
open Go.RowKit Lx
variable {B b : Nat}

/-- What write comes to at an expression, from a world on. -/
def KidW (B b : Nat) (w : World) (k : Ex) (p : Option Addr) (q : Nat) : Prop := ∀ (W : World) (l : List UInt8) (least : Nat), Below B w W → BSt B b l W → least ≤ 3 → l.length + (textE k least).length ≤ 140737488355328 →
  Calls Tryz.prog 14 #[.pointer (some ⟨b, 0, none⟩), .agg #[.int .i64 k.kind, .int .i64 k.a, .int .i64 k.b, .string ⟨k.name.toArray⟩, .slice p k.kids.length q], .int .i64 (least : Int)] W (OutT B b l (textE k least) W)
/-- The kids of an expression, each with what write comes to at it. -/
def KidsW (B b : Nat) (w : World) (sl : Value) (ks : List Ex) : Prop := ∃ g o c : Nat, sl = .slice (some ⟨g, o, none⟩) ks.length c ∧ g < B ∧ ∀ (j : Nat) (k : Ex), ks[j]? = some k → ∃ (p : Option Addr) (q : Nat), w.cell? ⟨g, o + j * 5, none⟩ = some (.int .i64 k.kind) ∧ w.cell? ⟨g, o + j * 5 + 1, none⟩ = some (.int .i64 k.a) ∧ w.cell? ⟨g, o + j * 5 + 2, none⟩ = some (.int .i64 k.b) ∧ w.cell? ⟨g, o + j * 5 + 3, none⟩ = some (.string ⟨k.name.toArray⟩) ∧ w.cell? ⟨g, o + j * 5 + 4, none⟩ = some (.slice p k.kids.length q) ∧ KidW B b w k p q
theorem below_cell {w w' : World} {g i : Nat} (hb : Below B w w') (hg : g < B) (_hl : g < w.heap.size) : w'.cell? ⟨g, i, none⟩ = w.cell? ⟨g, i, none⟩ := World.cell?_of_block (hb.block g hg)

set_option maxRecDepth 100000 in
set_option maxHeartbeats 4000000 in
theorem wpair_any (e : Ex) (p : Option Addr) (cc : Nat) (w : World) (l btw : List UInt8) (k0 k1 : Ex) (hl2 : e.kids.length = 2) (hk0 : e.kids[0]? = some k0) (hk1 : e.kids[1]? = some k1) (hks : KidsW B b w (.slice p e.kids.length cc) e.kids) (h : BSt B b l w) (hh : holdP e.kind ≤ 2)
    (hlen : l.length + (textE k0 (holdP e.kind)).length + btw.length + (textE k1 (holdP e.kind + 1)).length ≤ 140737488355328) :
    Calls Tryz.prog 34 #[.pointer (some ⟨b, 0, none⟩), .agg #[.int .i64 e.kind, .int .i64 e.a, .int .i64 e.b, .string ⟨e.name.toArray⟩, .slice p e.kids.length cc], .string ⟨btw.toArray⟩] w (OutT B b l (textE k0 (holdP e.kind) ++ (btw ++ textE k1 (holdP e.kind + 1))) w) := by
  obtain ⟨g, o, c, hsl, hgB, hkid⟩ := hks
  injection hsl with q1 q2 q3
  subst q1
  subst q3
  rw [hl2]
  have hbA := (Below.refl w.heap.size w).alloc (Nat.le_refl _) (.cells #[.int .i64 e.kind, .int .i64 e.a, .int .i64 e.b, .string ⟨e.name.toArray⟩, .slice (some ⟨g, o, none⟩) 2 cc] 38)
  have hxA := heap_alloc_new w (.cells #[.int .i64 e.kind, .int .i64 e.a, .int .i64 e.b, .string ⟨e.name.toArray⟩, .slice (some ⟨g, o, none⟩) 2 cc] 38)
  have hbA' := hbA.mono h.le
  have hszA : B ≤ (w.alloc (.cells #[.int .i64 e.kind, .int .i64 e.a, .int .i64 e.b, .string ⟨e.name.toArray⟩, .slice (some ⟨g, o, none⟩) 2 cc] 38)).heap.size := Nat.le_trans h.le hbA.size
  generalize hwA : w.alloc (.cells #[.int .i64 e.kind, .int .i64 e.a, .int .i64 e.b, .string ⟨e.name.toArray⟩, .slice (some ⟨g, o, none⟩) 2 cc] 38) = wA at *
  obtain ⟨p0, q0, d0', d1', d2', d3', d4', c0⟩ := hkid 0 k0 hk0
  have d0 : wA.cell? ⟨g, o, none⟩ = _ := (hbA.cell (block_lt_of_cell d0')).trans d0'
  have d1 : wA.cell? ⟨g, o + 1, none⟩ = _ := (hbA.cell (block_lt_of_cell d1')).trans d1'
  have d2 : wA.cell? ⟨g, o + 2, none⟩ = _ := (hbA.cell (block_lt_of_cell d2')).trans d2'
  have d3 : wA.cell? ⟨g, o + 3, none⟩ = _ := (hbA.cell (block_lt_of_cell d3')).trans d3'
  have d4 : wA.cell? ⟨g, o + 4, none⟩ = _ := (hbA.cell (block_lt_of_cell d4')).trans d4'
  obtain ⟨p1, q1, e0', e1', e2', e3', e4', c1⟩ := hkid 1 k1 hk1
  have _e0 : wA.cell? ⟨g, o + 5, none⟩ = _ := (hbA.cell (block_lt_of_cell e0')).trans e0'
  have _e1 : wA.cell? ⟨g, o + 6, none⟩ = _ := (hbA.cell (block_lt_of_cell e1')).trans e1'
  have _e2 : wA.cell? ⟨g, o + 7, none⟩ = _ := (hbA.cell (block_lt_of_cell e2')).trans e2'
  have _e3 : wA.cell? ⟨g, o + 8, none⟩ = _ := (hbA.cell (block_lt_of_cell e3')).trans e3'
  have _e4 : wA.cell? ⟨g, o + 9, none⟩ = _ := (hbA.cell (block_lt_of_cell e4')).trans e4'
  have z4 := (cell_of_row _ _ 4 _ _ _ hxA).trans rfl
  have z0 := (cell_of_row _ _ 0 _ _ _ hxA).trans rfl
  clear hkid hk0 hk1 hl2
  have hb0 : (0 : Int) ≤ (holdP e.kind : Int) := by omega
  have hb2 : (holdP e.kind : Int) ≤ 2 := by omega
  generalize hT0 : textE k0 (holdP e.kind) = T0 at *
  generalize hT1 : textE k1 (holdP e.kind + 1) = T1 at *
  go_enter Tryz.func34, Tryz.ntmps34
  go_wp2_with fail
  have hTT0 : Hid (textE k0 (holdP e.kind) = T0) := hT0
  have hTT1 : Hid (textE k1 (holdP e.kind + 1) = T1) := hT1
  clear hT0 hT1
  refine wp_region_last (by kernel_rfl) (by kernel_rfl) (by kernel_rfl) (by kernel_rfl) 8 (by kernel_rfl) (by kernel_rfl) [(6, .pointer (some ⟨b, 0, none⟩)), (7, .pointer (some ⟨w.heap.size, 4, none⟩)), (8, .slice (some ⟨g, o, none⟩) 2 cc), (9, .pointer (some ⟨g, o, none⟩)), (10, .agg #[.int .i64 k0.kind, .int .i64 k0.a, .int .i64 k0.b, .string ⟨k0.name.toArray⟩, .slice p0 k0.kids.length q0]), (11, .pointer (some ⟨w.heap.size, 0, none⟩)), (12, .int .i64 e.kind), (13, .int .i64 (holdP e.kind : Int))] (by kernel_rfl) (by kernel_rfl) ?_ ?_
  · intro i s v o L A W ho hv hdep hJ hkept hhas
    match i, ho, hv with
    | 0, ho, hv =>
      cases Option.some.inj ho
      cases Option.some.inj hv
      have h0 : A.tmps[0]?.getD undef = .pointer (some ⟨b, 0, none⟩) := (gd A 0).trans (hkept 0 (by kernel_rfl))
      refine wpOp_step rfl (fun K hK => ?_)
      go_simp
      exact hK _ _ ⟨rfl, Below.refl _ _⟩
    | 1, ho, hv =>
      cases Option.some.inj ho
      cases Option.some.inj hv
      have h4 : A.tmps[4]?.getD undef = .pointer (some ⟨w.heap.size, 0, none⟩) := (gd A 4).trans (hkept 4 (by kernel_rfl))
      refine wpOp_step rfl (fun K hK => ?_)
      go_simp
      exact hK _ _ ⟨rfl, Below.refl _ _⟩
    | 2, ho, hv =>
      cases Option.some.inj ho
      cases Option.some.inj hv
      have h7 : A.tmps[7]?.getD undef = .pointer (some ⟨w.heap.size, 4, none⟩) := (gd A 7).trans (hhas 1 7 _ rfl (hdep ⟨1, .data⟩ (by simp) rfl))
      have z4W : W.cell? ⟨w.heap.size, 4, none⟩ = some (.slice (some ⟨g, o, none⟩) 2 cc) := (hJ.cell (block_lt_of_cell z4)).trans z4
      refine wpOp_step rfl (fun K hK => ?_)
      go_simp
      exact hK _ _ ⟨rfl, Below.refl _ _⟩
    | 3, ho, hv =>
      cases Option.some.inj ho
      cases Option.some.inj hv
      have h8 : A.tmps[8]?.getD undef = .slice (some ⟨g, o, none⟩) 2 cc := (gd A 8).trans (hhas 2 8 _ rfl (hdep ⟨2, .data⟩ (by simp) rfl))
      refine wpOp_step rfl (fun K hK => ?_)
      go_simp
      exact hK _ _ ⟨rfl, Below.refl _ _⟩
    | 4, ho, hv =>
      cases Option.some.inj ho
      cases Option.some.inj hv
      have h9 : A.tmps[9]?.getD undef = .pointer (some ⟨g, o, none⟩) := (gd A 9).trans (hhas 3 9 _ rfl (hdep ⟨3, .data⟩ (by simp) rfl))
      have d0W : W.cell? ⟨g, o, none⟩ = some (.int .i64 k0.kind) := (hJ.cell (block_lt_of_cell d0)).trans d0
      have d1W : W.cell? ⟨g, o + 1, none⟩ = some (.int .i64 k0.a) := (hJ.cell (block_lt_of_cell d1)).trans d1
      have d2W : W.cell? ⟨g, o + 2, none⟩ = some (.int .i64 k0.b) := (hJ.cell (block_lt_of_cell d2)).trans d2
      have d3W : W.cell? ⟨g, o + 3, none⟩ = some (.string ⟨k0.name.toArray⟩) := (hJ.cell (block_lt_of_cell d3)).trans d3
      have d4W : W.cell? ⟨g, o + 4, none⟩ = some (.slice p0 k0.kids.length q0) := (hJ.cell (block_lt_of_cell d4)).trans d4
      refine wpOp_step rfl (fun K hK => ?_)
      go_simp
      exact hK _ _ ⟨rfl, Below.refl _ _⟩
    | 5, ho, hv =>
      cases Option.some.inj ho
      cases Option.some.inj hv
      have h4 : A.tmps[4]?.getD undef = .pointer (some ⟨w.heap.size, 0, none⟩) := (gd A 4).trans (hkept 4 (by kernel_rfl))
      refine wpOp_step rfl (fun K hK => ?_)
      go_simp
      exact hK _ _ ⟨rfl, Below.refl _ _⟩
    | 6, ho, hv =>
      cases Option.some.inj ho
      cases Option.some.inj hv
      have h11 : A.tmps[11]?.getD undef = .pointer (some ⟨w.heap.size, 0, none⟩) := (gd A 11).trans (hhas 5 11 _ rfl (hdep ⟨5, .data⟩ (by simp) rfl))
      have z0W : W.cell? ⟨w.heap.size, 0, none⟩ = some (.int .i64 e.kind) := (hJ.cell (block_lt_of_cell z0)).trans z0
      refine wpOp_step rfl (fun K hK => ?_)
      go_simp
      exact hK _ _ ⟨rfl, Below.refl _ _⟩
    | 7, ho, hv =>
      cases Option.some.inj ho
      cases Option.some.inj hv
      have h12 : A.tmps[12]?.getD undef = .int .i64 e.kind := (gd A 12).trans (hhas 6 12 _ rfl (hdep ⟨6, .data⟩ (by simp) rfl))
      refine wpOp_step rfl (fun K hK => ?_)
      go_simp
      refine ((hold_any e.kind W).mono (fun r w' h => (⟨h.1, h.2 ▸ Below.refl _ _⟩ : r = .returned (.int .i64 (holdP e.kind : Int)) ∧ Below W.heap.size W w'))).mono ?_
      rintro e' W' ⟨rfl, hb'⟩
      exact hK _ _ ⟨rfl, hb'⟩
    | k + 8, ho, hv => simp at hv
  · intro o W ho hJ
    cases Option.some.inj ho
    simp only [putAll_cons, putAll_nil, Act.put, List.setIfInBounds_toArray, List.set_cons_succ, List.set_cons_zero]
    refine wpOp_step rfl (fun K hK => ?_)
    go_simp
    refine (c0 W l (holdP e.kind) (hbA'.trans (hJ.mono hszA)) ((h.below hbA).below hJ) (by omega) (by rw [hTT0.out]; omega)).mono ?_
    rintro r w2 ⟨rfl, hs2, hk2⟩
    rw [hTT0.out] at hs2
    refine hK _ _ ⟨⟨_, rfl⟩, ?_⟩
    clear hK
    have hkA2 : BK B b w w2 := (BK.of_below hbA h.le).trans ((BK.of_below hJ (h.below hbA).le).trans hk2)
    have hx2 := hk2.others _ _ ((hJ.block _ (lt_of_block hxA)).trans hxA) (by intro q; cases q; have := h.lt; omega) (by intro cc fz q; cases q)
    have P2 := put_any btw hs2 (by simp; omega)
    go_wp2_with fail
    refine P2.mono ?_
    rintro r w3 ⟨rfl, hs3, hk3⟩
    have hkA3 := hkA2.trans hk3
    have hx3 := hk3.others _ _ hx2 (by intro q; cases q; have := h.lt; omega) (by intro cc fz q; cases q)
    have y4 := (cell_of_row _ _ 4 _ _ _ hx3).trans rfl
    have y0 := (cell_of_row _ _ 0 _ _ _ hx3).trans rfl
    have e0 : w3.cell? ⟨g, o + 5, none⟩ = _ := (below_cell hkA3.below hgB (block_lt_of_cell e0')).trans e0'
    have e1 : w3.cell? ⟨g, o + 6, none⟩ = _ := (below_cell hkA3.below hgB (block_lt_of_cell e1')).trans e1'
    have e2 : w3.cell? ⟨g, o + 7, none⟩ = _ := (below_cell hkA3.below hgB (block_lt_of_cell e2')).trans e2'
    have e3 : w3.cell? ⟨g, o + 8, none⟩ = _ := (below_cell hkA3.below hgB (block_lt_of_cell e3')).trans e3'
    have e4 : w3.cell? ⟨g, o + 9, none⟩ = _ := (below_cell hkA3.below hgB (block_lt_of_cell e4')).trans e4'
    clear P2 hk3 hs2 hk2 hkA2 hx2 hx3 hJ
    go_wp2_with fail
    refine wp_region_last (by kernel_rfl) (by kernel_rfl) (by kernel_rfl) (by kernel_rfl) 9 (by kernel_rfl) (by kernel_rfl) [(18, .pointer (some ⟨b, 0, none⟩)), (19, .pointer (some ⟨w.heap.size, 4, none⟩)), (20, .slice (some ⟨g, o, none⟩) 2 cc), (21, .pointer (some ⟨g, o + 5, none⟩)), (22, .agg #[.int .i64 k1.kind, .int .i64 k1.a, .int .i64 k1.b, .string ⟨k1.name.toArray⟩, .slice p1 k1.kids.length q1]), (23, .pointer (some ⟨w.heap.size, 0, none⟩)), (24, .int .i64 e.kind), (25, .int .i64 (holdP e.kind : Int)), (26, .int .i64 ((holdP e.kind : Int) + 1))] (by kernel_rfl) (by kernel_rfl) ?_ ?_
    · intro i s v o L A W ho hv hdep hJ hkept hhas
      match i, ho, hv with
      | 0, ho, hv =>
        cases Option.some.inj ho
        cases Option.some.inj hv
        have h0 : A.tmps[0]?.getD undef = .pointer (some ⟨b, 0, none⟩) := (gd A 0).trans (hkept 0 (by kernel_rfl))
        refine wpOp_step rfl (fun K hK => ?_)
        go_simp
        exact hK _ _ ⟨rfl, Below.refl _ _⟩
      | 1, ho, hv =>
        cases Option.some.inj ho
        cases Option.some.inj hv
        have h4 : A.tmps[4]?.getD undef = .pointer (some ⟨w.heap.size, 0, none⟩) := (gd A 4).trans (hkept 4 (by kernel_rfl))
        refine wpOp_step rfl (fun K hK => ?_)
        go_simp
        exact hK _ _ ⟨rfl, Below.refl _ _⟩
      | 2, ho, hv =>
        cases Option.some.inj ho
        cases Option.some.inj hv
        have h19 : A.tmps[19]?.getD undef = .pointer (some ⟨w.heap.size, 4, none⟩) := (gd A 19).trans (hhas 1 19 _ rfl (hdep ⟨1, .data⟩ (by simp) rfl))
        have y4W : W.cell? ⟨w.heap.size, 4, none⟩ = some (.slice (some ⟨g, o, none⟩) 2 cc) := (hJ.cell (block_lt_of_cell y4)).trans y4
        refine wpOp_step rfl (fun K hK => ?_)
        go_simp
        exact hK _ _ ⟨rfl, Below.refl _ _⟩
      | 3, ho, hv =>
        cases Option.some.inj ho
        cases Option.some.inj hv
        have h20 : A.tmps[20]?.getD undef = .slice (some ⟨g, o, none⟩) 2 cc := (gd A 20).trans (hhas 2 20 _ rfl (hdep ⟨2, .data⟩ (by simp) rfl))
        refine wpOp_step rfl (fun K hK => ?_)
        go_simp
        exact hK _ _ ⟨rfl, Below.refl _ _⟩
      | 4, ho, hv =>
        cases Option.some.inj ho
        cases Option.some.inj hv
        have h21 : A.tmps[21]?.getD undef = .pointer (some ⟨g, o + 5, none⟩) := (gd A 21).trans (hhas 3 21 _ rfl (hdep ⟨3, .data⟩ (by simp) rfl))
        have e0W : W.cell? ⟨g, o + 5, none⟩ = some (.int .i64 k1.kind) := (hJ.cell (block_lt_of_cell e0)).trans e0
        have e1W : W.cell? ⟨g, o + 6, none⟩ = some (.int .i64 k1.a) := (hJ.cell (block_lt_of_cell e1)).trans e1
        have e2W : W.cell? ⟨g, o + 7, none⟩ = some (.int .i64 k1.b) := (hJ.cell (block_lt_of_cell e2)).trans e2
        have e3W : W.cell? ⟨g, o + 8, none⟩ = some (.string ⟨k1.name.toArray⟩) := (hJ.cell (block_lt_of_cell e3)).trans e3
        have e4W : W.cell? ⟨g, o + 9, none⟩ = some (.slice p1 k1.kids.length q1) := (hJ.cell (block_lt_of_cell e4)).trans e4
        refine wpOp_step rfl (fun K hK => ?_)
        go_simp
        exact hK _ _ ⟨rfl, Below.refl _ _⟩
      | 5, ho, hv =>
        cases Option.some.inj ho
        cases Option.some.inj hv
        have h4 : A.tmps[4]?.getD undef = .pointer (some ⟨w.heap.size, 0, none⟩) := (gd A 4).trans (hkept 4 (by kernel_rfl))
        refine wpOp_step rfl (fun K hK => ?_)
        go_simp
        exact hK _ _ ⟨rfl, Below.refl _ _⟩
      | 6, ho, hv =>
        cases Option.some.inj ho
        cases Option.some.inj hv
        have h23 : A.tmps[23]?.getD undef = .pointer (some ⟨w.heap.size, 0, none⟩) := (gd A 23).trans (hhas 5 23 _ rfl (hdep ⟨5, .data⟩ (by simp) rfl))
        have y0W : W.cell? ⟨w.heap.size, 0, none⟩ = some (.int .i64 e.kind) := (hJ.cell (block_lt_of_cell y0)).trans y0
        refine wpOp_step rfl (fun K hK => ?_)
        go_simp
        exact hK _ _ ⟨rfl, Below.refl _ _⟩
      | 7, ho, hv =>
        cases Option.some.inj ho
        cases Option.some.inj hv
        have h24 : A.tmps[24]?.getD undef = .int .i64 e.kind := (gd A 24).trans (hhas 6 24 _ rfl (hdep ⟨6, .data⟩ (by simp) rfl))
        refine wpOp_step rfl (fun K hK => ?_)
        go_simp
        refine ((hold_any e.kind W).mono (fun r w' h => (⟨h.1, h.2 ▸ Below.refl _ _⟩ : r = .returned (.int .i64 (holdP e.kind : Int)) ∧ Below W.heap.size W w'))).mono ?_
        rintro e' W' ⟨rfl, hb'⟩
        exact hK _ _ ⟨rfl, hb'⟩
      | 8, ho, hv =>
        cases Option.some.inj ho
        cases Option.some.inj hv
        have h25 : A.tmps[25]?.getD undef = .int .i64 (holdP e.kind : Int) := (gd A 25).trans (hhas 7 25 _ rfl (hdep ⟨7, .data⟩ (by simp) rfl))
        have hw : IntKind.i64.wrap ((holdP e.kind : Int) + 1) = (holdP e.kind : Int) + 1 := by rw [IntKind.wrap_i64]; omega
        refine wpOp_step rfl (fun K hK => ?_)
        go_simp
        exact hK _ _ ⟨rfl, Below.refl _ _⟩
      | k + 9, ho, hv => simp at hv
    · intro o W ho hJ
      cases Option.some.inj ho
      simp only [putAll_cons, putAll_nil, Act.put, List.setIfInBounds_toArray, List.set_cons_succ, List.set_cons_zero]
      refine wpOp_step rfl (fun K hK => ?_)
      go_simp
      refine (c1 W (l ++ T0 ++ btw) (holdP e.kind + 1) (hkA3.below.trans (hJ.mono hs3.le)) (hs3.below hJ) (by omega) (by rw [hTT1.out]; simp; omega)).mono ?_
      rintro r w4 ⟨rfl, hs4, hk4⟩
      rw [hTT1.out] at hs4
      refine hK _ _ ⟨⟨_, rfl⟩, ?_⟩
      go_wp2_with fail
      go_end0
      exact ⟨rfl, by simpa using hs4, hkA3.trans ((BK.of_below hJ hs3.le).trans hk4)⟩

end Go.Proofs.YteheahhifihmjaaGreatDoor
