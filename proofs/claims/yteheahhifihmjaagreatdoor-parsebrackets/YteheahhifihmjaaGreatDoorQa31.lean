/- What writeBare comes to, where write comes to what it should at the kids. -/
import Derived.Test.YteheahhifihmjaaGreatDoorQa30
namespace Go.Proofs.YteheahhifihmjaaGreatDoor
open Go.RowKit Lx
variable {B b : Nat}

theorem KidsW.on {w w' : World} {sl : Value} {ks : List Ex} (h : KidsW B b w sl ks) (hb : Below B w w') : KidsW B b w' sl ks := by
  obtain ⟨g, o, c, hs, hg, hk⟩ := h
  refine ⟨g, o, c, hs, hg, fun j k hj => ?_⟩
  obtain ⟨p, q, d0, d1, d2, d3, d4, r⟩ := hk j k hj
  exact ⟨p, q, (below_cell hb hg (block_lt_of_cell d0)).trans d0, (below_cell hb hg (block_lt_of_cell d1)).trans d1, (below_cell hb hg (block_lt_of_cell d2)).trans d2, (below_cell hb hg (block_lt_of_cell d3)).trans d3, (below_cell hb hg (block_lt_of_cell d4)).trans d4, fun W l least hW => r W l least (hb.trans hW)⟩
set_option maxRecDepth 100000 in
set_option maxHeartbeats 4000000 in
theorem bare_step_1 (a b1 : Int) (name : List UInt8) (kids : List Ex) (p : Option Addr) (c : Nat) (w : World) (l : List UInt8) (_hks : kids = [] ∨ KidsW B b w (.slice p kids.length c) kids) (_hok : OKE ⟨1, a, b1, name, kids⟩) (_hPT : PTb B w) (h : BSt B b l w)
    (hlen : l.length + (bareP ⟨1, a, b1, name, kids⟩ (kidT kids)).length ≤ 140737488355328) :
    Calls Tryz.prog 24 #[.pointer (some ⟨b, 0, none⟩), .agg #[.int .i64 1, .int .i64 a, .int .i64 b1, .string ⟨name.toArray⟩, .slice p kids.length c]] w (OutT B b l (bareP ⟨1, a, b1, name, kids⟩ (kidT kids)) w) := by
  have hbA := (Below.refl w.heap.size w).alloc (Nat.le_refl _) (.cells #[.int .i64 1, .int .i64 a, .int .i64 b1, .string ⟨name.toArray⟩, .slice p kids.length c] 38)
  have hxA := heap_alloc_new w (.cells #[.int .i64 1, .int .i64 a, .int .i64 b1, .string ⟨name.toArray⟩, .slice p kids.length c] 38)
  have hsA := h.below hbA
  have hbA' := hbA.mono h.le
  have hkA : BK B b w _ := BK.of_below hbA h.le
  generalize hwA : w.alloc (.cells #[.int .i64 1, .int .i64 a, .int .i64 b1, .string ⟨name.toArray⟩, .slice p kids.length c] 38) = wA at *
  have z0 := (cell_of_row _ _ 0 _ _ _ hxA).trans rfl
  rw [bare_1 rfl] at hlen ⊢
  have P1 := put_any [110, 101, 118, 101, 114] hsA (by simpa using hlen)
  clear hlen
  go_enter Tryz.func24, Tryz.ntmps24
  go_wp2_with fail
  refine P1.mono ?_
  rintro r w1 ⟨rfl, hs1, hk1⟩
  clear P1
  go_wp2_with fail
  go_end0
  exact ⟨rfl, hs1, hkA.trans hk1⟩
set_option maxRecDepth 100000 in
set_option maxHeartbeats 4000000 in
theorem bare_step_2 (a b1 : Int) (name : List UInt8) (kids : List Ex) (p : Option Addr) (c : Nat) (w : World) (l : List UInt8) (_hks : kids = [] ∨ KidsW B b w (.slice p kids.length c) kids) (_hok : OKE ⟨2, a, b1, name, kids⟩) (_hPT : PTb B w) (h : BSt B b l w)
    (hlen : l.length + (bareP ⟨2, a, b1, name, kids⟩ (kidT kids)).length ≤ 140737488355328) :
    Calls Tryz.prog 24 #[.pointer (some ⟨b, 0, none⟩), .agg #[.int .i64 2, .int .i64 a, .int .i64 b1, .string ⟨name.toArray⟩, .slice p kids.length c]] w (OutT B b l (bareP ⟨2, a, b1, name, kids⟩ (kidT kids)) w) := by
  have hbA := (Below.refl w.heap.size w).alloc (Nat.le_refl _) (.cells #[.int .i64 2, .int .i64 a, .int .i64 b1, .string ⟨name.toArray⟩, .slice p kids.length c] 38)
  have hxA := heap_alloc_new w (.cells #[.int .i64 2, .int .i64 a, .int .i64 b1, .string ⟨name.toArray⟩, .slice p kids.length c] 38)
  have hsA := h.below hbA
  have hbA' := hbA.mono h.le
  have hkA : BK B b w _ := BK.of_below hbA h.le
  generalize hwA : w.alloc (.cells #[.int .i64 2, .int .i64 a, .int .i64 b1, .string ⟨name.toArray⟩, .slice p kids.length c] 38) = wA at *
  have z0 := (cell_of_row _ _ 0 _ _ _ hxA).trans rfl
  rw [bare_2 rfl] at hlen ⊢
  have P1 := put_any [97, 108, 119, 97, 121, 115] hsA (by simpa using hlen)
  clear hlen
  go_enter Tryz.func24, Tryz.ntmps24
  go_wp2_with fail
  refine P1.mono ?_
  rintro r w1 ⟨rfl, hs1, hk1⟩
  clear P1
  go_wp2_with fail
  go_end0
  exact ⟨rfl, hs1, hkA.trans hk1⟩
set_option maxRecDepth 100000 in
set_option maxHeartbeats 4000000 in
theorem bare_step_3 (a b1 : Int) (name : List UInt8) (kids : List Ex) (p : Option Addr) (c : Nat) (w : World) (l : List UInt8) (_hks : kids = [] ∨ KidsW B b w (.slice p kids.length c) kids) (hok : OKE ⟨3, a, b1, name, kids⟩) (_hPT : PTb B w) (h : BSt B b l w)
    (hlen : l.length + (bareP ⟨3, a, b1, name, kids⟩ (kidT kids)).length ≤ 140737488355328) :
    Calls Tryz.prog 24 #[.pointer (some ⟨b, 0, none⟩), .agg #[.int .i64 3, .int .i64 a, .int .i64 b1, .string ⟨name.toArray⟩, .slice p kids.length c]] w (OutT B b l (bareP ⟨3, a, b1, name, kids⟩ (kidT kids)) w) := by
  have hr : rangeP 3 a b1 = true := hok.kinds.2.2.2.1
  have hbA := (Below.refl w.heap.size w).alloc (Nat.le_refl _) (.cells #[.int .i64 3, .int .i64 a, .int .i64 b1, .string ⟨name.toArray⟩, .slice p kids.length c] 38)
  have hxA := heap_alloc_new w (.cells #[.int .i64 3, .int .i64 a, .int .i64 b1, .string ⟨name.toArray⟩, .slice p kids.length c] 38)
  have hsA := h.below hbA
  have hbA' := hbA.mono h.le
  have hkA : BK B b w _ := BK.of_below hbA h.le
  generalize hwA : w.alloc (.cells #[.int .i64 3, .int .i64 a, .int .i64 b1, .string ⟨name.toArray⟩, .slice p kids.length c] 38) = wA at *
  have z0 := (cell_of_row _ _ 0 _ _ _ hxA).trans rfl
  rw [bare_3 rfl] at hlen ⊢
  simp [rangeP] at hr
  have z1 := (cell_of_row _ _ 1 _ _ _ hxA).trans rfl
  have z2 := (cell_of_row _ _ 2 _ _ _ hxA).trans rfl
  have cX := fun (W : World) => (timeText_any a (by omega) (by omega) W).mono (fun r w' h => (⟨h.1, h.2 ▸ Below.refl _ _⟩ : r = .returned (.string ⟨(clockL a).toArray⟩) ∧ Below W.heap.size W w'))
  have cY := fun (W : World) => (timeText_any b1 (by omega) (by omega) W).mono (fun r w' h => (⟨h.1, h.2 ▸ Below.refl _ _⟩ : r = .returned (.string ⟨(clockL b1).toArray⟩) ∧ Below W.heap.size W w'))
  have lX := clock_len a
  have lY := clock_len b1
  dsimp only at hlen ⊢
  generalize clockL a = X at *
  generalize clockL b1 = Y at *
  simp at hlen
  go_enter Tryz.func24, Tryz.ntmps24
  go_wp2_with fail
  refine wp_region_last (by kernel_rfl) (by kernel_rfl) (by kernel_rfl) (by kernel_rfl) 9 (by kernel_rfl) (by kernel_rfl) [(16, .pointer (some ⟨b, 0, none⟩)), (17, .pointer (some ⟨w.heap.size, 1, none⟩)), (18, .int .i64 a), (19, .string ⟨(X).toArray⟩), (20, .string ⟨(X ++ [45]).toArray⟩), (21, .pointer (some ⟨w.heap.size, 2, none⟩)), (22, .int .i64 b1), (23, .string ⟨(Y).toArray⟩), (24, .string ⟨(X ++ 45 :: Y).toArray⟩)] (by kernel_rfl) (by kernel_rfl) ?_ ?_
  · intro i s v o L A W ho hv hdep hJ hkept hhas
    match i, ho, hv with
    | 0, ho, hv =>
      cases Option.some.inj ho
      cases Option.some.inj hv
      have h0 : A.tmps[0]?.getD undef = .pointer (some ⟨b, 0, none⟩) := (gd A 0).trans (hkept 0 (by kernel_rfl))
      refine wpOp_step rfl (fun K hK => ?_)
      go_simp
      exact hK _ _ ⟨rfl, Below.refl _ _⟩
    | 1, ho, hv =>
      cases Option.some.inj ho
      cases Option.some.inj hv
      have h3 : A.tmps[3]?.getD undef = .pointer (some ⟨w.heap.size, 0, none⟩) := (gd A 3).trans (hkept 3 (by kernel_rfl))
      refine wpOp_step rfl (fun K hK => ?_)
      go_simp
      exact hK _ _ ⟨rfl, Below.refl _ _⟩
    | 2, ho, hv =>
      cases Option.some.inj ho
      cases Option.some.inj hv
      have h17 : A.tmps[17]?.getD undef = .pointer (some ⟨w.heap.size, 1, none⟩) := (gd A 17).trans (hhas 1 17 _ rfl (hdep ⟨1, .data⟩ (by simp) rfl))
      have z1W : W.cell? ⟨w.heap.size, 1, none⟩ = some (.int .i64 a) := (hJ.cell (block_lt_of_cell z1)).trans z1
      refine wpOp_step rfl (fun K hK => ?_)
      go_simp
      exact hK _ _ ⟨rfl, Below.refl _ _⟩
    | 3, ho, hv =>
      cases Option.some.inj ho
      cases Option.some.inj hv
      have h18 : A.tmps[18]?.getD undef = .int .i64 a := (gd A 18).trans (hhas 2 18 _ rfl (hdep ⟨2, .data⟩ (by simp) rfl))
      refine wpOp_step rfl (fun K hK => ?_)
      go_simp
      refine (cX W).mono ?_
      rintro e' W' ⟨rfl, hb'⟩
      exact hK _ _ ⟨rfl, hb'⟩
    | 4, ho, hv =>
      cases Option.some.inj ho
      cases Option.some.inj hv
      have h19 : A.tmps[19]?.getD undef = .string ⟨(X).toArray⟩ := (gd A 19).trans (hhas 3 19 _ rfl (hdep ⟨3, .data⟩ (by simp) rfl))
      refine wpOp_step rfl (fun K hK => ?_)
      go_simp
      try rw [if_neg (by omega)]
      exact hK _ _ ⟨congrArg (A.put (some 20)) (str_of (by simp)), Below.refl _ _⟩
    | 5, ho, hv =>
      cases Option.some.inj ho
      cases Option.some.inj hv
      have h3 : A.tmps[3]?.getD undef = .pointer (some ⟨w.heap.size, 0, none⟩) := (gd A 3).trans (hkept 3 (by kernel_rfl))
      refine wpOp_step rfl (fun K hK => ?_)
      go_simp
      exact hK _ _ ⟨rfl, Below.refl _ _⟩
    | 6, ho, hv =>
      cases Option.some.inj ho
      cases Option.some.inj hv
      have h21 : A.tmps[21]?.getD undef = .pointer (some ⟨w.heap.size, 2, none⟩) := (gd A 21).trans (hhas 5 21 _ rfl (hdep ⟨5, .data⟩ (by simp) rfl))
      have z2W : W.cell? ⟨w.heap.size, 2, none⟩ = some (.int .i64 b1) := (hJ.cell (block_lt_of_cell z2)).trans z2
      refine wpOp_step rfl (fun K hK => ?_)
      go_simp
      exact hK _ _ ⟨rfl, Below.refl _ _⟩
    | 7, ho, hv =>
      cases Option.some.inj ho
      cases Option.some.inj hv
      have h22 : A.tmps[22]?.getD undef = .int .i64 b1 := (gd A 22).trans (hhas 6 22 _ rfl (hdep ⟨6, .data⟩ (by simp) rfl))
      refine wpOp_step rfl (fun K hK => ?_)
      go_simp
      refine (cY W).mono ?_
      rintro e' W' ⟨rfl, hb'⟩
      exact hK _ _ ⟨rfl, hb'⟩
    | 8, ho, hv =>
      cases Option.some.inj ho
      cases Option.some.inj hv
      have h20 : A.tmps[20]?.getD undef = .string ⟨(X ++ [45]).toArray⟩ := (gd A 20).trans (hhas 4 20 _ rfl (hdep ⟨4, .data⟩ (by simp) rfl))
      have h23 : A.tmps[23]?.getD undef = .string ⟨(Y).toArray⟩ := (gd A 23).trans (hhas 7 23 _ rfl (hdep ⟨7, .data⟩ (by simp) rfl))
      refine wpOp_step rfl (fun K hK => ?_)
      go_simp
      try rw [if_neg (by omega)]
      exact hK _ _ ⟨congrArg (A.put (some 24)) (str_of (by simp)), Below.refl _ _⟩
    | k + 9, ho, hv => simp at hv
  · intro o W ho hJ
    cases Option.some.inj ho
    simp only [putAll_cons, putAll_nil, Act.put, List.setIfInBounds_toArray, List.set_cons_succ, List.set_cons_zero]
    refine wpOp_step rfl (fun K hK => ?_)
    go_simp
    refine (put_any (X ++ 45 :: Y) (hsA.below hJ) (by simp; omega)).mono ?_
    rintro r w1 ⟨rfl, hs1, hk1⟩
    refine hK _ _ ⟨⟨_, rfl⟩, ?_⟩
    clear hK
    go_wp2_with fail
    go_end0
    exact ⟨rfl, hs1, hkA.trans ((BK.of_below hJ hsA.le).trans hk1)⟩
set_option maxRecDepth 100000 in
set_option maxHeartbeats 4000000 in
theorem bare_step_10 (a b1 : Int) (name : List UInt8) (kids : List Ex) (p : Option Addr) (c : Nat) (w : World) (l : List UInt8) (_hks : kids = [] ∨ KidsW B b w (.slice p kids.length c) kids) (_hok : OKE ⟨10, a, b1, name, kids⟩) (_hPT : PTb B w) (h : BSt B b l w)
    (hlen : l.length + (bareP ⟨10, a, b1, name, kids⟩ (kidT kids)).length ≤ 140737488355328) :
    Calls Tryz.prog 24 #[.pointer (some ⟨b, 0, none⟩), .agg #[.int .i64 10, .int .i64 a, .int .i64 b1, .string ⟨name.toArray⟩, .slice p kids.length c]] w (OutT B b l (bareP ⟨10, a, b1, name, kids⟩ (kidT kids)) w) := by
  have hbA := (Below.refl w.heap.size w).alloc (Nat.le_refl _) (.cells #[.int .i64 10, .int .i64 a, .int .i64 b1, .string ⟨name.toArray⟩, .slice p kids.length c] 38)
  have hxA := heap_alloc_new w (.cells #[.int .i64 10, .int .i64 a, .int .i64 b1, .string ⟨name.toArray⟩, .slice p kids.length c] 38)
  have hsA := h.below hbA
  have hbA' := hbA.mono h.le
  have hkA : BK B b w _ := BK.of_below hbA h.le
  generalize hwA : w.alloc (.cells #[.int .i64 10, .int .i64 a, .int .i64 b1, .string ⟨name.toArray⟩, .slice p kids.length c] 38) = wA at *
  have z0 := (cell_of_row _ _ 0 _ _ _ hxA).trans rfl
  rw [bare_10 rfl] at hlen ⊢
  have z3 := (cell_of_row _ _ 3 _ _ _ hxA).trans rfl
  have P1 := put_any name hsA (by simpa using hlen)
  clear hlen
  go_enter Tryz.func24, Tryz.ntmps24
  go_wp2_with fail
  refine P1.mono ?_
  rintro r w1 ⟨rfl, hs1, hk1⟩
  clear P1
  go_wp2_with fail
  go_end0
  exact ⟨rfl, hs1, hkA.trans hk1⟩
set_option maxRecDepth 100000 in
set_option maxHeartbeats 4000000 in
theorem bare_step_6 (a b1 : Int) (name : List UInt8) (kids : List Ex) (p : Option Addr) (c : Nat) (w : World) (l : List UInt8) (hks : kids = [] ∨ KidsW B b w (.slice p kids.length c) kids) (hok : OKE ⟨6, a, b1, name, kids⟩) (_hPT : PTb B w) (h : BSt B b l w)
    (hlen : l.length + (bareP ⟨6, a, b1, name, kids⟩ (kidT kids)).length ≤ 140737488355328) :
    Calls Tryz.prog 24 #[.pointer (some ⟨b, 0, none⟩), .agg #[.int .i64 6, .int .i64 a, .int .i64 b1, .string ⟨name.toArray⟩, .slice p kids.length c]] w (OutT B b l (bareP ⟨6, a, b1, name, kids⟩ (kidT kids)) w) := by
  obtain ⟨k0, hk0, _⟩ := hok.kid0 (show 1 ≤ kidsP 6 by decide)
  obtain ⟨k1, hk1, _⟩ := hok.kid1 (show 2 ≤ kidsP 6 by decide)
  have hl2 : kids.length = 2 := hok.kinds.2.2.1
  have hne : kids ≠ [] := fun e => by rw [e] at hl2; cases hl2
  rw [bare_6 rfl] at hlen ⊢
  dsimp only at hk0 hk1 hlen ⊢
  rw [kidT_at hk0, kidT_at hk1] at hlen ⊢
  have hbA := (Below.refl w.heap.size w).alloc (Nat.le_refl _) (.cells #[.int .i64 6, .int .i64 a, .int .i64 b1, .string ⟨name.toArray⟩, .slice p kids.length c] 38)
  have hxA := heap_alloc_new w (.cells #[.int .i64 6, .int .i64 a, .int .i64 b1, .string ⟨name.toArray⟩, .slice p kids.length c] 38)
  have hsA := h.below hbA
  have hbA' := hbA.mono h.le
  have hkA : BK B b w _ := BK.of_below hbA h.le
  generalize hwA : w.alloc (.cells #[.int .i64 6, .int .i64 a, .int .i64 b1, .string ⟨name.toArray⟩, .slice p kids.length c] 38) = wA at *
  have z0 := (cell_of_row _ _ 0 _ _ _ hxA).trans rfl
  have hks' := (hks.resolve_left hne).on hbA'
  have eh : holdP 6 = 0 := by decide
  have P1 := wpair_any (B := B) (b := b) ⟨6, a, b1, name, kids⟩ p c wA l [32, 43, 32] k0 k1 hl2 hk0 hk1 hks' hsA (show holdP 6 ≤ 2 by decide) (by dsimp only; rw [eh]; simp at hlen ⊢; omega)
  dsimp only at P1
  rw [eh] at P1
  clear hks' hks hlen hl2 hk0 hk1 hne hok eh
  go_enter Tryz.func24, Tryz.ntmps24
  go_wp2_with (refine wpList_load_row rfl 38 _ rfl _ rfl _ _ _ _ hxA exprType rfl (by kernel_rfl) ?_)
  refine P1.mono ?_
  rintro r w1 ⟨rfl, hs1, hk1⟩
  clear P1
  go_wp2_with fail
  go_end0
  exact ⟨rfl, hs1, hkA.trans hk1⟩
set_option maxRecDepth 100000 in
set_option maxHeartbeats 4000000 in
theorem bare_step_7 (a b1 : Int) (name : List UInt8) (kids : List Ex) (p : Option Addr) (c : Nat) (w : World) (l : List UInt8) (hks : kids = [] ∨ KidsW B b w (.slice p kids.length c) kids) (hok : OKE ⟨7, a, b1, name, kids⟩) (_hPT : PTb B w) (h : BSt B b l w)
    (hlen : l.length + (bareP ⟨7, a, b1, name, kids⟩ (kidT kids)).length ≤ 140737488355328) :
    Calls Tryz.prog 24 #[.pointer (some ⟨b, 0, none⟩), .agg #[.int .i64 7, .int .i64 a, .int .i64 b1, .string ⟨name.toArray⟩, .slice p kids.length c]] w (OutT B b l (bareP ⟨7, a, b1, name, kids⟩ (kidT kids)) w) := by
  obtain ⟨k0, hk0, _⟩ := hok.kid0 (show 1 ≤ kidsP 7 by decide)
  obtain ⟨k1, hk1, _⟩ := hok.kid1 (show 2 ≤ kidsP 7 by decide)
  have hl2 : kids.length = 2 := hok.kinds.2.2.1
  have hne : kids ≠ [] := fun e => by rw [e] at hl2; cases hl2
  rw [bare_7 rfl] at hlen ⊢
  dsimp only at hk0 hk1 hlen ⊢
  rw [kidT_at hk0, kidT_at hk1] at hlen ⊢
  have hbA := (Below.refl w.heap.size w).alloc (Nat.le_refl _) (.cells #[.int .i64 7, .int .i64 a, .int .i64 b1, .string ⟨name.toArray⟩, .slice p kids.length c] 38)
  have hxA := heap_alloc_new w (.cells #[.int .i64 7, .int .i64 a, .int .i64 b1, .string ⟨name.toArray⟩, .slice p kids.length c] 38)
  have hsA := h.below hbA
  have hbA' := hbA.mono h.le
  have hkA : BK B b w _ := BK.of_below hbA h.le
  generalize hwA : w.alloc (.cells #[.int .i64 7, .int .i64 a, .int .i64 b1, .string ⟨name.toArray⟩, .slice p kids.length c] 38) = wA at *
  have z0 := (cell_of_row _ _ 0 _ _ _ hxA).trans rfl
  have hks' := (hks.resolve_left hne).on hbA'
  have eh : holdP 7 = 0 := by decide
  have P1 := wpair_any (B := B) (b := b) ⟨7, a, b1, name, kids⟩ p c wA l [32, 45, 32] k0 k1 hl2 hk0 hk1 hks' hsA (show holdP 7 ≤ 2 by decide) (by dsimp only; rw [eh]; simp at hlen ⊢; omega)
  dsimp only at P1
  rw [eh] at P1
  clear hks' hks hlen hl2 hk0 hk1 hne hok eh
  go_enter Tryz.func24, Tryz.ntmps24
  go_wp2_with (refine wpList_load_row rfl 38 _ rfl _ rfl _ _ _ _ hxA exprType rfl (by kernel_rfl) ?_)
  refine P1.mono ?_
  rintro r w1 ⟨rfl, hs1, hk1⟩
  clear P1
  go_wp2_with fail
  go_end0
  exact ⟨rfl, hs1, hkA.trans hk1⟩
set_option maxRecDepth 100000 in
set_option maxHeartbeats 4000000 in
theorem bare_step_8 (a b1 : Int) (name : List UInt8) (kids : List Ex) (p : Option Addr) (c : Nat) (w : World) (l : List UInt8) (hks : kids = [] ∨ KidsW B b w (.slice p kids.length c) kids) (hok : OKE ⟨8, a, b1, name, kids⟩) (_hPT : PTb B w) (h : BSt B b l w)
    (hlen : l.length + (bareP ⟨8, a, b1, name, kids⟩ (kidT kids)).length ≤ 140737488355328) :
    Calls Tryz.prog 24 #[.pointer (some ⟨b, 0, none⟩), .agg #[.int .i64 8, .int .i64 a, .int .i64 b1, .string ⟨name.toArray⟩, .slice p kids.length c]] w (OutT B b l (bareP ⟨8, a, b1, name, kids⟩ (kidT kids)) w) := by
  obtain ⟨k0, hk0, _⟩ := hok.kid0 (show 1 ≤ kidsP 8 by decide)
  obtain ⟨k1, hk1, _⟩ := hok.kid1 (show 2 ≤ kidsP 8 by decide)
  have hl2 : kids.length = 2 := hok.kinds.2.2.1
  have hne : kids ≠ [] := fun e => by rw [e] at hl2; cases hl2
  rw [bare_8 rfl] at hlen ⊢
  dsimp only at hk0 hk1 hlen ⊢
  rw [kidT_at hk0, kidT_at hk1] at hlen ⊢
  have hbA := (Below.refl w.heap.size w).alloc (Nat.le_refl _) (.cells #[.int .i64 8, .int .i64 a, .int .i64 b1, .string ⟨name.toArray⟩, .slice p kids.length c] 38)
  have hxA := heap_alloc_new w (.cells #[.int .i64 8, .int .i64 a, .int .i64 b1, .string ⟨name.toArray⟩, .slice p kids.length c] 38)
  have hsA := h.below hbA
  have hbA' := hbA.mono h.le
  have hkA : BK B b w _ := BK.of_below hbA h.le
  generalize hwA : w.alloc (.cells #[.int .i64 8, .int .i64 a, .int .i64 b1, .string ⟨name.toArray⟩, .slice p kids.length c] 38) = wA at *
  have z0 := (cell_of_row _ _ 0 _ _ _ hxA).trans rfl
  have hks' := (hks.resolve_left hne).on hbA'
  have eh : holdP 8 = 1 := by decide
  have P1 := wpair_any (B := B) (b := b) ⟨8, a, b1, name, kids⟩ p c wA l [32, 38, 32] k0 k1 hl2 hk0 hk1 hks' hsA (show holdP 8 ≤ 2 by decide) (by dsimp only; rw [eh]; simp at hlen ⊢; omega)
  dsimp only at P1
  rw [eh] at P1
  clear hks' hks hlen hl2 hk0 hk1 hne hok eh
  go_enter Tryz.func24, Tryz.ntmps24
  go_wp2_with (refine wpList_load_row rfl 38 _ rfl _ rfl _ _ _ _ hxA exprType rfl (by kernel_rfl) ?_)
  refine P1.mono ?_
  rintro r w1 ⟨rfl, hs1, hk1⟩
  clear P1
  go_wp2_with fail
  go_end0
  exact ⟨rfl, hs1, hkA.trans hk1⟩
set_option maxRecDepth 100000 in
set_option maxHeartbeats 4000000 in
theorem bare_step_9 (a b1 : Int) (name : List UInt8) (kids : List Ex) (p : Option Addr) (c : Nat) (w : World) (l : List UInt8) (hks : kids = [] ∨ KidsW B b w (.slice p kids.length c) kids) (hok : OKE ⟨9, a, b1, name, kids⟩) (hPT : PTb B w) (h : BSt B b l w)
    (hlen : l.length + (bareP ⟨9, a, b1, name, kids⟩ (kidT kids)).length ≤ 140737488355328) :
    Calls Tryz.prog 24 #[.pointer (some ⟨b, 0, none⟩), .agg #[.int .i64 9, .int .i64 a, .int .i64 b1, .string ⟨name.toArray⟩, .slice p kids.length c]] w (OutT B b l (bareP ⟨9, a, b1, name, kids⟩ (kidT kids)) w) := by
  have hr : rangeP 9 a b1 = true := hok.kinds.2.2.2.1
  obtain ⟨k0, hk0, _⟩ := hok.kid0 (show 1 ≤ kidsP 9 by decide)
  have hl1 : kids.length = 1 := hok.kinds.2.2.1
  have hne : kids ≠ [] := fun e => by rw [e] at hl1; cases hl1
  rw [bare_9 rfl] at hlen ⊢
  dsimp only at hk0 hlen ⊢
  rw [kidT_at hk0] at hlen ⊢
  simp [rangeP] at hr
  obtain ⟨g, o, c', hsl, hgB, hkid⟩ := hks.resolve_left hne
  injection hsl with q1 q2 q3
  subst q1
  subst q3
  rw [hl1]
  obtain ⟨p0, q0, d0', d1', d2', d3', d4', cK⟩ := hkid 0 k0 hk0
  clear hkid
  have hbA := (Below.refl w.heap.size w).alloc (Nat.le_refl _) (.cells #[.int .i64 9, .int .i64 a, .int .i64 b1, .string ⟨name.toArray⟩, .slice (some ⟨g, o, none⟩) 1 c] 38)
  have hxA := heap_alloc_new w (.cells #[.int .i64 9, .int .i64 a, .int .i64 b1, .string ⟨name.toArray⟩, .slice (some ⟨g, o, none⟩) 1 c] 38)
  have hsA := h.below hbA
  have hbA' := hbA.mono h.le
  have hkA : BK B b w _ := BK.of_below hbA h.le
  generalize hwA : w.alloc (.cells #[.int .i64 9, .int .i64 a, .int .i64 b1, .string ⟨name.toArray⟩, .slice (some ⟨g, o, none⟩) 1 c] 38) = wA at *
  have z0 := (cell_of_row _ _ 0 _ _ _ hxA).trans rfl
  have z1 := (cell_of_row _ _ 1 _ _ _ hxA).trans rfl
  have z2 := (cell_of_row _ _ 2 _ _ _ hxA).trans rfl
  have z4 := (cell_of_row _ _ 4 _ _ _ hxA).trans rfl
  have wAd0 : wA.cell? ⟨g, o, none⟩ = _ := (below_cell hbA' hgB (block_lt_of_cell d0')).trans d0'
  have wAd1 : wA.cell? ⟨g, o + 1, none⟩ = _ := (below_cell hbA' hgB (block_lt_of_cell d1')).trans d1'
  have wAd2 : wA.cell? ⟨g, o + 2, none⟩ = _ := (below_cell hbA' hgB (block_lt_of_cell d2')).trans d2'
  have wAd3 : wA.cell? ⟨g, o + 3, none⟩ = _ := (below_cell hbA' hgB (block_lt_of_cell d3')).trans d3'
  have wAd4 : wA.cell? ⟨g, o + 4, none⟩ = _ := (below_cell hbA' hgB (block_lt_of_cell d4')).trans d4'
  have li := itoa_len (a := a) (by omega) (by omega)
  generalize hT0 : textE k0 3 = T0 at *
  have P1 := cK wA l 3 hbA' hsA (by omega) (by rw [hT0]; simp at hlen; omega)
  rw [hT0] at P1
  clear cK hT0
  go_enter Tryz.func24, Tryz.ntmps24
  go_wp2_with fail
  refine P1.mono ?_
  rintro r w1 ⟨rfl, hs1, hk1⟩
  have hx1 := hk1.others _ _ hxA (by intro q; cases q; have := h.lt; omega) (by intro cc fz q; cases q)
  have y1 := (cell_of_row _ _ 1 _ _ _ hx1).trans rfl
  have cI := itoa_any a (by omega) (by omega) w1 (hPT w1 (hkA.trans hk1).below).2.2
  have lI : ¬ 9223372036854775807 < 7 + (Lib.itoa a).length := by omega
  clear P1 z0 z1 z2 z4 wAd0 wAd1 wAd2 wAd3 wAd4
  simp at hlen
  generalize Lib.itoa a = I at *
  go_wp2_with fail
  refine cI.mono ?_
  rintro r w2 ⟨rfl, hb2⟩
  clear cI
  have P2 := put_any ([32, 115, 104, 105, 102, 116, 32] ++ I) (hs1.below hb2) (by simp; omega)
  go_wp2_with fail
  refine P2.mono ?_
  rintro r w3 ⟨rfl, hs3, hk3⟩
  clear P2
  go_wp2_with fail
  go_end0
  exact ⟨rfl, by simpa using hs3, hkA.trans (hk1.trans ((BK.of_below hb2 hs1.le).trans hk3))⟩
set_option maxRecDepth 100000 in
set_option maxHeartbeats 4000000 in
theorem bare_step_4 (a b1 : Int) (name : List UInt8) (kids : List Ex) (p : Option Addr) (c : Nat) (w : World) (l : List UInt8) (hks : kids = [] ∨ KidsW B b w (.slice p kids.length c) kids) (hok : OKE ⟨4, a, b1, name, kids⟩) (hPT : PTb B w) (h : BSt B b l w)
    (hlen : l.length + (bareP ⟨4, a, b1, name, kids⟩ (kidT kids)).length ≤ 140737488355328) :
    Calls Tryz.prog 24 #[.pointer (some ⟨b, 0, none⟩), .agg #[.int .i64 4, .int .i64 a, .int .i64 b1, .string ⟨name.toArray⟩, .slice p kids.length c]] w (OutT B b l (bareP ⟨4, a, b1, name, kids⟩ (kidT kids)) w) := by
  have hr : rangeP 4 a b1 = true := hok.kinds.2.2.2.1
  obtain ⟨k0, hk0, _⟩ := hok.kid0 (show 1 ≤ kidsP 4 by decide)
  have hl1 : kids.length = 1 := hok.kinds.2.2.1
  have hne : kids ≠ [] := fun e => by rw [e] at hl1; cases hl1
  rw [bare_4 rfl] at hlen ⊢
  dsimp only at hk0 hlen ⊢
  rw [kidT_at hk0] at hlen ⊢
  simp [rangeP] at hr
  obtain ⟨g, o, c', hsl, hgB, hkid⟩ := hks.resolve_left hne
  injection hsl with q1 q2 q3
  subst q1
  subst q3
  rw [hl1]
  obtain ⟨p0, q0, d0', d1', d2', d3', d4', cK⟩ := hkid 0 k0 hk0
  clear hkid
  have hbA := (Below.refl w.heap.size w).alloc (Nat.le_refl _) (.cells #[.int .i64 4, .int .i64 a, .int .i64 b1, .string ⟨name.toArray⟩, .slice (some ⟨g, o, none⟩) 1 c] 38)
  have hxA := heap_alloc_new w (.cells #[.int .i64 4, .int .i64 a, .int .i64 b1, .string ⟨name.toArray⟩, .slice (some ⟨g, o, none⟩) 1 c] 38)
  have hsA := h.below hbA
  have hbA' := hbA.mono h.le
  have hkA : BK B b w _ := BK.of_below hbA h.le
  generalize hwA : w.alloc (.cells #[.int .i64 4, .int .i64 a, .int .i64 b1, .string ⟨name.toArray⟩, .slice (some ⟨g, o, none⟩) 1 c] 38) = wA at *
  have z0 := (cell_of_row _ _ 0 _ _ _ hxA).trans rfl
  have z1 := (cell_of_row _ _ 1 _ _ _ hxA).trans rfl
  have z2 := (cell_of_row _ _ 2 _ _ _ hxA).trans rfl
  have z4 := (cell_of_row _ _ 4 _ _ _ hxA).trans rfl
  have cD := daysText_any a (by omega) (by omega) wA (hPT wA hbA').2.1
  have lD := days_len (a := a) (by omega) (by omega)
  generalize hT0 : textE k0 2 = T0 at *
  generalize daysL a = D at *
  simp at hlen
  have l1 : ¬ 9223372036854775807 < 7 + D.length := by omega
  have l2 : ¬ 9223372036854775807 < 7 + D.length + 2 := by omega
  go_enter Tryz.func24, Tryz.ntmps24
  go_wp2_with fail
  refine cD.mono ?_
  rintro r w1 ⟨rfl, hb1⟩
  clear cD
  have P1 := put_any ([119, 101, 101, 107, 108, 121, 32] ++ D ++ [58, 32]) (hsA.below hb1) (by simp; omega)
  simp only [List.cons_append, List.nil_append] at P1
  go_wp2_with fail
  refine P1.mono ?_
  rintro r w2 ⟨rfl, hs2, hk2⟩
  have hkA2 := hkA.trans ((BK.of_below hb1 hsA.le).trans hk2)
  have hx2 := hk2.others _ _ ((hb1.block _ (lt_of_block hxA)).trans hxA) (by intro q; cases q; have := h.lt; omega) (by intro cc fz q; cases q)
  have y4 := (cell_of_row _ _ 4 _ _ _ hx2).trans rfl
  have w2d0 : w2.cell? ⟨g, o, none⟩ = _ := (below_cell hkA2.below hgB (block_lt_of_cell d0')).trans d0'
  have w2d1 : w2.cell? ⟨g, o + 1, none⟩ = _ := (below_cell hkA2.below hgB (block_lt_of_cell d1')).trans d1'
  have w2d2 : w2.cell? ⟨g, o + 2, none⟩ = _ := (below_cell hkA2.below hgB (block_lt_of_cell d2')).trans d2'
  have w2d3 : w2.cell? ⟨g, o + 3, none⟩ = _ := (below_cell hkA2.below hgB (block_lt_of_cell d3')).trans d3'
  have w2d4 : w2.cell? ⟨g, o + 4, none⟩ = _ := (below_cell hkA2.below hgB (block_lt_of_cell d4')).trans d4'
  have P2 := cK w2 _ 2 hkA2.below hs2 (by omega) (by rw [hT0]; simp; omega)
  rw [hT0] at P2
  clear P1 cK hT0 z0 z1 z2 z4 hx2
  go_wp2_with fail
  refine P2.mono ?_
  rintro r w3 ⟨rfl, hs3, hk3⟩
  clear P2
  go_wp2_with fail
  go_end0
  exact ⟨rfl, by simpa using hs3, hkA2.trans hk3⟩
set_option maxRecDepth 100000 in
set_option maxHeartbeats 4000000 in
theorem bare_step_5 (a b1 : Int) (name : List UInt8) (kids : List Ex) (p : Option Addr) (c : Nat) (w : World) (l : List UInt8) (hks : kids = [] ∨ KidsW B b w (.slice p kids.length c) kids) (hok : OKE ⟨5, a, b1, name, kids⟩) (hPT : PTb B w) (h : BSt B b l w)
    (hlen : l.length + (bareP ⟨5, a, b1, name, kids⟩ (kidT kids)).length ≤ 140737488355328) :
    Calls Tryz.prog 24 #[.pointer (some ⟨b, 0, none⟩), .agg #[.int .i64 5, .int .i64 a, .int .i64 b1, .string ⟨name.toArray⟩, .slice p kids.length c]] w (OutT B b l (bareP ⟨5, a, b1, name, kids⟩ (kidT kids)) w) := by
  have hr : rangeP 5 a b1 = true := hok.kinds.2.2.2.1
  obtain ⟨k0, hk0, _⟩ := hok.kid0 (show 1 ≤ kidsP 5 by decide)
  have hl1 : kids.length = 1 := hok.kinds.2.2.1
  have hne : kids ≠ [] := fun e => by rw [e] at hl1; cases hl1
  rw [bare_5 rfl] at hlen ⊢
  dsimp only at hk0 hlen ⊢
  rw [kidT_at hk0] at hlen ⊢
  simp [rangeP] at hr
  obtain ⟨g, o, c', hsl, hgB, hkid⟩ := hks.resolve_left hne
  injection hsl with q1 q2 q3
  subst q1
  subst q3
  rw [hl1]
  obtain ⟨p0, q0, d0', d1', d2', d3', d4', cK⟩ := hkid 0 k0 hk0
  clear hkid
  have hbA := (Below.refl w.heap.size w).alloc (Nat.le_refl _) (.cells #[.int .i64 5, .int .i64 a, .int .i64 b1, .string ⟨name.toArray⟩, .slice (some ⟨g, o, none⟩) 1 c] 38)
  have hxA := heap_alloc_new w (.cells #[.int .i64 5, .int .i64 a, .int .i64 b1, .string ⟨name.toArray⟩, .slice (some ⟨g, o, none⟩) 1 c] 38)
  have hsA := h.below hbA
  have hbA' := hbA.mono h.le
  have hkA : BK B b w _ := BK.of_below hbA h.le
  generalize hwA : w.alloc (.cells #[.int .i64 5, .int .i64 a, .int .i64 b1, .string ⟨name.toArray⟩, .slice (some ⟨g, o, none⟩) 1 c] 38) = wA at *
  have z0 := (cell_of_row _ _ 0 _ _ _ hxA).trans rfl
  have z1 := (cell_of_row _ _ 1 _ _ _ hxA).trans rfl
  have z2 := (cell_of_row _ _ 2 _ _ _ hxA).trans rfl
  have z4 := (cell_of_row _ _ 4 _ _ _ hxA).trans rfl
  have cD := datesText_any a b1 (by omega) (by omega) (by omega) (by omega) wA (fun w' hw => ⟨(hPT w' (hbA'.trans (hw.mono hsA.le))).1, (hPT w' (hbA'.trans (hw.mono hsA.le))).2.2⟩)
  have lD := dates_len a b1
  generalize hT0 : textE k0 2 = T0 at *
  generalize datesL a b1 = D at *
  simp at hlen
  have l1 : ¬ 9223372036854775807 < 6 + D.length := by omega
  have l2 : ¬ 9223372036854775807 < 6 + D.length + 2 := by omega
  go_enter Tryz.func24, Tryz.ntmps24
  go_wp2_with fail
  refine cD.mono ?_
  rintro r w1 ⟨rfl, hb1⟩
  clear cD
  have P1 := put_any ([100, 97, 116, 101, 115, 32] ++ D ++ [58, 32]) (hsA.below hb1) (by simp; omega)
  simp only [List.cons_append, List.nil_append] at P1
  go_wp2_with fail
  refine P1.mono ?_
  rintro r w2 ⟨rfl, hs2, hk2⟩
  have hkA2 := hkA.trans ((BK.of_below hb1 hsA.le).trans hk2)
  have hx2 := hk2.others _ _ ((hb1.block _ (lt_of_block hxA)).trans hxA) (by intro q; cases q; have := h.lt; omega) (by intro cc fz q; cases q)
  have y4 := (cell_of_row _ _ 4 _ _ _ hx2).trans rfl
  have w2d0 : w2.cell? ⟨g, o, none⟩ = _ := (below_cell hkA2.below hgB (block_lt_of_cell d0')).trans d0'
  have w2d1 : w2.cell? ⟨g, o + 1, none⟩ = _ := (below_cell hkA2.below hgB (block_lt_of_cell d1')).trans d1'
  have w2d2 : w2.cell? ⟨g, o + 2, none⟩ = _ := (below_cell hkA2.below hgB (block_lt_of_cell d2')).trans d2'
  have w2d3 : w2.cell? ⟨g, o + 3, none⟩ = _ := (below_cell hkA2.below hgB (block_lt_of_cell d3')).trans d3'
  have w2d4 : w2.cell? ⟨g, o + 4, none⟩ = _ := (below_cell hkA2.below hgB (block_lt_of_cell d4')).trans d4'
  have P2 := cK w2 _ 2 hkA2.below hs2 (by omega) (by rw [hT0]; simp; omega)
  rw [hT0] at P2
  clear P1 cK hT0 z0 z1 z2 z4 hx2
  go_wp2_with fail
  refine P2.mono ?_
  rintro r w3 ⟨rfl, hs3, hk3⟩
  clear P2
  go_wp2_with fail
  go_end0
  exact ⟨rfl, by simpa using hs3, hkA2.trans hk3⟩
end Go.Proofs.YteheahhifihmjaaGreatDoor
