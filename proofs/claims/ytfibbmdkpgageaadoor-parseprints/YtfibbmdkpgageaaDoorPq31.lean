/- What the document's Text comes to, kind by kind, where it comes to what it should at the kids. -/
import Derived.Test.YtfibbmdkpgageaaDoorPq30
namespace Go.Proofs.YtfibbmdkpgageaaDoor
open Go.RowKit Lx

set_option maxRecDepth 100000 in
set_option maxHeartbeats 8000000 in
theorem text_step_1 (a b1 : Int) (name : List UInt8) (kids : List Ex) (p : Option Addr) (c : Nat) (w : World) (least : Nat) (_hks : kids = [] ∨ KidsX w (.slice p kids.length c) kids) (_hok : OKE ⟨1, a, b1, name, kids⟩) (_hPT : ∀ w', Below w.heap.size w w' → PowT w') (hl3 : least ≤ 3) :
    Calls Tryd.prog 35 #[.agg #[.int .i64 1, .int .i64 a, .int .i64 b1, .string ⟨name.toArray⟩, .slice p kids.length c], .int .i64 (least : Int)] w (OutX (textE ⟨1, a, b1, name, kids⟩ least) w) := by
  have HT : Hid (textE ⟨1, a, b1, name, kids⟩ least = brk (decide (holdP 1 < least)) (bareP ⟨1, a, b1, name, kids⟩ (kidT kids))) := textE_eq _ _
  rw [bare_1 rfl] at HT
  try dsimp only at HT
  have hg3 : ¬ (3 : Int) < (least : Int) := by omega
  rw [show decide (holdP 1 < least) = false from decide_eq_false (by show ¬ 3 < least; omega)] at HT
  generalize textE ⟨1, a, b1, name, kids⟩ least = TXT at *
  have hbA := (Below.refl w.heap.size w).alloc (Nat.le_refl _) (.cells #[.int .i64 1, .int .i64 a, .int .i64 b1, .string ⟨name.toArray⟩, .slice p kids.length c] 60)
  have hxA := heap_alloc_new w (.cells #[.int .i64 1, .int .i64 a, .int .i64 b1, .string ⟨name.toArray⟩, .slice p kids.length c] 60)
  generalize hwA : w.alloc (.cells #[.int .i64 1, .int .i64 a, .int .i64 b1, .string ⟨name.toArray⟩, .slice p kids.length c] 60) = wA at *
  have z0 := (cell_of_row _ _ 0 _ _ _ hxA).trans rfl
  go_enter Tryd.func35, Tryd.ntmps35
  go_wp2_with fail
  have e9 : TXT = [110, 101, 118, 101, 114] := by rw [HT.out]; first | rfl | simp
  go_wp2_with fail
  go_ret
  exact ⟨congrArg Ending.returned (str_of (by rw [e9])), hbA⟩
set_option maxRecDepth 100000 in
set_option maxHeartbeats 8000000 in
theorem text_step_2 (a b1 : Int) (name : List UInt8) (kids : List Ex) (p : Option Addr) (c : Nat) (w : World) (least : Nat) (_hks : kids = [] ∨ KidsX w (.slice p kids.length c) kids) (_hok : OKE ⟨2, a, b1, name, kids⟩) (_hPT : ∀ w', Below w.heap.size w w' → PowT w') (hl3 : least ≤ 3) :
    Calls Tryd.prog 35 #[.agg #[.int .i64 2, .int .i64 a, .int .i64 b1, .string ⟨name.toArray⟩, .slice p kids.length c], .int .i64 (least : Int)] w (OutX (textE ⟨2, a, b1, name, kids⟩ least) w) := by
  have HT : Hid (textE ⟨2, a, b1, name, kids⟩ least = brk (decide (holdP 2 < least)) (bareP ⟨2, a, b1, name, kids⟩ (kidT kids))) := textE_eq _ _
  rw [bare_2 rfl] at HT
  try dsimp only at HT
  have hg3 : ¬ (3 : Int) < (least : Int) := by omega
  rw [show decide (holdP 2 < least) = false from decide_eq_false (by show ¬ 3 < least; omega)] at HT
  generalize textE ⟨2, a, b1, name, kids⟩ least = TXT at *
  have hbA := (Below.refl w.heap.size w).alloc (Nat.le_refl _) (.cells #[.int .i64 2, .int .i64 a, .int .i64 b1, .string ⟨name.toArray⟩, .slice p kids.length c] 60)
  have hxA := heap_alloc_new w (.cells #[.int .i64 2, .int .i64 a, .int .i64 b1, .string ⟨name.toArray⟩, .slice p kids.length c] 60)
  generalize hwA : w.alloc (.cells #[.int .i64 2, .int .i64 a, .int .i64 b1, .string ⟨name.toArray⟩, .slice p kids.length c] 60) = wA at *
  have z0 := (cell_of_row _ _ 0 _ _ _ hxA).trans rfl
  go_enter Tryd.func35, Tryd.ntmps35
  go_wp2_with fail
  have e9 : TXT = [97, 108, 119, 97, 121, 115] := by rw [HT.out]; first | rfl | simp
  go_wp2_with fail
  go_ret
  exact ⟨congrArg Ending.returned (str_of (by rw [e9])), hbA⟩
set_option maxRecDepth 100000 in
set_option maxHeartbeats 8000000 in
theorem text_step_3 (a b1 : Int) (name : List UInt8) (kids : List Ex) (p : Option Addr) (c : Nat) (w : World) (least : Nat) (_hks : kids = [] ∨ KidsX w (.slice p kids.length c) kids) (hok : OKE ⟨3, a, b1, name, kids⟩) (_hPT : ∀ w', Below w.heap.size w w' → PowT w') (hl3 : least ≤ 3) :
    Calls Tryd.prog 35 #[.agg #[.int .i64 3, .int .i64 a, .int .i64 b1, .string ⟨name.toArray⟩, .slice p kids.length c], .int .i64 (least : Int)] w (OutX (textE ⟨3, a, b1, name, kids⟩ least) w) := by
  have hr : rangeP 3 a b1 = true := hok.kinds.2.2.2.1
  simp [rangeP] at hr
  have HT : Hid (textE ⟨3, a, b1, name, kids⟩ least = brk (decide (holdP 3 < least)) (bareP ⟨3, a, b1, name, kids⟩ (kidT kids))) := textE_eq _ _
  rw [bare_3 rfl] at HT
  try dsimp only at HT
  have hg3 : ¬ (3 : Int) < (least : Int) := by omega
  rw [show decide (holdP 3 < least) = false from decide_eq_false (by show ¬ 3 < least; omega)] at HT
  generalize textE ⟨3, a, b1, name, kids⟩ least = TXT at *
  have hbA := (Below.refl w.heap.size w).alloc (Nat.le_refl _) (.cells #[.int .i64 3, .int .i64 a, .int .i64 b1, .string ⟨name.toArray⟩, .slice p kids.length c] 60)
  have hxA := heap_alloc_new w (.cells #[.int .i64 3, .int .i64 a, .int .i64 b1, .string ⟨name.toArray⟩, .slice p kids.length c] 60)
  generalize hwA : w.alloc (.cells #[.int .i64 3, .int .i64 a, .int .i64 b1, .string ⟨name.toArray⟩, .slice p kids.length c] 60) = wA at *
  have z0 := (cell_of_row _ _ 0 _ _ _ hxA).trans rfl
  have z1 := (cell_of_row _ _ 1 _ _ _ hxA).trans rfl
  have z2 := (cell_of_row _ _ 2 _ _ _ hxA).trans rfl
  have cX := fun (W : World) => (rclock_any a (by omega) (by omega) W).mono (fun r w' h => (⟨h.1, h.2 ▸ Below.refl _ _⟩ : r = .returned (.string ⟨(clockL a).toArray⟩) ∧ Below W.heap.size W w'))
  have cY := fun (W : World) => (rclock_any b1 (by omega) (by omega) W).mono (fun r w' h => (⟨h.1, h.2 ▸ Below.refl _ _⟩ : r = .returned (.string ⟨(clockL b1).toArray⟩) ∧ Below W.heap.size W w'))
  have lX := clock_len a
  have lY := clock_len b1
  generalize clockL a = X at *
  generalize clockL b1 = Y at *
  go_enter Tryd.func35, Tryd.ntmps35
  go_wp2_with fail
  refine wp_region_vals (by kernel_rfl) (by kernel_rfl) (by kernel_rfl) (by kernel_rfl) [(41, .pointer (some ⟨w.heap.size, 1, none⟩)), (42, .int .i64 a), (43, .string ⟨(X).toArray⟩), (44, .string ⟨(X ++ [45]).toArray⟩), (45, .pointer (some ⟨w.heap.size, 2, none⟩)), (46, .int .i64 b1), (47, .string ⟨(Y).toArray⟩), (48, .string ⟨(X ++ 45 :: Y).toArray⟩), (5, .string ⟨(X ++ 45 :: Y).toArray⟩)] (by kernel_rfl) (by kernel_rfl) ?_ ?_
  · intro i s v o L A W ho hv hdep hJ hkept hhas
    match i, ho, hv with
    | 0, ho, hv =>
      cases Option.some.inj ho
      cases Option.some.inj hv
      have h2 : A.tmps[2]?.getD undef = .pointer (some ⟨w.heap.size, 0, none⟩) := (gd A 2).trans (hkept 2 (by kernel_rfl))
      refine wpOp_step rfl (fun K hK => ?_)
      go_simp
      exact hK _ _ ⟨rfl, Below.refl _ _⟩
    | 1, ho, hv =>
      cases Option.some.inj ho
      cases Option.some.inj hv
      have h41 : A.tmps[41]?.getD undef = .pointer (some ⟨w.heap.size, 1, none⟩) := (gd A 41).trans (hhas 0 41 _ rfl (hdep ⟨0, .data⟩ (by simp) rfl))
      have z1W : W.cell? ⟨w.heap.size, 1, none⟩ = some (.int .i64 a) := (hJ.cell (block_lt_of_cell z1)).trans z1
      refine wpOp_step rfl (fun K hK => ?_)
      go_simp
      exact hK _ _ ⟨rfl, Below.refl _ _⟩
    | 2, ho, hv =>
      cases Option.some.inj ho
      cases Option.some.inj hv
      have h42 : A.tmps[42]?.getD undef = .int .i64 a := (gd A 42).trans (hhas 1 42 _ rfl (hdep ⟨1, .data⟩ (by simp) rfl))
      refine wpOp_step rfl (fun K hK => ?_)
      go_simp
      refine (cX W).mono ?_
      rintro e' W' ⟨rfl, hb'⟩
      exact hK _ _ ⟨rfl, hb'⟩
    | 3, ho, hv =>
      cases Option.some.inj ho
      cases Option.some.inj hv
      have h43 : A.tmps[43]?.getD undef = .string ⟨(X).toArray⟩ := (gd A 43).trans (hhas 2 43 _ rfl (hdep ⟨2, .data⟩ (by simp) rfl))
      refine wpOp_step rfl (fun K hK => ?_)
      go_simp
      try rw [if_neg (by omega)]
      exact hK _ _ ⟨congrArg (A.put (some 44)) (str_of (by simp)), Below.refl _ _⟩
    | 4, ho, hv =>
      cases Option.some.inj ho
      cases Option.some.inj hv
      have h2 : A.tmps[2]?.getD undef = .pointer (some ⟨w.heap.size, 0, none⟩) := (gd A 2).trans (hkept 2 (by kernel_rfl))
      refine wpOp_step rfl (fun K hK => ?_)
      go_simp
      exact hK _ _ ⟨rfl, Below.refl _ _⟩
    | 5, ho, hv =>
      cases Option.some.inj ho
      cases Option.some.inj hv
      have h45 : A.tmps[45]?.getD undef = .pointer (some ⟨w.heap.size, 2, none⟩) := (gd A 45).trans (hhas 4 45 _ rfl (hdep ⟨4, .data⟩ (by simp) rfl))
      have z2W : W.cell? ⟨w.heap.size, 2, none⟩ = some (.int .i64 b1) := (hJ.cell (block_lt_of_cell z2)).trans z2
      refine wpOp_step rfl (fun K hK => ?_)
      go_simp
      exact hK _ _ ⟨rfl, Below.refl _ _⟩
    | 6, ho, hv =>
      cases Option.some.inj ho
      cases Option.some.inj hv
      have h46 : A.tmps[46]?.getD undef = .int .i64 b1 := (gd A 46).trans (hhas 5 46 _ rfl (hdep ⟨5, .data⟩ (by simp) rfl))
      refine wpOp_step rfl (fun K hK => ?_)
      go_simp
      refine (cY W).mono ?_
      rintro e' W' ⟨rfl, hb'⟩
      exact hK _ _ ⟨rfl, hb'⟩
    | 7, ho, hv =>
      cases Option.some.inj ho
      cases Option.some.inj hv
      have h44 : A.tmps[44]?.getD undef = .string ⟨(X ++ [45]).toArray⟩ := (gd A 44).trans (hhas 3 44 _ rfl (hdep ⟨3, .data⟩ (by simp) rfl))
      have h47 : A.tmps[47]?.getD undef = .string ⟨(Y).toArray⟩ := (gd A 47).trans (hhas 6 47 _ rfl (hdep ⟨6, .data⟩ (by simp) rfl))
      refine wpOp_step rfl (fun K hK => ?_)
      go_simp
      try rw [if_neg (by omega)]
      exact hK _ _ ⟨congrArg (A.put (some 48)) (str_of (by simp)), Below.refl _ _⟩
    | 8, ho, hv =>
      cases Option.some.inj ho
      cases Option.some.inj hv
      have h48 : A.tmps[48]?.getD undef = .string ⟨(X ++ 45 :: Y).toArray⟩ := (gd A 48).trans (hhas 7 48 _ rfl (hdep ⟨7, .data⟩ (by simp) rfl))
      refine wpOp_step rfl (fun K hK => ?_)
      go_simp
      exact hK _ _ ⟨rfl, Below.refl _ _⟩
    | k + 9, ho, hv => simp at ho
  · intro W hJ
    simp only [putAll_cons, putAll_nil]
    go_simp
    have e9 : TXT = X ++ 45 :: Y := by rw [HT.out]; first | rfl | simp
    go_wp2_with fail
    go_ret
    exact ⟨congrArg Ending.returned (str_of (by rw [e9])), hbA.trans (hJ.mono hbA.size)⟩
set_option maxRecDepth 100000 in
set_option maxHeartbeats 8000000 in
theorem text_step_10 (a b1 : Int) (name : List UInt8) (kids : List Ex) (p : Option Addr) (c : Nat) (w : World) (least : Nat) (_hks : kids = [] ∨ KidsX w (.slice p kids.length c) kids) (_hok : OKE ⟨10, a, b1, name, kids⟩) (_hPT : ∀ w', Below w.heap.size w w' → PowT w') (hl3 : least ≤ 3) :
    Calls Tryd.prog 35 #[.agg #[.int .i64 10, .int .i64 a, .int .i64 b1, .string ⟨name.toArray⟩, .slice p kids.length c], .int .i64 (least : Int)] w (OutX (textE ⟨10, a, b1, name, kids⟩ least) w) := by
  have HT : Hid (textE ⟨10, a, b1, name, kids⟩ least = brk (decide (holdP 10 < least)) (bareP ⟨10, a, b1, name, kids⟩ (kidT kids))) := textE_eq _ _
  rw [bare_10 rfl] at HT
  try dsimp only at HT
  have hg3 : ¬ (3 : Int) < (least : Int) := by omega
  rw [show decide (holdP 10 < least) = false from decide_eq_false (by show ¬ 3 < least; omega)] at HT
  generalize textE ⟨10, a, b1, name, kids⟩ least = TXT at *
  have hbA := (Below.refl w.heap.size w).alloc (Nat.le_refl _) (.cells #[.int .i64 10, .int .i64 a, .int .i64 b1, .string ⟨name.toArray⟩, .slice p kids.length c] 60)
  have hxA := heap_alloc_new w (.cells #[.int .i64 10, .int .i64 a, .int .i64 b1, .string ⟨name.toArray⟩, .slice p kids.length c] 60)
  generalize hwA : w.alloc (.cells #[.int .i64 10, .int .i64 a, .int .i64 b1, .string ⟨name.toArray⟩, .slice p kids.length c] 60) = wA at *
  have z0 := (cell_of_row _ _ 0 _ _ _ hxA).trans rfl
  have z3 := (cell_of_row _ _ 3 _ _ _ hxA).trans rfl
  go_enter Tryd.func35, Tryd.ntmps35
  go_wp2_with fail
  have e9 : TXT = name := by rw [HT.out]; first | rfl | simp
  go_wp2_with fail
  go_ret
  exact ⟨congrArg Ending.returned (str_of (by rw [e9])), hbA⟩
set_option maxRecDepth 100000 in
set_option maxHeartbeats 8000000 in
theorem text_step_6 (a b1 : Int) (name : List UInt8) (kids : List Ex) (p : Option Addr) (c : Nat) (w : World) (least : Nat) (hks : kids = [] ∨ KidsX w (.slice p kids.length c) kids) (hok : OKE ⟨6, a, b1, name, kids⟩) (_hPT : ∀ w', Below w.heap.size w w' → PowT w') (hl3 : least ≤ 3) :
    Calls Tryd.prog 35 #[.agg #[.int .i64 6, .int .i64 a, .int .i64 b1, .string ⟨name.toArray⟩, .slice p kids.length c], .int .i64 (least : Int)] w (OutX (textE ⟨6, a, b1, name, kids⟩ least) w) := by
  obtain ⟨k0, hk0, ho0⟩ := hok.kid0 (show 1 ≤ kidsP 6 by decide)
  obtain ⟨k1, hk1, ho1⟩ := hok.kid1 (show 2 ≤ kidsP 6 by decide)
  have hln : kids.length = 2 := hok.kinds.2.2.1
  have hne : kids ≠ [] := fun e => by rw [e] at hln; cases hln
  dsimp only at hk0 hk1
  have HT : Hid (textE ⟨6, a, b1, name, kids⟩ least = brk (decide (holdP 6 < least)) (bareP ⟨6, a, b1, name, kids⟩ (kidT kids))) := textE_eq _ _
  rw [bare_6 rfl] at HT
  try dsimp only at HT
  rw [kidT_at hk0, kidT_at hk1] at HT
  rw [show holdP 6 = 0 by decide] at HT
  generalize textE ⟨6, a, b1, name, kids⟩ least = TXT at *
  obtain ⟨g, o, c', hsl, hkid⟩ := hks.resolve_left hne
  injection hsl with q1 q2 q3
  subst q1
  subst q3
  rw [hln]
  obtain ⟨p0, q0, d0', d1', d2', d3', d4', c0⟩ := hkid 0 k0 hk0
  obtain ⟨p1, q1, e0', e1', e2', e3', e4', c1⟩ := hkid 1 k1 hk1
  clear hkid
  have hbA := (Below.refl w.heap.size w).alloc (Nat.le_refl _) (.cells #[.int .i64 6, .int .i64 a, .int .i64 b1, .string ⟨name.toArray⟩, .slice (some ⟨g, o, none⟩) 2 c] 60)
  have hxA := heap_alloc_new w (.cells #[.int .i64 6, .int .i64 a, .int .i64 b1, .string ⟨name.toArray⟩, .slice (some ⟨g, o, none⟩) 2 c] 60)
  generalize hwA : w.alloc (.cells #[.int .i64 6, .int .i64 a, .int .i64 b1, .string ⟨name.toArray⟩, .slice (some ⟨g, o, none⟩) 2 c] 60) = wA at *
  have z0 := (cell_of_row _ _ 0 _ _ _ hxA).trans rfl
  have d0 : wA.cell? ⟨g, o, none⟩ = _ := (hbA.cell (block_lt_of_cell d0')).trans d0'
  have d1 : wA.cell? ⟨g, o + 1, none⟩ = _ := (hbA.cell (block_lt_of_cell d1')).trans d1'
  have d2 : wA.cell? ⟨g, o + 2, none⟩ = _ := (hbA.cell (block_lt_of_cell d2')).trans d2'
  have d3 : wA.cell? ⟨g, o + 3, none⟩ = _ := (hbA.cell (block_lt_of_cell d3')).trans d3'
  have d4 : wA.cell? ⟨g, o + 4, none⟩ = _ := (hbA.cell (block_lt_of_cell d4')).trans d4'
  have e0 : wA.cell? ⟨g, o + 5, none⟩ = _ := (hbA.cell (block_lt_of_cell e0')).trans e0'
  have e1 : wA.cell? ⟨g, o + 6, none⟩ = _ := (hbA.cell (block_lt_of_cell e1')).trans e1'
  have e2 : wA.cell? ⟨g, o + 7, none⟩ = _ := (hbA.cell (block_lt_of_cell e2')).trans e2'
  have e3 : wA.cell? ⟨g, o + 8, none⟩ = _ := (hbA.cell (block_lt_of_cell e3')).trans e3'
  have e4 : wA.cell? ⟨g, o + 9, none⟩ = _ := (hbA.cell (block_lt_of_cell e4')).trans e4'
  have z4 := (cell_of_row _ _ 4 _ _ _ hxA).trans rfl
  have cA := fun (W : World) (hJ : Below wA.heap.size wA W) => c0 W 0 (hbA.trans (hJ.mono hbA.size)) (by omega) (fun _ => by omega)
  have cB := fun (W : World) (hJ : Below wA.heap.size wA W) => c1 W 1 (hbA.trans (hJ.mono hbA.size)) (by omega) (fun _ => by omega)
  unfold OutX at cA cB
  have l0 := ho0.len 0
  have l1 := ho1.len 1
  clear c0 c1 hok hks hk0 hk1 hln hne ho0 ho1 _hPT
  generalize textE k0 0 = T0 at *
  generalize textE k1 1 = T1 at *
  go_enter Tryd.func35, Tryd.ntmps35
  go_wp2_with fail
  refine wp_region_vals (by kernel_rfl) (by kernel_rfl) (by kernel_rfl) (by kernel_rfl) [(55, .pointer (some ⟨w.heap.size, 4, none⟩)), (56, .slice (some ⟨g, o, none⟩) 2 c), (57, .pointer (some ⟨g, o, none⟩)), (58, .agg #[.int .i64 k0.kind, .int .i64 k0.a, .int .i64 k0.b, .string ⟨k0.name.toArray⟩, .slice p0 k0.kids.length q0]), (59, .string ⟨(T0).toArray⟩), (60, .string ⟨(T0 ++ [32, 43, 32]).toArray⟩), (61, .pointer (some ⟨w.heap.size, 4, none⟩)), (62, .slice (some ⟨g, o, none⟩) 2 c), (63, .pointer (some ⟨g, o + 5, none⟩)), (64, .agg #[.int .i64 k1.kind, .int .i64 k1.a, .int .i64 k1.b, .string ⟨k1.name.toArray⟩, .slice p1 k1.kids.length q1]), (65, .string ⟨(T1).toArray⟩), (66, .string ⟨(T0 ++ 32 :: 43 :: 32 :: T1).toArray⟩), (5, .string ⟨(T0 ++ 32 :: 43 :: 32 :: T1).toArray⟩), (6, .int .i64 0)] (by kernel_rfl) (by kernel_rfl) ?_ ?_
  · intro i s v o L A W ho hv hdep hJ hkept hhas
    match i, ho, hv with
    | 0, ho, hv =>
      cases Option.some.inj ho
      cases Option.some.inj hv
      have h2 : A.tmps[2]?.getD undef = .pointer (some ⟨w.heap.size, 0, none⟩) := (gd A 2).trans (hkept 2 (by kernel_rfl))
      refine wpOp_step rfl (fun K hK => ?_)
      go_simp
      exact hK _ _ ⟨rfl, Below.refl _ _⟩
    | 1, ho, hv =>
      cases Option.some.inj ho
      cases Option.some.inj hv
      have h55 : A.tmps[55]?.getD undef = .pointer (some ⟨w.heap.size, 4, none⟩) := (gd A 55).trans (hhas 0 55 _ rfl (hdep ⟨0, .data⟩ (by simp) rfl))
      have z4W : W.cell? ⟨w.heap.size, 4, none⟩ = some (.slice (some ⟨g, o, none⟩) 2 c) := (hJ.cell (block_lt_of_cell z4)).trans z4
      refine wpOp_step rfl (fun K hK => ?_)
      go_simp
      exact hK _ _ ⟨rfl, Below.refl _ _⟩
    | 2, ho, hv =>
      cases Option.some.inj ho
      cases Option.some.inj hv
      have h56 : A.tmps[56]?.getD undef = .slice (some ⟨g, o, none⟩) 2 c := (gd A 56).trans (hhas 1 56 _ rfl (hdep ⟨1, .data⟩ (by simp) rfl))
      refine wpOp_step rfl (fun K hK => ?_)
      go_simp
      exact hK _ _ ⟨rfl, Below.refl _ _⟩
    | 3, ho, hv =>
      cases Option.some.inj ho
      cases Option.some.inj hv
      have h57 : A.tmps[57]?.getD undef = .pointer (some ⟨g, o, none⟩) := (gd A 57).trans (hhas 2 57 _ rfl (hdep ⟨2, .data⟩ (by simp) rfl))
      have d0W : W.cell? ⟨g, o, none⟩ = some (.int .i64 k0.kind) := (hJ.cell (block_lt_of_cell d0)).trans d0
      have d1W : W.cell? ⟨g, o + 1, none⟩ = some (.int .i64 k0.a) := (hJ.cell (block_lt_of_cell d1)).trans d1
      have d2W : W.cell? ⟨g, o + 2, none⟩ = some (.int .i64 k0.b) := (hJ.cell (block_lt_of_cell d2)).trans d2
      have d3W : W.cell? ⟨g, o + 3, none⟩ = some (.string ⟨k0.name.toArray⟩) := (hJ.cell (block_lt_of_cell d3)).trans d3
      have d4W : W.cell? ⟨g, o + 4, none⟩ = some (.slice p0 k0.kids.length q0) := (hJ.cell (block_lt_of_cell d4)).trans d4
      refine wpOp_step rfl (fun K hK => ?_)
      go_simp
      exact hK _ _ ⟨rfl, Below.refl _ _⟩
    | 4, ho, hv =>
      cases Option.some.inj ho
      cases Option.some.inj hv
      have h58 : A.tmps[58]?.getD undef = .agg #[.int .i64 k0.kind, .int .i64 k0.a, .int .i64 k0.b, .string ⟨k0.name.toArray⟩, .slice p0 k0.kids.length q0] := (gd A 58).trans (hhas 3 58 _ rfl (hdep ⟨3, .data⟩ (by simp) rfl))
      refine wpOp_step rfl (fun K hK => ?_)
      go_simp
      refine (cA W hJ).mono ?_
      rintro e' W' ⟨rfl, hb'⟩
      exact hK _ _ ⟨rfl, hb'⟩
    | 5, ho, hv =>
      cases Option.some.inj ho
      cases Option.some.inj hv
      have h59 : A.tmps[59]?.getD undef = .string ⟨(T0).toArray⟩ := (gd A 59).trans (hhas 4 59 _ rfl (hdep ⟨4, .data⟩ (by simp) rfl))
      refine wpOp_step rfl (fun K hK => ?_)
      go_simp
      try rw [if_neg (by omega)]
      exact hK _ _ ⟨congrArg (A.put (some 60)) (str_of (by simp)), Below.refl _ _⟩
    | 6, ho, hv =>
      cases Option.some.inj ho
      cases Option.some.inj hv
      have h2 : A.tmps[2]?.getD undef = .pointer (some ⟨w.heap.size, 0, none⟩) := (gd A 2).trans (hkept 2 (by kernel_rfl))
      refine wpOp_step rfl (fun K hK => ?_)
      go_simp
      exact hK _ _ ⟨rfl, Below.refl _ _⟩
    | 7, ho, hv =>
      cases Option.some.inj ho
      cases Option.some.inj hv
      have h61 : A.tmps[61]?.getD undef = .pointer (some ⟨w.heap.size, 4, none⟩) := (gd A 61).trans (hhas 6 61 _ rfl (hdep ⟨6, .data⟩ (by simp) rfl))
      have z4W : W.cell? ⟨w.heap.size, 4, none⟩ = some (.slice (some ⟨g, o, none⟩) 2 c) := (hJ.cell (block_lt_of_cell z4)).trans z4
      refine wpOp_step rfl (fun K hK => ?_)
      go_simp
      exact hK _ _ ⟨rfl, Below.refl _ _⟩
    | 8, ho, hv =>
      cases Option.some.inj ho
      cases Option.some.inj hv
      have h62 : A.tmps[62]?.getD undef = .slice (some ⟨g, o, none⟩) 2 c := (gd A 62).trans (hhas 7 62 _ rfl (hdep ⟨7, .data⟩ (by simp) rfl))
      refine wpOp_step rfl (fun K hK => ?_)
      go_simp
      exact hK _ _ ⟨rfl, Below.refl _ _⟩
    | 9, ho, hv =>
      cases Option.some.inj ho
      cases Option.some.inj hv
      have h63 : A.tmps[63]?.getD undef = .pointer (some ⟨g, o + 5, none⟩) := (gd A 63).trans (hhas 8 63 _ rfl (hdep ⟨8, .data⟩ (by simp) rfl))
      have e0W : W.cell? ⟨g, o + 5, none⟩ = some (.int .i64 k1.kind) := (hJ.cell (block_lt_of_cell e0)).trans e0
      have e1W : W.cell? ⟨g, o + 6, none⟩ = some (.int .i64 k1.a) := (hJ.cell (block_lt_of_cell e1)).trans e1
      have e2W : W.cell? ⟨g, o + 7, none⟩ = some (.int .i64 k1.b) := (hJ.cell (block_lt_of_cell e2)).trans e2
      have e3W : W.cell? ⟨g, o + 8, none⟩ = some (.string ⟨k1.name.toArray⟩) := (hJ.cell (block_lt_of_cell e3)).trans e3
      have e4W : W.cell? ⟨g, o + 9, none⟩ = some (.slice p1 k1.kids.length q1) := (hJ.cell (block_lt_of_cell e4)).trans e4
      refine wpOp_step rfl (fun K hK => ?_)
      go_simp
      exact hK _ _ ⟨rfl, Below.refl _ _⟩
    | 10, ho, hv =>
      cases Option.some.inj ho
      cases Option.some.inj hv
      have h64 : A.tmps[64]?.getD undef = .agg #[.int .i64 k1.kind, .int .i64 k1.a, .int .i64 k1.b, .string ⟨k1.name.toArray⟩, .slice p1 k1.kids.length q1] := (gd A 64).trans (hhas 9 64 _ rfl (hdep ⟨9, .data⟩ (by simp) rfl))
      refine wpOp_step rfl (fun K hK => ?_)
      go_simp
      refine (cB W hJ).mono ?_
      rintro e' W' ⟨rfl, hb'⟩
      exact hK _ _ ⟨rfl, hb'⟩
    | 11, ho, hv =>
      cases Option.some.inj ho
      cases Option.some.inj hv
      have h60 : A.tmps[60]?.getD undef = .string ⟨(T0 ++ [32, 43, 32]).toArray⟩ := (gd A 60).trans (hhas 5 60 _ rfl (hdep ⟨5, .data⟩ (by simp) rfl))
      have h65 : A.tmps[65]?.getD undef = .string ⟨(T1).toArray⟩ := (gd A 65).trans (hhas 10 65 _ rfl (hdep ⟨10, .data⟩ (by simp) rfl))
      refine wpOp_step rfl (fun K hK => ?_)
      go_simp
      try rw [if_neg (by omega)]
      exact hK _ _ ⟨congrArg (A.put (some 66)) (str_of (by simp)), Below.refl _ _⟩
    | 12, ho, hv =>
      cases Option.some.inj ho
      cases Option.some.inj hv
      have h66 : A.tmps[66]?.getD undef = .string ⟨(T0 ++ 32 :: 43 :: 32 :: T1).toArray⟩ := (gd A 66).trans (hhas 11 66 _ rfl (hdep ⟨11, .data⟩ (by simp) rfl))
      refine wpOp_step rfl (fun K hK => ?_)
      go_simp
      exact hK _ _ ⟨rfl, Below.refl _ _⟩
    | 13, ho, hv =>
      cases Option.some.inj ho
      cases Option.some.inj hv
      refine wpOp_step rfl (fun K hK => ?_)
      go_simp
      exact hK _ _ ⟨rfl, Below.refl _ _⟩
    | k + 14, ho, hv => simp at ho
  · intro W hJ
    simp only [putAll_cons, putAll_nil]
    go_simp
    have hSl : (T0 ++ 32 :: 43 :: 32 :: T1).length ≤ 100000 := by simp; omega
    have HT' : Hid (TXT = brk (decide (0 < least)) (T0 ++ 32 :: 43 :: 32 :: T1)) := by show _ = _; rw [HT.out]; simp
    clear HT
    generalize T0 ++ 32 :: 43 :: 32 :: T1 = S0 at *
    have q1 : ¬ 9223372036854775807 < 1 + S0.length := by omega
    have q2 : ¬ 9223372036854775807 < 1 + S0.length + 1 := by omega
    by_cases hh : 0 < least
    · have hg : (0 : Int) < (least : Int) := by omega
      have e9 : TXT = [40] ++ S0 ++ [41] := by rw [HT'.out, decide_eq_true hh]; rfl
      go_wp2_with fail
      go_ret
      exact ⟨congrArg Ending.returned (str_of (by rw [e9]; simp)), hbA.trans (hJ.mono hbA.size)⟩
    · have hg : ¬ (0 : Int) < (least : Int) := by omega
      have e9 : TXT = S0 := by rw [HT'.out, decide_eq_false hh]; rfl
      go_wp2_with fail
      go_ret
      exact ⟨congrArg Ending.returned (str_of (by first | rfl | rw [e9])), hbA.trans (hJ.mono hbA.size)⟩
end Go.Proofs.YtfibbmdkpgageaaDoor
