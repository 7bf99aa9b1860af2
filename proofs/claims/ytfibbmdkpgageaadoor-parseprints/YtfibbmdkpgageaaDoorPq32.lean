/- What the document's Text comes to, kind by kind, where it comes to what it should at the kids. -/
import Derived.Test.YtfibbmdkpgageaaDoorPq30
namespace Go.Proofs.YtfibbmdkpgageaaDoor
open Go.RowKit Lx

set_option maxRecDepth 100000 in
set_option maxHeartbeats 8000000 in
theorem text_step_7 (a b1 : Int) (name : List UInt8) (kids : List Ex) (p : Option Addr) (c : Nat) (w : World) (least : Nat) (hks : kids = [] ∨ KidsX w (.slice p kids.length c) kids) (hok : OKE ⟨7, a, b1, name, kids⟩) (_hPT : ∀ w', Below w.heap.size w w' → PowT w') (hl3 : least ≤ 3) :
    Calls Tryd.prog 35 #[.agg #[.int .i64 7, .int .i64 a, .int .i64 b1, .string ⟨name.toArray⟩, .slice p kids.length c], .int .i64 (least : Int)] w (OutX (textE ⟨7, a, b1, name, kids⟩ least) w) := by
  obtain ⟨k0, hk0, ho0⟩ := hok.kid0 (show 1 ≤ kidsP 7 by decide)
  obtain ⟨k1, hk1, ho1⟩ := hok.kid1 (show 2 ≤ kidsP 7 by decide)
  have hln : kids.length = 2 := hok.kinds.2.2.1
  have hne : kids ≠ [] := fun e => by rw [e] at hln; cases hln
  dsimp only at hk0 hk1
  have HT : Hid (textE ⟨7, a, b1, name, kids⟩ least = brk (decide (holdP 7 < least)) (bareP ⟨7, a, b1, name, kids⟩ (kidT kids))) := textE_eq _ _
  rw [bare_7 rfl] at HT
  try dsimp only at HT
  rw [kidT_at hk0, kidT_at hk1] at HT
  rw [show holdP 7 = 0 by decide] at HT
  generalize textE ⟨7, a, b1, name, kids⟩ least = TXT at *
  obtain ⟨g, o, c', hsl, hkid⟩ := hks.resolve_left hne
  injection hsl with q1 q2 q3
  subst q1
  subst q3
  rw [hln]
  obtain ⟨p0, q0, d0', d1', d2', d3', d4', c0⟩ := hkid 0 k0 hk0
  obtain ⟨p1, q1, e0', e1', e2', e3', e4', c1⟩ := hkid 1 k1 hk1
  clear hkid
  have hbA := (Below.refl w.heap.size w).alloc (Nat.le_refl _) (.cells #[.int .i64 7, .int .i64 a, .int .i64 b1, .string ⟨name.toArray⟩, .slice (some ⟨g, o, none⟩) 2 c] 60)
  have hxA := heap_alloc_new w (.cells #[.int .i64 7, .int .i64 a, .int .i64 b1, .string ⟨name.toArray⟩, .slice (some ⟨g, o, none⟩) 2 c] 60)
  generalize hwA : w.alloc (.cells #[.int .i64 7, .int .i64 a, .int .i64 b1, .string ⟨name.toArray⟩, .slice (some ⟨g, o, none⟩) 2 c] 60) = wA at *
  have z0 := (cell_of_row _ _ 0 _ _ _ hxA).trans rfl
  have d0 : wA.cell? ⟨g, o, none⟩ = _ := (hbA.cell (block_lt_of_cell d0')).trans d0'
  have d1 : wA.cell? ⟨g, o + 1, none⟩ = _ := (hbA.cell (block_lt_of_cell d1')).trans d1'
  have d2 : wA.cell? ⟨g, o + 2, none⟩ = _ := (hbA.cell (block_lt_of_cell d2')).trans d2'
  have d3 : wA.cell? ⟨g, o + 3, none⟩ = _ := (hbA.cell (block_lt_of_cell d3')).trans d3'
  have d4 : wA.cell? ⟨g, o + 4, none⟩ = _ := (hbA.cell (block_lt_of_cell d4')).trans d4'
  have e0 : wA.cell? ⟨g, o + 5, none⟩ = _ := (hbA.cell (block_lt_of_cell e0')).trans e0'
  have e1 : wA.cell? ⟨g, o + 6, none⟩ = _ := (hbA.cell (block_lt_of_cell e1')).trans e1'
  have e2 : wA.cell? ⟨g, o + 7, none⟩ = _ := (hbA.cell (block_lt_of_cell e2')).trans e2'
  have e3 : wA.cell? ⟨g, o + 8, none⟩ = _ := (hbA.cell (block_lt_of_cell e3')).trans e3'
  have e4 : wA.cell? ⟨g, o + 9, none⟩ = _ := (hbA.cell (block_lt_of_cell e4')).trans e4'
  have z4 := (cell_of_row _ _ 4 _ _ _ hxA).trans rfl
  have cA := fun (W : World) (hJ : Below wA.heap.size wA W) => c0 W 0 (hbA.trans (hJ.mono hbA.size)) (by omega) (fun _ => by omega)
  have cB := fun (W : World) (hJ : Below wA.heap.size wA W) => c1 W 1 (hbA.trans (hJ.mono hbA.size)) (by omega) (fun _ => by omega)
  unfold OutX at cA cB
  have l0 := ho0.len 0
  have l1 := ho1.len 1
  clear c0 c1 hok hks hk0 hk1 hln hne ho0 ho1 _hPT
  generalize textE k0 0 = T0 at *
  generalize textE k1 1 = T1 at *
  go_enter Tryd.func35, Tryd.ntmps35
  go_wp2_with fail
  refine wp_region_vals (by kernel_rfl) (by kernel_rfl) (by kernel_rfl) (by kernel_rfl) [(69, .pointer (some ⟨w.heap.size, 4, none⟩)), (70, .slice (some ⟨g, o, none⟩) 2 c), (71, .pointer (some ⟨g, o, none⟩)), (72, .agg #[.int .i64 k0.kind, .int .i64 k0.a, .int .i64 k0.b, .string ⟨k0.name.toArray⟩, .slice p0 k0.kids.length q0]), (73, .string ⟨(T0).toArray⟩), (74, .string ⟨(T0 ++ [32, 45, 32]).toArray⟩), (75, .pointer (some ⟨w.heap.size, 4, none⟩)), (76, .slice (some ⟨g, o, none⟩) 2 c), (77, .pointer (some ⟨g, o + 5, none⟩)), (78, .agg #[.int .i64 k1.kind, .int .i64 k1.a, .int .i64 k1.b, .string ⟨k1.name.toArray⟩, .slice p1 k1.kids.length q1]), (79, .string ⟨(T1).toArray⟩), (80, .string ⟨(T0 ++ 32 :: 45 :: 32 :: T1).toArray⟩), (5, .string ⟨(T0 ++ 32 :: 45 :: 32 :: T1).toArray⟩), (6, .int .i64 0)] (by kernel_rfl) (by kernel_rfl) ?_ ?_
  · intro i s v o L A W ho hv hdep hJ hkept hhas
    match i, ho, hv with
    | 0, ho, hv =>
      cases Option.some.inj ho
      cases Option.some.inj hv
      have h2 : A.tmps[2]?.getD undef = .pointer (some ⟨w.heap.size, 0, none⟩) := (gd A 2).trans (hkept 2 (by kernel_rfl))
      refine wpOp_step rfl (fun K hK => ?_)
      go_simp
      exact hK _ _ ⟨rfl, Below.refl _ _⟩
    | 1, ho, hv =>
      cases Option.some.inj ho
      cases Option.some.inj hv
      have h69 : A.tmps[69]?.getD undef = .pointer (some ⟨w.heap.size, 4, none⟩) := (gd A 69).trans (hhas 0 69 _ rfl (hdep ⟨0, .data⟩ (by simp) rfl))
      have z4W : W.cell? ⟨w.heap.size, 4, none⟩ = some (.slice (some ⟨g, o, none⟩) 2 c) := (hJ.cell (block_lt_of_cell z4)).trans z4
      refine wpOp_step rfl (fun K hK => ?_)
      go_simp
      exact hK _ _ ⟨rfl, Below.refl _ _⟩
    | 2, ho, hv =>
      cases Option.some.inj ho
      cases Option.some.inj hv
      have h70 : A.tmps[70]?.getD undef = .slice (some ⟨g, o, none⟩) 2 c := (gd A 70).trans (hhas 1 70 _ rfl (hdep ⟨1, .data⟩ (by simp) rfl))
      refine wpOp_step rfl (fun K hK => ?_)
      go_simp
      exact hK _ _ ⟨rfl, Below.refl _ _⟩
    | 3, ho, hv =>
      cases Option.some.inj ho
      cases Option.some.inj hv
      have h71 : A.tmps[71]?.getD undef = .pointer (some ⟨g, o, none⟩) := (gd A 71).trans (hhas 2 71 _ rfl (hdep ⟨2, .data⟩ (by simp) rfl))
      have d0W : W.cell? ⟨g, o, none⟩ = some (.int .i64 k0.kind) := (hJ.cell (block_lt_of_cell d0)).trans d0
      have d1W : W.cell? ⟨g, o + 1, none⟩ = some (.int .i64 k0.a) := (hJ.cell (block_lt_of_cell d1)).trans d1
      have d2W : W.cell? ⟨g, o + 2, none⟩ = some (.int .i64 k0.b) := (hJ.cell (block_lt_of_cell d2)).trans d2
      have d3W : W.cell? ⟨g, o + 3, none⟩ = some (.string ⟨k0.name.toArray⟩) := (hJ.cell (block_lt_of_cell d3)).trans d3
      have d4W : W.cell? ⟨g, o + 4, none⟩ = some (.slice p0 k0.kids.length q0) := (hJ.cell (block_lt_of_cell d4)).trans d4
      refine wpOp_step rfl (fun K hK => ?_)
      go_simp
      exact hK _ _ ⟨rfl, Below.refl _ _⟩
    | 4, ho, hv =>
      cases Option.some.inj ho
      cases Option.some.inj hv
      have h72 : A.tmps[72]?.getD undef = .agg #[.int .i64 k0.kind, .int .i64 k0.a, .int .i64 k0.b, .string ⟨k0.name.toArray⟩, .slice p0 k0.kids.length q0] := (gd A 72).trans (hhas 3 72 _ rfl (hdep ⟨3, .data⟩ (by simp) rfl))
      refine wpOp_step rfl (fun K hK => ?_)
      go_simp
      refine (cA W hJ).mono ?_
      rintro e' W' ⟨rfl, hb'⟩
      exact hK _ _ ⟨rfl, hb'⟩
    | 5, ho, hv =>
      cases Option.some.inj ho
      cases Option.some.inj hv
      have h73 : A.tmps[73]?.getD undef = .string ⟨(T0).toArray⟩ := (gd A 73).trans (hhas 4 73 _ rfl (hdep ⟨4, .data⟩ (by simp) rfl))
      refine wpOp_step rfl (fun K hK => ?_)
      go_simp
      try rw [if_neg (by omega)]
      exact hK _ _ ⟨congrArg (A.put (some 74)) (str_of (by simp)), Below.refl _ _⟩
    | 6, ho, hv =>
      cases Option.some.inj ho
      cases Option.some.inj hv
      have h2 : A.tmps[2]?.getD undef = .pointer (some ⟨w.heap.size, 0, none⟩) := (gd A 2).trans (hkept 2 (by kernel_rfl))
      refine wpOp_step rfl (fun K hK => ?_)
      go_simp
      exact hK _ _ ⟨rfl, Below.refl _ _⟩
    | 7, ho, hv =>
      cases Option.some.inj ho
      cases Option.some.inj hv
      have h75 : A.tmps[75]?.getD undef = .pointer (some ⟨w.heap.size, 4, none⟩) := (gd A 75).trans (hhas 6 75 _ rfl (hdep ⟨6, .data⟩ (by simp) rfl))
      have z4W : W.cell? ⟨w.heap.size, 4, none⟩ = some (.slice (some ⟨g, o, none⟩) 2 c) := (hJ.cell (block_lt_of_cell z4)).trans z4
      refine wpOp_step rfl (fun K hK => ?_)
      go_simp
      exact hK _ _ ⟨rfl, Below.refl _ _⟩
    | 8, ho, hv =>
      cases Option.some.inj ho
      cases Option.some.inj hv
      have h76 : A.tmps[76]?.getD undef = .slice (some ⟨g, o, none⟩) 2 c := (gd A 76).trans (hhas 7 76 _ rfl (hdep ⟨7, .data⟩ (by simp) rfl))
      refine wpOp_step rfl (fun K hK => ?_)
      go_simp
      exact hK _ _ ⟨rfl, Below.refl _ _⟩
    | 9, ho, hv =>
      cases Option.some.inj ho
      cases Option.some.inj hv
      have h77 : A.tmps[77]?.getD undef = .pointer (some ⟨g, o + 5, none⟩) := (gd A 77).trans (hhas 8 77 _ rfl (hdep ⟨8, .data⟩ (by simp) rfl))
      have e0W : W.cell? ⟨g, o + 5, none⟩ = some (.int .i64 k1.kind) := (hJ.cell (block_lt_of_cell e0)).trans e0
      have e1W : W.cell? ⟨g, o + 6, none⟩ = some (.int .i64 k1.a) := (hJ.cell (block_lt_of_cell e1)).trans e1
      have e2W : W.cell? ⟨g, o + 7, none⟩ = some (.int .i64 k1.b) := (hJ.cell (block_lt_of_cell e2)).trans e2
      have e3W : W.cell? ⟨g, o + 8, none⟩ = some (.string ⟨k1.name.toArray⟩) := (hJ.cell (block_lt_of_cell e3)).trans e3
      have e4W : W.cell? ⟨g, o + 9, none⟩ = some (.slice p1 k1.kids.length q1) := (hJ.cell (block_lt_of_cell e4)).trans e4
      refine wpOp_step rfl (fun K hK => ?_)
      go_simp
      exact hK _ _ ⟨rfl, Below.refl _ _⟩
    | 10, ho, hv =>
      cases Option.some.inj ho
      cases Option.some.inj hv
      have h78 : A.tmps[78]?.getD undef = .agg #[.int .i64 k1.kind, .int .i64 k1.a, .int .i64 k1.b, .string ⟨k1.name.toArray⟩, .slice p1 k1.kids.length q1] := (gd A 78).trans (hhas 9 78 _ rfl (hdep ⟨9, .data⟩ (by simp) rfl))
      refine wpOp_step rfl (fun K hK => ?_)
      go_simp
      refine (cB W hJ).mono ?_
      rintro e' W' ⟨rfl, hb'⟩
      exact hK _ _ ⟨rfl, hb'⟩
    | 11, ho, hv =>
      cases Option.some.inj ho
      cases Option.some.inj hv
      have h74 : A.tmps[74]?.getD undef = .string ⟨(T0 ++ [32, 45, 32]).toArray⟩ := (gd A 74).trans (hhas 5 74 _ rfl (hdep ⟨5, .data⟩ (by simp) rfl))
      have h79 : A.tmps[79]?.getD undef = .string ⟨(T1).toArray⟩ := (gd A 79).trans (hhas 10 79 _ rfl (hdep ⟨10, .data⟩ (by simp) rfl))
      refine wpOp_step rfl (fun K hK => ?_)
      go_simp
      try rw [if_neg (by omega)]
      exact hK _ _ ⟨congrArg (A.put (some 80)) (str_of (by simp)), Below.refl _ _⟩
    | 12, ho, hv =>
      cases Option.some.inj ho
      cases Option.some.inj hv
      have h80 : A.tmps[80]?.getD undef = .string ⟨(T0 ++ 32 :: 45 :: 32 :: T1).toArray⟩ := (gd A 80).trans (hhas 11 80 _ rfl (hdep ⟨11, .data⟩ (by simp) rfl))
      refine wpOp_step rfl (fun K hK => ?_)
      go_simp
      exact hK _ _ ⟨rfl, Below.refl _ _⟩
    | 13, ho, hv =>
      cases Option.some.inj ho
      cases Option.some.inj hv
      refine wpOp_step rfl (fun K hK => ?_)
      go_simp
      exact hK _ _ ⟨rfl, Below.refl _ _⟩
    | k + 14, ho, hv => simp at ho
  · intro W hJ
    simp only [putAll_cons, putAll_nil]
    go_simp
    have hSl : (T0 ++ 32 :: 45 :: 32 :: T1).length ≤ 100000 := by simp; omega
    have HT' : Hid (TXT = brk (decide (0 < least)) (T0 ++ 32 :: 45 :: 32 :: T1)) := by show _ = _; rw [HT.out]; simp
    clear HT
    generalize T0 ++ 32 :: 45 :: 32 :: T1 = S0 at *
    have q1 : ¬ 9223372036854775807 < 1 + S0.length := by omega
    have q2 : ¬ 9223372036854775807 < 1 + S0.length + 1 := by omega
    by_cases hh : 0 < least
    · have hg : (0 : Int) < (least : Int) := by omega
      have e9 : TXT = [40] ++ S0 ++ [41] := by rw [HT'.out, decide_eq_true hh]; rfl
      go_wp2_with fail
      go_ret
      exact ⟨congrArg Ending.returned (str_of (by rw [e9]; simp)), hbA.trans (hJ.mono hbA.size)⟩
    · have hg : ¬ (0 : Int) < (least : Int) := by omega
      have e9 : TXT = S0 := by rw [HT'.out, decide_eq_false hh]; rfl
      go_wp2_with fail
      go_ret
      exact ⟨congrArg Ending.returned (str_of (by first | rfl | rw [e9])), hbA.trans (hJ.mono hbA.size)⟩
set_option maxRecDepth 100000 in
set_option maxHeartbeats 8000000 in
theorem text_step_8 (a b1 : Int) (name : List UInt8) (kids : List Ex) (p : Option Addr) (c : Nat) (w : World) (least : Nat) (hks : kids = [] ∨ KidsX w (.slice p kids.length c) kids) (hok : OKE ⟨8, a, b1, name, kids⟩) (_hPT : ∀ w', Below w.heap.size w w' → PowT w') (hl3 : least ≤ 3) :
    Calls Tryd.prog 35 #[.agg #[.int .i64 8, .int .i64 a, .int .i64 b1, .string ⟨name.toArray⟩, .slice p kids.length c], .int .i64 (least : Int)] w (OutX (textE ⟨8, a, b1, name, kids⟩ least) w) := by
  obtain ⟨k0, hk0, ho0⟩ := hok.kid0 (show 1 ≤ kidsP 8 by decide)
  obtain ⟨k1, hk1, ho1⟩ := hok.kid1 (show 2 ≤ kidsP 8 by decide)
  have hln : kids.length = 2 := hok.kinds.2.2.1
  have hne : kids ≠ [] := fun e => by rw [e] at hln; cases hln
  dsimp only at hk0 hk1
  have HT : Hid (textE ⟨8, a, b1, name, kids⟩ least = brk (decide (holdP 8 < least)) (bareP ⟨8, a, b1, name, kids⟩ (kidT kids))) := textE_eq _ _
  rw [bare_8 rfl] at HT
  try dsimp only at HT
  rw [kidT_at hk0, kidT_at hk1] at HT
  rw [show holdP 8 = 1 by decide] at HT
  generalize textE ⟨8, a, b1, name, kids⟩ least = TXT at *
  obtain ⟨g, o, c', hsl, hkid⟩ := hks.resolve_left hne
  injection hsl with q1 q2 q3
  subst q1
  subst q3
  rw [hln]
  obtain ⟨p0, q0, d0', d1', d2', d3', d4', c0⟩ := hkid 0 k0 hk0
  obtain ⟨p1, q1, e0', e1', e2', e3', e4', c1⟩ := hkid 1 k1 hk1
  clear hkid
  have hbA := (Below.refl w.heap.size w).alloc (Nat.le_refl _) (.cells #[.int .i64 8, .int .i64 a, .int .i64 b1, .string ⟨name.toArray⟩, .slice (some ⟨g, o, none⟩) 2 c] 60)
  have hxA := heap_alloc_new w (.cells #[.int .i64 8, .int .i64 a, .int .i64 b1, .string ⟨name.toArray⟩, .slice (some ⟨g, o, none⟩) 2 c] 60)
  generalize hwA : w.alloc (.cells #[.int .i64 8, .int .i64 a, .int .i64 b1, .string ⟨name.toArray⟩, .slice (some ⟨g, o, none⟩) 2 c] 60) = wA at *
  have z0 := (cell_of_row _ _ 0 _ _ _ hxA).trans rfl
  have d0 : wA.cell? ⟨g, o, none⟩ = _ := (hbA.cell (block_lt_of_cell d0')).trans d0'
  have d1 : wA.cell? ⟨g, o + 1, none⟩ = _ := (hbA.cell (block_lt_of_cell d1')).trans d1'
  have d2 : wA.cell? ⟨g, o + 2, none⟩ = _ := (hbA.cell (block_lt_of_cell d2')).trans d2'
  have d3 : wA.cell? ⟨g, o + 3, none⟩ = _ := (hbA.cell (block_lt_of_cell d3')).trans d3'
  have d4 : wA.cell? ⟨g, o + 4, none⟩ = _ := (hbA.cell (block_lt_of_cell d4')).trans d4'
  have e0 : wA.cell? ⟨g, o + 5, none⟩ = _ := (hbA.cell (block_lt_of_cell e0')).trans e0'
  have e1 : wA.cell? ⟨g, o + 6, none⟩ = _ := (hbA.cell (block_lt_of_cell e1')).trans e1'
  have e2 : wA.cell? ⟨g, o + 7, none⟩ = _ := (hbA.cell (block_lt_of_cell e2')).trans e2'
  have e3 : wA.cell? ⟨g, o + 8, none⟩ = _ := (hbA.cell (block_lt_of_cell e3')).trans e3'
  have e4 : wA.cell? ⟨g, o + 9, none⟩ = _ := (hbA.cell (block_lt_of_cell e4')).trans e4'
  have z4 := (cell_of_row _ _ 4 _ _ _ hxA).trans rfl
  have cA := fun (W : World) (hJ : Below wA.heap.size wA W) => c0 W 1 (hbA.trans (hJ.mono hbA.size)) (by omega) (fun _ => by omega)
  have cB := fun (W : World) (hJ : Below wA.heap.size wA W) => c1 W 2 (hbA.trans (hJ.mono hbA.size)) (by omega) (fun _ => by omega)
  unfold OutX at cA cB
  have l0 := ho0.len 1
  have l1 := ho1.len 2
  clear c0 c1 hok hks hk0 hk1 hln hne ho0 ho1 _hPT
  generalize textE k0 1 = T0 at *
  generalize textE k1 2 = T1 at *
  go_enter Tryd.func35, Tryd.ntmps35
  go_wp2_with fail
  refine wp_region_vals (by kernel_rfl) (by kernel_rfl) (by kernel_rfl) (by kernel_rfl) [(83, .pointer (some ⟨w.heap.size, 4, none⟩)), (84, .slice (some ⟨g, o, none⟩) 2 c), (85, .pointer (some ⟨g, o, none⟩)), (86, .agg #[.int .i64 k0.kind, .int .i64 k0.a, .int .i64 k0.b, .string ⟨k0.name.toArray⟩, .slice p0 k0.kids.length q0]), (87, .string ⟨(T0).toArray⟩), (88, .string ⟨(T0 ++ [32, 38, 32]).toArray⟩), (89, .pointer (some ⟨w.heap.size, 4, none⟩)), (90, .slice (some ⟨g, o, none⟩) 2 c), (91, .pointer (some ⟨g, o + 5, none⟩)), (92, .agg #[.int .i64 k1.kind, .int .i64 k1.a, .int .i64 k1.b, .string ⟨k1.name.toArray⟩, .slice p1 k1.kids.length q1]), (93, .string ⟨(T1).toArray⟩), (94, .string ⟨(T0 ++ 32 :: 38 :: 32 :: T1).toArray⟩), (5, .string ⟨(T0 ++ 32 :: 38 :: 32 :: T1).toArray⟩), (6, .int .i64 1)] (by kernel_rfl) (by kernel_rfl) ?_ ?_
  · intro i s v o L A W ho hv hdep hJ hkept hhas
    match i, ho, hv with
    | 0, ho, hv =>
      cases Option.some.inj ho
      cases Option.some.inj hv
      have h2 : A.tmps[2]?.getD undef = .pointer (some ⟨w.heap.size, 0, none⟩) := (gd A 2).trans (hkept 2 (by kernel_rfl))
      refine wpOp_step rfl (fun K hK => ?_)
      go_simp
      exact hK _ _ ⟨rfl, Below.refl _ _⟩
    | 1, ho, hv =>
      cases Option.some.inj ho
      cases Option.some.inj hv
      have h83 : A.tmps[83]?.getD undef = .pointer (some ⟨w.heap.size, 4, none⟩) := (gd A 83).trans (hhas 0 83 _ rfl (hdep ⟨0, .data⟩ (by simp) rfl))
      have z4W : W.cell? ⟨w.heap.size, 4, none⟩ = some (.slice (some ⟨g, o, none⟩) 2 c) := (hJ.cell (block_lt_of_cell z4)).trans z4
      refine wpOp_step rfl (fun K hK => ?_)
      go_simp
      exact hK _ _ ⟨rfl, Below.refl _ _⟩
    | 2, ho, hv =>
      cases Option.some.inj ho
      cases Option.some.inj hv
      have h84 : A.tmps[84]?.getD undef = .slice (some ⟨g, o, none⟩) 2 c := (gd A 84).trans (hhas 1 84 _ rfl (hdep ⟨1, .data⟩ (by simp) rfl))
      refine wpOp_step rfl (fun K hK => ?_)
      go_simp
      exact hK _ _ ⟨rfl, Below.refl _ _⟩
    | 3, ho, hv =>
      cases Option.some.inj ho
      cases Option.some.inj hv
      have h85 : A.tmps[85]?.getD undef = .pointer (some ⟨g, o, none⟩) := (gd A 85).trans (hhas 2 85 _ rfl (hdep ⟨2, .data⟩ (by simp) rfl))
      have d0W : W.cell? ⟨g, o, none⟩ = some (.int .i64 k0.kind) := (hJ.cell (block_lt_of_cell d0)).trans d0
      have d1W : W.cell? ⟨g, o + 1, none⟩ = some (.int .i64 k0.a) := (hJ.cell (block_lt_of_cell d1)).trans d1
      have d2W : W.cell? ⟨g, o + 2, none⟩ = some (.int .i64 k0.b) := (hJ.cell (block_lt_of_cell d2)).trans d2
      have d3W : W.cell? ⟨g, o + 3, none⟩ = some (.string ⟨k0.name.toArray⟩) := (hJ.cell (block_lt_of_cell d3)).trans d3
      have d4W : W.cell? ⟨g, o + 4, none⟩ = some (.slice p0 k0.kids.length q0) := (hJ.cell (block_lt_of_cell d4)).trans d4
      refine wpOp_step rfl (fun K hK => ?_)
      go_simp
      exact hK _ _ ⟨rfl, Below.refl _ _⟩
    | 4, ho, hv =>
      cases Option.some.inj ho
      cases Option.some.inj hv
      have h86 : A.tmps[86]?.getD undef = .agg #[.int .i64 k0.kind, .int .i64 k0.a, .int .i64 k0.b, .string ⟨k0.name.toArray⟩, .slice p0 k0.kids.length q0] := (gd A 86).trans (hhas 3 86 _ rfl (hdep ⟨3, .data⟩ (by simp) rfl))
      refine wpOp_step rfl (fun K hK => ?_)
      go_simp
      refine (cA W hJ).mono ?_
      rintro e' W' ⟨rfl, hb'⟩
      exact hK _ _ ⟨rfl, hb'⟩
    | 5, ho, hv =>
      cases Option.some.inj ho
      cases Option.some.inj hv
      have h87 : A.tmps[87]?.getD undef = .string ⟨(T0).toArray⟩ := (gd A 87).trans (hhas 4 87 _ rfl (hdep ⟨4, .data⟩ (by simp) rfl))
      refine wpOp_step rfl (fun K hK => ?_)
      go_simp
      try rw [if_neg (by omega)]
      exact hK _ _ ⟨congrArg (A.put (some 88)) (str_of (by simp)), Below.refl _ _⟩
    | 6, ho, hv =>
      cases Option.some.inj ho
      cases Option.some.inj hv
      have h2 : A.tmps[2]?.getD undef = .pointer (some ⟨w.heap.size, 0, none⟩) := (gd A 2).trans (hkept 2 (by kernel_rfl))
      refine wpOp_step rfl (fun K hK => ?_)
      go_simp
      exact hK _ _ ⟨rfl, Below.refl _ _⟩
    | 7, ho, hv =>
      cases Option.some.inj ho
      cases Option.some.inj hv
      have h89 : A.tmps[89]?.getD undef = .pointer (some ⟨w.heap.size, 4, none⟩) := (gd A 89).trans (hhas 6 89 _ rfl (hdep ⟨6, .data⟩ (by simp) rfl))
      have z4W : W.cell? ⟨w.heap.size, 4, none⟩ = some (.slice (some ⟨g, o, none⟩) 2 c) := (hJ.cell (block_lt_of_cell z4)).trans z4
      refine wpOp_step rfl (fun K hK => ?_)
      go_simp
      exact hK _ _ ⟨rfl, Below.refl _ _⟩
    | 8, ho, hv =>
      cases Option.some.inj ho
      cases Option.some.inj hv
      have h90 : A.tmps[90]?.getD undef = .slice (some ⟨g, o, none⟩) 2 c := (gd A 90).trans (hhas 7 90 _ rfl (hdep ⟨7, .data⟩ (by simp) rfl))
      refine wpOp_step rfl (fun K hK => ?_)
      go_simp
      exact hK _ _ ⟨rfl, Below.refl _ _⟩
    | 9, ho, hv =>
      cases Option.some.inj ho
      cases Option.some.inj hv
      have h91 : A.tmps[91]?.getD undef = .pointer (some ⟨g, o + 5, none⟩) := (gd A 91).trans (hhas 8 91 _ rfl (hdep ⟨8, .data⟩ (by simp) rfl))
      have e0W : W.cell? ⟨g, o + 5, none⟩ = some (.int .i64 k1.kind) := (hJ.cell (block_lt_of_cell e0)).trans e0
      have e1W : W.cell? ⟨g, o + 6, none⟩ = some (.int .i64 k1.a) := (hJ.cell (block_lt_of_cell e1)).trans e1
      have e2W : W.cell? ⟨g, o + 7, none⟩ = some (.int .i64 k1.b) := (hJ.cell (block_lt_of_cell e2)).trans e2
      have e3W : W.cell? ⟨g, o + 8, none⟩ = some (.string ⟨k1.name.toArray⟩) := (hJ.cell (block_lt_of_cell e3)).trans e3
      have e4W : W.cell? ⟨g, o + 9, none⟩ = some (.slice p1 k1.kids.length q1) := (hJ.cell (block_lt_of_cell e4)).trans e4
      refine wpOp_step rfl (fun K hK => ?_)
      go_simp
      exact hK _ _ ⟨rfl, Below.refl _ _⟩
    | 10, ho, hv =>
      cases Option.some.inj ho
      cases Option.some.inj hv
      have h92 : A.tmps[92]?.getD undef = .agg #[.int .i64 k1.kind, .int .i64 k1.a, .int .i64 k1.b, .string ⟨k1.name.toArray⟩, .slice p1 k1.kids.length q1] := (gd A 92).trans (hhas 9 92 _ rfl (hdep ⟨9, .data⟩ (by simp) rfl))
      refine wpOp_step rfl (fun K hK => ?_)
      go_simp
      refine (cB W hJ).mono ?_
      rintro e' W' ⟨rfl, hb'⟩
      exact hK _ _ ⟨rfl, hb'⟩
    | 11, ho, hv =>
      cases Option.some.inj ho
      cases Option.some.inj hv
      have h88 : A.tmps[88]?.getD undef = .string ⟨(T0 ++ [32, 38, 32]).toArray⟩ := (gd A 88).trans (hhas 5 88 _ rfl (hdep ⟨5, .data⟩ (by simp) rfl))
      have h93 : A.tmps[93]?.getD undef = .string ⟨(T1).toArray⟩ := (gd A 93).trans (hhas 10 93 _ rfl (hdep ⟨10, .data⟩ (by simp) rfl))
      refine wpOp_step rfl (fun K hK => ?_)
      go_simp
      try rw [if_neg (by omega)]
      exact hK _ _ ⟨congrArg (A.put (some 94)) (str_of (by simp)), Below.refl _ _⟩
    | 12, ho, hv =>
      cases Option.some.inj ho
      cases Option.some.inj hv
      have h94 : A.tmps[94]?.getD undef = .string ⟨(T0 ++ 32 :: 38 :: 32 :: T1).toArray⟩ := (gd A 94).trans (hhas 11 94 _ rfl (hdep ⟨11, .data⟩ (by simp) rfl))
      refine wpOp_step rfl (fun K hK => ?_)
      go_simp
      exact hK _ _ ⟨rfl, Below.refl _ _⟩
    | 13, ho, hv =>
      cases Option.some.inj ho
      cases Option.some.inj hv
      refine wpOp_step rfl (fun K hK => ?_)
      go_simp
      exact hK _ _ ⟨rfl, Below.refl _ _⟩
    | k + 14, ho, hv => simp at ho
  · intro W hJ
    simp only [putAll_cons, putAll_nil]
    go_simp
    have hSl : (T0 ++ 32 :: 38 :: 32 :: T1).length ≤ 100000 := by simp; omega
    have HT' : Hid (TXT = brk (decide (1 < least)) (T0 ++ 32 :: 38 :: 32 :: T1)) := by show _ = _; rw [HT.out]; simp
    clear HT
    generalize T0 ++ 32 :: 38 :: 32 :: T1 = S0 at *
    have q1 : ¬ 9223372036854775807 < 1 + S0.length := by omega
    have q2 : ¬ 9223372036854775807 < 1 + S0.length + 1 := by omega
    by_cases hh : 1 < least
    · have hg : (1 : Int) < (least : Int) := by omega
      have e9 : TXT = [40] ++ S0 ++ [41] := by rw [HT'.out, decide_eq_true hh]; rfl
      go_wp2_with fail
      go_ret
      exact ⟨congrArg Ending.returned (str_of (by rw [e9]; simp)), hbA.trans (hJ.mono hbA.size)⟩
    · have hg : ¬ (1 : Int) < (least : Int) := by omega
      have e9 : TXT = S0 := by rw [HT'.out, decide_eq_false hh]; rfl
      go_wp2_with fail
      go_ret
      exact ⟨congrArg Ending.returned (str_of (by first | rfl | rw [e9])), hbA.trans (hJ.mono hbA.size)⟩
set_option maxRecDepth 100000 in
set_option maxHeartbeats 8000000 in
theorem text_step_9 (a b1 : Int) (name : List UInt8) (kids : List Ex) (p : Option Addr) (c : Nat) (w : World) (least : Nat) (hks : kids = [] ∨ KidsX w (.slice p kids.length c) kids) (hok : OKE ⟨9, a, b1, name, kids⟩) (hPT : ∀ w', Below w.heap.size w w' → PowT w') (hl9 : least ≤ 2) :
    Calls Tryd.prog 35 #[.agg #[.int .i64 9, .int .i64 a, .int .i64 b1, .string ⟨name.toArray⟩, .slice p kids.length c], .int .i64 (least : Int)] w (OutX (textE ⟨9, a, b1, name, kids⟩ least) w) := by
  have hr : rangeP 9 a b1 = true := hok.kinds.2.2.2.1
  obtain ⟨k0, hk0, ho0⟩ := hok.kid0 (show 1 ≤ kidsP 9 by decide)
  have hln : kids.length = 1 := hok.kinds.2.2.1
  have hne : kids ≠ [] := fun e => by rw [e] at hln; cases hln
  dsimp only at hk0
  simp [rangeP] at hr
  have HT : Hid (textE ⟨9, a, b1, name, kids⟩ least = brk (decide (holdP 9 < least)) (bareP ⟨9, a, b1, name, kids⟩ (kidT kids))) := textE_eq _ _
  rw [bare_9 rfl] at HT
  try dsimp only at HT
  rw [kidT_at hk0] at HT
  have HT2 : Hid (textE ⟨9, a, b1, name, kids⟩ least = brk (decide (2 < least)) (textE k0 3 ++ ([32, 115, 104, 105, 102, 116, 32] ++ Lib.itoa a))) := by
    show _ = _
    rw [HT.out, show decide (holdP 9 < least) = false from decide_eq_false (by show ¬ 3 < least; omega), show decide (2 < least) = false from decide_eq_false (by omega)]
  clear HT
  have HT := HT2
  clear HT2
  generalize textE ⟨9, a, b1, name, kids⟩ least = TXT at *
  obtain ⟨g, o, c', hsl, hkid⟩ := hks.resolve_left hne
  injection hsl with q1 q2 q3
  subst q1
  subst q3
  rw [hln]
  obtain ⟨p0, q0, d0', d1', d2', d3', d4', c0⟩ := hkid 0 k0 hk0
  clear hkid
  have hbA := (Below.refl w.heap.size w).alloc (Nat.le_refl _) (.cells #[.int .i64 9, .int .i64 a, .int .i64 b1, .string ⟨name.toArray⟩, .slice (some ⟨g, o, none⟩) 1 c] 60)
  have hxA := heap_alloc_new w (.cells #[.int .i64 9, .int .i64 a, .int .i64 b1, .string ⟨name.toArray⟩, .slice (some ⟨g, o, none⟩) 1 c] 60)
  generalize hwA : w.alloc (.cells #[.int .i64 9, .int .i64 a, .int .i64 b1, .string ⟨name.toArray⟩, .slice (some ⟨g, o, none⟩) 1 c] 60) = wA at *
  have z0 := (cell_of_row _ _ 0 _ _ _ hxA).trans rfl
  have d0 : wA.cell? ⟨g, o, none⟩ = _ := (hbA.cell (block_lt_of_cell d0')).trans d0'
  have d1 : wA.cell? ⟨g, o + 1, none⟩ = _ := (hbA.cell (block_lt_of_cell d1')).trans d1'
  have d2 : wA.cell? ⟨g, o + 2, none⟩ = _ := (hbA.cell (block_lt_of_cell d2')).trans d2'
  have d3 : wA.cell? ⟨g, o + 3, none⟩ = _ := (hbA.cell (block_lt_of_cell d3')).trans d3'
  have d4 : wA.cell? ⟨g, o + 4, none⟩ = _ := (hbA.cell (block_lt_of_cell d4')).trans d4'
  have z4 := (cell_of_row _ _ 4 _ _ _ hxA).trans rfl
  have z1 := (cell_of_row _ _ 1 _ _ _ hxA).trans rfl
  have cI := fun (W : World) (hJ : Below wA.heap.size wA W) => itoa_any a (by omega) (by omega) W (hPT W (hbA.trans (hJ.mono hbA.size)))
  have li := itoa_len (a := a) (by omega) (by omega)
  have l0 := ho0.len 3
  by_cases hk9 : k0.kind = 9
  · have cA := fun (W : World) (hJ : Below wA.heap.size wA W) => c0 W 2 (hbA.trans (hJ.mono hbA.size)) (by omega) (fun h => by first | omega | exact absurd h hk9)
    unfold OutX at cA
    rw [text9 hk9] at cA
    have hk9' : (k0.kind == 9) = true := by simpa using hk9
    clear c0 hok hks hk0 hln hne ho0 hPT hk9
    generalize textE k0 3 = T0 at *
    generalize Lib.itoa a = I at *
    go_enter Tryd.func35, Tryd.ntmps35
    go_wp2_with fail
    refine wp_region_vals (by kernel_rfl) (by kernel_rfl) (by kernel_rfl) (by kernel_rfl) [(103, .pointer (some ⟨w.heap.size, 4, none⟩)), (104, .slice (some ⟨g, o, none⟩) 1 c), (105, .pointer (some ⟨g, o, none⟩)), (106, .agg #[.int .i64 k0.kind, .int .i64 k0.a, .int .i64 k0.b, .string ⟨k0.name.toArray⟩, .slice p0 k0.kids.length q0]), (107, .int .i64 2), (108, .string ⟨(T0).toArray⟩), (109, .string ⟨(T0 ++ [32, 115, 104, 105, 102, 116, 32]).toArray⟩), (110, .pointer (some ⟨w.heap.size, 1, none⟩)), (111, .int .i64 a), (112, .string ⟨(I).toArray⟩), (113, .string ⟨(T0 ++ 32 :: 115 :: 104 :: 105 :: 102 :: 116 :: 32 :: I).toArray⟩), (5, .string ⟨(T0 ++ 32 :: 115 :: 104 :: 105 :: 102 :: 116 :: 32 :: I).toArray⟩), (6, .int .i64 2)] (by kernel_rfl) (by kernel_rfl) ?_ ?_
    · intro i s v o L A W ho hv hdep hJ hkept hhas
      match i, ho, hv with
      | 0, ho, hv =>
        cases Option.some.inj ho
        cases Option.some.inj hv
        have h2 : A.tmps[2]?.getD undef = .pointer (some ⟨w.heap.size, 0, none⟩) := (gd A 2).trans (hkept 2 (by kernel_rfl))
        refine wpOp_step rfl (fun K hK => ?_)
        go_simp
        exact hK _ _ ⟨rfl, Below.refl _ _⟩
      | 1, ho, hv =>
        cases Option.some.inj ho
        cases Option.some.inj hv
        have h103 : A.tmps[103]?.getD undef = .pointer (some ⟨w.heap.size, 4, none⟩) := (gd A 103).trans (hhas 0 103 _ rfl (hdep ⟨0, .data⟩ (by simp) rfl))
        have z4W : W.cell? ⟨w.heap.size, 4, none⟩ = some (.slice (some ⟨g, o, none⟩) 1 c) := (hJ.cell (block_lt_of_cell z4)).trans z4
        refine wpOp_step rfl (fun K hK => ?_)
        go_simp
        exact hK _ _ ⟨rfl, Below.refl _ _⟩
      | 2, ho, hv =>
        cases Option.some.inj ho
        cases Option.some.inj hv
        have h104 : A.tmps[104]?.getD undef = .slice (some ⟨g, o, none⟩) 1 c := (gd A 104).trans (hhas 1 104 _ rfl (hdep ⟨1, .data⟩ (by simp) rfl))
        refine wpOp_step rfl (fun K hK => ?_)
        go_simp
        exact hK _ _ ⟨rfl, Below.refl _ _⟩
      | 3, ho, hv =>
        cases Option.some.inj ho
        cases Option.some.inj hv
        have h105 : A.tmps[105]?.getD undef = .pointer (some ⟨g, o, none⟩) := (gd A 105).trans (hhas 2 105 _ rfl (hdep ⟨2, .data⟩ (by simp) rfl))
        have d0W : W.cell? ⟨g, o, none⟩ = some (.int .i64 k0.kind) := (hJ.cell (block_lt_of_cell d0)).trans d0
        have d1W : W.cell? ⟨g, o + 1, none⟩ = some (.int .i64 k0.a) := (hJ.cell (block_lt_of_cell d1)).trans d1
        have d2W : W.cell? ⟨g, o + 2, none⟩ = some (.int .i64 k0.b) := (hJ.cell (block_lt_of_cell d2)).trans d2
        have d3W : W.cell? ⟨g, o + 3, none⟩ = some (.string ⟨k0.name.toArray⟩) := (hJ.cell (block_lt_of_cell d3)).trans d3
        have d4W : W.cell? ⟨g, o + 4, none⟩ = some (.slice p0 k0.kids.length q0) := (hJ.cell (block_lt_of_cell d4)).trans d4
        refine wpOp_step rfl (fun K hK => ?_)
        go_simp
        exact hK _ _ ⟨rfl, Below.refl _ _⟩
      | 4, ho, hv =>
        cases Option.some.inj ho
        cases Option.some.inj hv
        have h7 : A.tmps[7]?.getD undef = .int .i64 2 := (gd A 7).trans (hkept 7 (by kernel_rfl))
        refine wpOp_step rfl (fun K hK => ?_)
        go_simp
        exact hK _ _ ⟨rfl, Below.refl _ _⟩
      | 5, ho, hv =>
        cases Option.some.inj ho
        cases Option.some.inj hv
        have h106 : A.tmps[106]?.getD undef = .agg #[.int .i64 k0.kind, .int .i64 k0.a, .int .i64 k0.b, .string ⟨k0.name.toArray⟩, .slice p0 k0.kids.length q0] := (gd A 106).trans (hhas 3 106 _ rfl (hdep ⟨3, .data⟩ (by simp) rfl))
        have h107 : A.tmps[107]?.getD undef = .int .i64 2 := (gd A 107).trans (hhas 4 107 _ rfl (hdep ⟨4, .data⟩ (by simp) rfl))
        refine wpOp_step rfl (fun K hK => ?_)
        go_simp
        refine (cA W hJ).mono ?_
        rintro e' W' ⟨rfl, hb'⟩
        exact hK _ _ ⟨rfl, hb'⟩
      | 6, ho, hv =>
        cases Option.some.inj ho
        cases Option.some.inj hv
        have h108 : A.tmps[108]?.getD undef = .string ⟨(T0).toArray⟩ := (gd A 108).trans (hhas 5 108 _ rfl (hdep ⟨5, .data⟩ (by simp) rfl))
        refine wpOp_step rfl (fun K hK => ?_)
        go_simp
        try rw [if_neg (by omega)]
        exact hK _ _ ⟨congrArg (A.put (some 109)) (str_of (by simp)), Below.refl _ _⟩
      | 7, ho, hv =>
        cases Option.some.inj ho
        cases Option.some.inj hv
        have h2 : A.tmps[2]?.getD undef = .pointer (some ⟨w.heap.size, 0, none⟩) := (gd A 2).trans (hkept 2 (by kernel_rfl))
        refine wpOp_step rfl (fun K hK => ?_)
        go_simp
        exact hK _ _ ⟨rfl, Below.refl _ _⟩
      | 8, ho, hv =>
        cases Option.some.inj ho
        cases Option.some.inj hv
        have h110 : A.tmps[110]?.getD undef = .pointer (some ⟨w.heap.size, 1, none⟩) := (gd A 110).trans (hhas 7 110 _ rfl (hdep ⟨7, .data⟩ (by simp) rfl))
        have z1W : W.cell? ⟨w.heap.size, 1, none⟩ = some (.int .i64 a) := (hJ.cell (block_lt_of_cell z1)).trans z1
        refine wpOp_step rfl (fun K hK => ?_)
        go_simp
        exact hK _ _ ⟨rfl, Below.refl _ _⟩
      | 9, ho, hv =>
        cases Option.some.inj ho
        cases Option.some.inj hv
        have h111 : A.tmps[111]?.getD undef = .int .i64 a := (gd A 111).trans (hhas 8 111 _ rfl (hdep ⟨8, .data⟩ (by simp) rfl))
        refine wpOp_step rfl (fun K hK => ?_)
        go_simp
        refine (cI W hJ).mono ?_
        rintro e' W' ⟨rfl, hb'⟩
        exact hK _ _ ⟨rfl, hb'⟩
      | 10, ho, hv =>
        cases Option.some.inj ho
        cases Option.some.inj hv
        have h109 : A.tmps[109]?.getD undef = .string ⟨(T0 ++ [32, 115, 104, 105, 102, 116, 32]).toArray⟩ := (gd A 109).trans (hhas 6 109 _ rfl (hdep ⟨6, .data⟩ (by simp) rfl))
        have h112 : A.tmps[112]?.getD undef = .string ⟨(I).toArray⟩ := (gd A 112).trans (hhas 9 112 _ rfl (hdep ⟨9, .data⟩ (by simp) rfl))
        refine wpOp_step rfl (fun K hK => ?_)
        go_simp
        try rw [if_neg (by omega)]
        exact hK _ _ ⟨congrArg (A.put (some 113)) (str_of (by simp)), Below.refl _ _⟩
      | 11, ho, hv =>
        cases Option.some.inj ho
        cases Option.some.inj hv
        have h113 : A.tmps[113]?.getD undef = .string ⟨(T0 ++ 32 :: 115 :: 104 :: 105 :: 102 :: 116 :: 32 :: I).toArray⟩ := (gd A 113).trans (hhas 10 113 _ rfl (hdep ⟨10, .data⟩ (by simp) rfl))
        refine wpOp_step rfl (fun K hK => ?_)
        go_simp
        exact hK _ _ ⟨rfl, Below.refl _ _⟩
      | 12, ho, hv =>
        cases Option.some.inj ho
        cases Option.some.inj hv
        refine wpOp_step rfl (fun K hK => ?_)
        go_simp
        exact hK _ _ ⟨rfl, Below.refl _ _⟩
      | k + 13, ho, hv => simp at ho
    · intro W hJ
      simp only [putAll_cons, putAll_nil]
      go_simp
      have hSl : (T0 ++ 32 :: 115 :: 104 :: 105 :: 102 :: 116 :: 32 :: I).length ≤ 100000 := by simp; omega
      have HT' : Hid (TXT = brk (decide (2 < least)) (T0 ++ 32 :: 115 :: 104 :: 105 :: 102 :: 116 :: 32 :: I)) := by show _ = _; rw [HT.out]; simp
      clear HT
      generalize T0 ++ 32 :: 115 :: 104 :: 105 :: 102 :: 116 :: 32 :: I = S0 at *
      have q1 : ¬ 9223372036854775807 < 1 + S0.length := by omega
      have q2 : ¬ 9223372036854775807 < 1 + S0.length + 1 := by omega
      by_cases hh : 2 < least
      · have hg : (2 : Int) < (least : Int) := by omega
        have e9 : TXT = [40] ++ S0 ++ [41] := by rw [HT'.out, decide_eq_true hh]; rfl
        go_wp2_with fail
        go_ret
        exact ⟨congrArg Ending.returned (str_of (by rw [e9]; simp)), hbA.trans (hJ.mono hbA.size)⟩
      · have hg : ¬ (2 : Int) < (least : Int) := by omega
        have e9 : TXT = S0 := by rw [HT'.out, decide_eq_false hh]; rfl
        go_wp2_with fail
        go_ret
        exact ⟨congrArg Ending.returned (str_of (by first | rfl | rw [e9])), hbA.trans (hJ.mono hbA.size)⟩
  · have cA := fun (W : World) (hJ : Below wA.heap.size wA W) => c0 W 3 (hbA.trans (hJ.mono hbA.size)) (by omega) (fun h => by first | omega | exact absurd h hk9)
    unfold OutX at cA

    have hk9' : (k0.kind == 9) = false := by simpa using hk9
    clear c0 hok hks hk0 hln hne ho0 hPT hk9
    generalize textE k0 3 = T0 at *
    generalize Lib.itoa a = I at *
    go_enter Tryd.func35, Tryd.ntmps35
    go_wp2_with fail
    refine wp_region_vals (by kernel_rfl) (by kernel_rfl) (by kernel_rfl) (by kernel_rfl) [(103, .pointer (some ⟨w.heap.size, 4, none⟩)), (104, .slice (some ⟨g, o, none⟩) 1 c), (105, .pointer (some ⟨g, o, none⟩)), (106, .agg #[.int .i64 k0.kind, .int .i64 k0.a, .int .i64 k0.b, .string ⟨k0.name.toArray⟩, .slice p0 k0.kids.length q0]), (107, .int .i64 3), (108, .string ⟨(T0).toArray⟩), (109, .string ⟨(T0 ++ [32, 115, 104, 105, 102, 116, 32]).toArray⟩), (110, .pointer (some ⟨w.heap.size, 1, none⟩)), (111, .int .i64 a), (112, .string ⟨(I).toArray⟩), (113, .string ⟨(T0 ++ 32 :: 115 :: 104 :: 105 :: 102 :: 116 :: 32 :: I).toArray⟩), (5, .string ⟨(T0 ++ 32 :: 115 :: 104 :: 105 :: 102 :: 116 :: 32 :: I).toArray⟩), (6, .int .i64 2)] (by kernel_rfl) (by kernel_rfl) ?_ ?_
    · intro i s v o L A W ho hv hdep hJ hkept hhas
      match i, ho, hv with
      | 0, ho, hv =>
        cases Option.some.inj ho
        cases Option.some.inj hv
        have h2 : A.tmps[2]?.getD undef = .pointer (some ⟨w.heap.size, 0, none⟩) := (gd A 2).trans (hkept 2 (by kernel_rfl))
        refine wpOp_step rfl (fun K hK => ?_)
        go_simp
        exact hK _ _ ⟨rfl, Below.refl _ _⟩
      | 1, ho, hv =>
        cases Option.some.inj ho
        cases Option.some.inj hv
        have h103 : A.tmps[103]?.getD undef = .pointer (some ⟨w.heap.size, 4, none⟩) := (gd A 103).trans (hhas 0 103 _ rfl (hdep ⟨0, .data⟩ (by simp) rfl))
        have z4W : W.cell? ⟨w.heap.size, 4, none⟩ = some (.slice (some ⟨g, o, none⟩) 1 c) := (hJ.cell (block_lt_of_cell z4)).trans z4
        refine wpOp_step rfl (fun K hK => ?_)
        go_simp
        exact hK _ _ ⟨rfl, Below.refl _ _⟩
      | 2, ho, hv =>
        cases Option.some.inj ho
        cases Option.some.inj hv
        have h104 : A.tmps[104]?.getD undef = .slice (some ⟨g, o, none⟩) 1 c := (gd A 104).trans (hhas 1 104 _ rfl (hdep ⟨1, .data⟩ (by simp) rfl))
        refine wpOp_step rfl (fun K hK => ?_)
        go_simp
        exact hK _ _ ⟨rfl, Below.refl _ _⟩
      | 3, ho, hv =>
        cases Option.some.inj ho
        cases Option.some.inj hv
        have h105 : A.tmps[105]?.getD undef = .pointer (some ⟨g, o, none⟩) := (gd A 105).trans (hhas 2 105 _ rfl (hdep ⟨2, .data⟩ (by simp) rfl))
        have d0W : W.cell? ⟨g, o, none⟩ = some (.int .i64 k0.kind) := (hJ.cell (block_lt_of_cell d0)).trans d0
        have d1W : W.cell? ⟨g, o + 1, none⟩ = some (.int .i64 k0.a) := (hJ.cell (block_lt_of_cell d1)).trans d1
        have d2W : W.cell? ⟨g, o + 2, none⟩ = some (.int .i64 k0.b) := (hJ.cell (block_lt_of_cell d2)).trans d2
        have d3W : W.cell? ⟨g, o + 3, none⟩ = some (.string ⟨k0.name.toArray⟩) := (hJ.cell (block_lt_of_cell d3)).trans d3
        have d4W : W.cell? ⟨g, o + 4, none⟩ = some (.slice p0 k0.kids.length q0) := (hJ.cell (block_lt_of_cell d4)).trans d4
        refine wpOp_step rfl (fun K hK => ?_)
        go_simp
        exact hK _ _ ⟨rfl, Below.refl _ _⟩
      | 4, ho, hv =>
        cases Option.some.inj ho
        cases Option.some.inj hv
        have h7 : A.tmps[7]?.getD undef = .int .i64 3 := (gd A 7).trans (hkept 7 (by kernel_rfl))
        refine wpOp_step rfl (fun K hK => ?_)
        go_simp
        exact hK _ _ ⟨rfl, Below.refl _ _⟩
      | 5, ho, hv =>
        cases Option.some.inj ho
        cases Option.some.inj hv
        have h106 : A.tmps[106]?.getD undef = .agg #[.int .i64 k0.kind, .int .i64 k0.a, .int .i64 k0.b, .string ⟨k0.name.toArray⟩, .slice p0 k0.kids.length q0] := (gd A 106).trans (hhas 3 106 _ rfl (hdep ⟨3, .data⟩ (by simp) rfl))
        have h107 : A.tmps[107]?.getD undef = .int .i64 3 := (gd A 107).trans (hhas 4 107 _ rfl (hdep ⟨4, .data⟩ (by simp) rfl))
        refine wpOp_step rfl (fun K hK => ?_)
        go_simp
        refine (cA W hJ).mono ?_
        rintro e' W' ⟨rfl, hb'⟩
        exact hK _ _ ⟨rfl, hb'⟩
      | 6, ho, hv =>
        cases Option.some.inj ho
        cases Option.some.inj hv
        have h108 : A.tmps[108]?.getD undef = .string ⟨(T0).toArray⟩ := (gd A 108).trans (hhas 5 108 _ rfl (hdep ⟨5, .data⟩ (by simp) rfl))
        refine wpOp_step rfl (fun K hK => ?_)
        go_simp
        try rw [if_neg (by omega)]
        exact hK _ _ ⟨congrArg (A.put (some 109)) (str_of (by simp)), Below.refl _ _⟩
      | 7, ho, hv =>
        cases Option.some.inj ho
        cases Option.some.inj hv
        have h2 : A.tmps[2]?.getD undef = .pointer (some ⟨w.heap.size, 0, none⟩) := (gd A 2).trans (hkept 2 (by kernel_rfl))
        refine wpOp_step rfl (fun K hK => ?_)
        go_simp
        exact hK _ _ ⟨rfl, Below.refl _ _⟩
      | 8, ho, hv =>
        cases Option.some.inj ho
        cases Option.some.inj hv
        have h110 : A.tmps[110]?.getD undef = .pointer (some ⟨w.heap.size, 1, none⟩) := (gd A 110).trans (hhas 7 110 _ rfl (hdep ⟨7, .data⟩ (by simp) rfl))
        have z1W : W.cell? ⟨w.heap.size, 1, none⟩ = some (.int .i64 a) := (hJ.cell (block_lt_of_cell z1)).trans z1
        refine wpOp_step rfl (fun K hK => ?_)
        go_simp
        exact hK _ _ ⟨rfl, Below.refl _ _⟩
      | 9, ho, hv =>
        cases Option.some.inj ho
        cases Option.some.inj hv
        have h111 : A.tmps[111]?.getD undef = .int .i64 a := (gd A 111).trans (hhas 8 111 _ rfl (hdep ⟨8, .data⟩ (by simp) rfl))
        refine wpOp_step rfl (fun K hK => ?_)
        go_simp
        refine (cI W hJ).mono ?_
        rintro e' W' ⟨rfl, hb'⟩
        exact hK _ _ ⟨rfl, hb'⟩
      | 10, ho, hv =>
        cases Option.some.inj ho
        cases Option.some.inj hv
        have h109 : A.tmps[109]?.getD undef = .string ⟨(T0 ++ [32, 115, 104, 105, 102, 116, 32]).toArray⟩ := (gd A 109).trans (hhas 6 109 _ rfl (hdep ⟨6, .data⟩ (by simp) rfl))
        have h112 : A.tmps[112]?.getD undef = .string ⟨(I).toArray⟩ := (gd A 112).trans (hhas 9 112 _ rfl (hdep ⟨9, .data⟩ (by simp) rfl))
        refine wpOp_step rfl (fun K hK => ?_)
        go_simp
        try rw [if_neg (by omega)]
        exact hK _ _ ⟨congrArg (A.put (some 113)) (str_of (by simp)), Below.refl _ _⟩
      | 11, ho, hv =>
        cases Option.some.inj ho
        cases Option.some.inj hv
        have h113 : A.tmps[113]?.getD undef = .string ⟨(T0 ++ 32 :: 115 :: 104 :: 105 :: 102 :: 116 :: 32 :: I).toArray⟩ := (gd A 113).trans (hhas 10 113 _ rfl (hdep ⟨10, .data⟩ (by simp) rfl))
        refine wpOp_step rfl (fun K hK => ?_)
        go_simp
        exact hK _ _ ⟨rfl, Below.refl _ _⟩
      | 12, ho, hv =>
        cases Option.some.inj ho
        cases Option.some.inj hv
        refine wpOp_step rfl (fun K hK => ?_)
        go_simp
        exact hK _ _ ⟨rfl, Below.refl _ _⟩
      | k + 13, ho, hv => simp at ho
    · intro W hJ
      simp only [putAll_cons, putAll_nil]
      go_simp
      have hSl : (T0 ++ 32 :: 115 :: 104 :: 105 :: 102 :: 116 :: 32 :: I).length ≤ 100000 := by simp; omega
      have HT' : Hid (TXT = brk (decide (2 < least)) (T0 ++ 32 :: 115 :: 104 :: 105 :: 102 :: 116 :: 32 :: I)) := by show _ = _; rw [HT.out]; simp
      clear HT
      generalize T0 ++ 32 :: 115 :: 104 :: 105 :: 102 :: 116 :: 32 :: I = S0 at *
      have q1 : ¬ 9223372036854775807 < 1 + S0.length := by omega
      have q2 : ¬ 9223372036854775807 < 1 + S0.length + 1 := by omega
      by_cases hh : 2 < least
      · have hg : (2 : Int) < (least : Int) := by omega
        have e9 : TXT = [40] ++ S0 ++ [41] := by rw [HT'.out, decide_eq_true hh]; rfl
        go_wp2_with fail
        go_ret
        exact ⟨congrArg Ending.returned (str_of (by rw [e9]; simp)), hbA.trans (hJ.mono hbA.size)⟩
      · have hg : ¬ (2 : Int) < (least : Int) := by omega
        have e9 : TXT = S0 := by rw [HT'.out, decide_eq_false hh]; rfl
        go_wp2_with fail
        go_ret
        exact ⟨congrArg Ending.returned (str_of (by first | rfl | rw [e9])), hbA.trans (hJ.mono hbA.size)⟩
end Go.Proofs.YtfibbmdkpgageaaDoor
