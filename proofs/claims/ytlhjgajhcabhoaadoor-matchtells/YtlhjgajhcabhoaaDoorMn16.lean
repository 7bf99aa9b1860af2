/- The law MatchTells, walked. Written by genmtg.py. -/
import Derived.Test.YtlhjgajhcabhoaaDoorMn15
import Derived.Test.YtlhjgajhcabhoaaDoorMn10
namespace Go.Proofs.YtlhjgajhcabhoaaDoor
open Go.RowKit Msk Mx

set_option maxRecDepth 100000 in
set_option maxHeartbeats 4000000 in
theorem mtells_walk (s : Sv) (rv : Value) (n : Int) (ds : List (List (Nat → Bool))) (dv : Value) (w : World) (hT : Tab w) (hl : -9223372036854775808 ≤ s.len ∧ s.len < 9223372036854775808) (hdl : ∀ d ∈ ds, d.length ≤ 1000000000000) (hR : RowRI w rv s.roles) (hD : RowDs w dv ds) :
    Calls Tryd.prog 3 #[svV s rv, .int .i64 n, dv] w fun e w' => e = .returned (.bool true) ∧ Below w.heap.size w w' := by
  obtain ⟨l, b, a, roles⟩ := s
  dsimp only at hR hl
  unfold svV
  dsimp only
  obtain ⟨pr, cr, rfl, hlr, hr0⟩ := id hR
  obtain ⟨pd, cd, rfl, hld, hd0⟩ := id hD
  clear hr0 hd0
  have bA := (Below.refl w.heap.size w).alloc (Nat.le_refl _) (.cells #[.int .i64 l, .int .i64 b, .int .i64 a, .slice pr roles.length cr] 24)
  have nA := heap_alloc_new w (.cells #[.int .i64 l, .int .i64 b, .int .i64 a, .slice pr roles.length cr] 24)
  generalize hwA : w.alloc (.cells #[.int .i64 l, .int .i64 b, .int .i64 a, .slice pr roles.length cr] 24) = wA at *
  have y0 := (cell_of_row _ _ 0 _ _ _ nA).trans rfl
  have y1 := (cell_of_row _ _ 1 _ _ _ nA).trans rfl
  have y2 := (cell_of_row _ _ 2 _ _ _ nA).trans rfl
  have y3 := (cell_of_row _ _ 3 _ _ _ nA).trans rfl
  have c1 := find_any ⟨l, b, a, roles⟩ _ ds _ wA (tab_below hT bA) (hR.below bA) (hD.below bA)
  unfold svV at c1
  dsimp only at c1
  obtain ⟨R, hRr⟩ : ∃ R, findP ⟨l, b, a, roles⟩ ds = R := ⟨_, rfl⟩
  rw [hRr] at c1
  have HRR := hidr hRr
  have HR0 := hidr hR
  have HD0 := hidr hD
  have HL := hidr hl
  have HDL := hidr hdl
  have HBA := hidr bA
  obtain ⟨er, sd, sm, swho⟩ := R
  clear bA hRr hl hdl hR hD hT
  go_enter Tryd.func3, Tryd.ntmps3
  go_wp2_with fail
  refine c1.mono ?_
  rintro e w2 ⟨sv, rfl, ho, b2⟩
  dsimp only at ho
  have HB2 := hidr (HBA.out.trans (b2.mono HBA.out.size))
  have n2 := (b2.block _ (lt_of_block nA)).trans nA
  have hlw : swho.length < 9223372036854775808 := by
    obtain ⟨_, h⟩ | ⟨_, cap, _, _, _, _, h1, h2, _⟩ := ho.2
    · omega
    · unfold maxLen at h2
      omega
  obtain ⟨ps, cs, rfl⟩ := owns_shape ho
  have bF := (Below.refl w2.heap.size w2).alloc (Nat.le_refl _) (.cells #[.int .i64 sd, .int .i64 sm, .slice ps swho.length cs] 28)
  have nF := heap_alloc_new w2 (.cells #[.int .i64 sd, .int .i64 sm, .slice ps swho.length cs] 28)
  have HIF := hidr (rowI_of_owns (owns_below ho bF) hlw)
  have HBF := hidr (HB2.out.trans (bF.mono HB2.out.size))
  have n3 := (bF.block _ (lt_of_block n2)).trans n2
  generalize hwF : w2.alloc (.cells #[.int .i64 sd, .int .i64 sm, .slice ps swho.length cs] 28) = wF at *
  obtain ⟨gF, hgF⟩ : ∃ q, w2.heap.size = q := ⟨_, rfl⟩
  rw [hgF] at nF
  clear c1 ho b2 bF nA n2 y0 y1 y2 y3 hwA
  have y0 := (cell_of_row _ _ 0 _ _ _ n3).trans rfl
  have y1 := (cell_of_row _ _ 1 _ _ _ n3).trans rfl
  have y2 := (cell_of_row _ _ 2 _ _ _ n3).trans rfl
  have y3 := (cell_of_row _ _ 3 _ _ _ n3).trans rfl
  have c2 := rfind_any ⟨l, b, a, roles⟩ _ ds _ wF HL.out HDL.out (HR0.out.below HBF.out) (HD0.out.below HBF.out)
  unfold svV at c2
  dsimp only at c2
  rw [HRR.out] at c2
  go_wp2_with fail
  refine c2.mono ?_
  rintro e w4 ⟨sv, rfl, hi4, b4⟩
  dsimp only at hi4
  have HB4 := hidr (HBF.out.trans (b4.mono HBF.out.size))
  have n4 := (b4.block _ (lt_of_block n3)).trans n3
  have nF4 := (b4.block _ (lt_of_block nF)).trans nF
  obtain ⟨pt, ct, et, _, _⟩ := id hi4
  subst et
  have bH := (Below.refl w4.heap.size w4).alloc (Nat.le_refl _) (.cells #[.int .i64 sd, .int .i64 sm, .slice pt swho.length ct] 28)
  have nH := heap_alloc_new w4 (.cells #[.int .i64 sd, .int .i64 sm, .slice pt swho.length ct] 28)
  have HIH := hidr (hi4.below bH)
  have HIF5 := hidr ((HIF.out.below b4).below bH)
  have HBH := hidr (HB4.out.trans (bH.mono HB4.out.size))
  have n5 := (bH.block _ (lt_of_block n4)).trans n4
  have nF5 := (bH.block _ (lt_of_block nF4)).trans nF4
  generalize hwH : w4.alloc (.cells #[.int .i64 sd, .int .i64 sm, .slice pt swho.length ct] 28) = wH at *
  obtain ⟨gH, hgH⟩ : ∃ q, w4.heap.size = q := ⟨_, rfl⟩
  rw [hgH] at nH
  obtain ⟨wz, hwz⟩ : ∃ q, wrongS ⟨l, b, a, roles⟩ n = q := ⟨_, rfl⟩
  have cW : ∀ W2, Below wH.heap.size wH W2 → Calls Tryd.prog 10 #[.agg #[.int .i64 l, .int .i64 b, .int .i64 a, .slice pr roles.length cr], .int .i64 n] W2 fun e w' => e = .returned (.int .i64 wz) ∧ Below W2.heap.size W2 w' := fun W2 hJ => by
    have c := mwrong_any ⟨l, b, a, roles⟩ _ n W2 ((HR0.out.below HBH.out).below hJ)
    rw [hwz] at c
    exact c
  have cR : ∀ W2, Below wH.heap.size wH W2 → Calls Tryd.prog 11 #[.agg #[.int .i64 l, .int .i64 b, .int .i64 a, .slice pr roles.length cr], .int .i64 n] W2 fun e w' => e = .returned (.int .i64 wz) ∧ Below W2.heap.size W2 w' := fun W2 hJ => by
    have c := rwrongsv_any ⟨l, b, a, roles⟩ _ n W2 HL.out ((HR0.out.below HBH.out).below hJ)
    rw [hwz] at c
    exact c
  have cS : ∀ W2, Below wH.heap.size wH W2 → Calls Tryd.prog 12 #[.agg #[.int .i64 sd, .int .i64 sm, .slice ps swho.length cs], .agg #[.int .i64 sd, .int .i64 sm, .slice pt swho.length ct]] W2 fun e w' => e = .returned (.bool true) ∧ Below W2.heap.size W2 w' := fun W2 hJ => sameSlot_any sd sm swho _ _ W2 (HIF5.out.below hJ) (HIH.out.below hJ)
  clear c2 hi4 b4 bH n3 n4 nF nF4 y0 y1 y2 y3 hwz hwF
  go_wp2_with fail
  refine wp_region_JL (fun _ W => Below wH.heap.size wH W) (fun L _ => (Below.refl _ _).drew) (by kernel_rfl) (by kernel_rfl) (by kernel_rfl) (by kernel_rfl) [(some 23, .agg #[.int .i64 l, .int .i64 b, .int .i64 a, .slice pr roles.length cr]), (some 24, .int .i64 n), (some 25, .int .i64 wz), (some 26, .agg #[.int .i64 l, .int .i64 b, .int .i64 a, .slice pr roles.length cr]), (some 27, .int .i64 n), (some 28, .int .i64 wz), (some 29, .bool true), (some 30, .bool true), (some 31, .int .i64 er), (some 32, .int .i64 er), (some 33, .bool true), (some 34, .bool true), (some 35, .bool true), (some 36, .agg #[.int .i64 sd, .int .i64 sm, .slice ps swho.length cs]), (some 37, .agg #[.int .i64 sd, .int .i64 sm, .slice pt swho.length ct]), (some 38, .bool true), (some 39, .bool true), (some 6, .bool true)] [(23, .agg #[.int .i64 l, .int .i64 b, .int .i64 a, .slice pr roles.length cr]), (24, .int .i64 n), (25, .int .i64 wz), (26, .agg #[.int .i64 l, .int .i64 b, .int .i64 a, .slice pr roles.length cr]), (27, .int .i64 n), (28, .int .i64 wz), (29, .bool true), (30, .bool true), (31, .int .i64 er), (32, .int .i64 er), (33, .bool true), (34, .bool true), (35, .bool true), (36, .agg #[.int .i64 sd, .int .i64 sm, .slice ps swho.length cs]), (37, .agg #[.int .i64 sd, .int .i64 sm, .slice pt swho.length ct]), (38, .bool true), (39, .bool true), (6, .bool true)] (by kernel_rfl) (by kernel_rfl) (by kernel_rfl) ?_ ?_
  · intro i' d v o' L A W2 ho hv hLi hdep hc hJ hkept hhas
    match i', ho, hv, hLi with
    | 0, ho, hv, hLi =>
      cases Option.some.inj ho
      cases Option.some.inj hv
      have h3 : A.eval (.tmp 3) = .pointer (some ⟨w.heap.size, 0, none⟩) := hkept 3 (by kernel_rfl)
      refine wpOp_step rfl (fun K hK => ?_)
      show Oper.wp _ _ _ _ _ _
      refine wp_load_row 24 _ rfl _ h3 _ _ _ _ ((hJ.block _ (lt_of_block n5)).trans n5) svTypeM rfl (by kernel_rfl) ?_
      exact hK _ _ ⟨rfl, hJ⟩
    | 1, ho, hv, hLi =>
      cases Option.some.inj ho
      cases Option.some.inj hv
      have h1 : A.tmps[1]?.getD undef = .int .i64 n := (gd A 1).trans (hkept 1 (by kernel_rfl))
      refine wpOp_step rfl (fun K hK => ?_)
      go_simp
      exact hK _ _ ⟨rfl, hJ⟩
    | 2, ho, hv, hLi =>
      cases Option.some.inj ho
      cases Option.some.inj hv
      have h23 : A.tmps[23]?.getD undef = .agg #[.int .i64 l, .int .i64 b, .int .i64 a, .slice pr roles.length cr] := (gd A 23).trans (hhas 0 23 _ rfl (hdep ⟨0, .data⟩ (by simp) rfl))
      have h24 : A.tmps[24]?.getD undef = .int .i64 n := (gd A 24).trans (hhas 1 24 _ rfl (hdep ⟨1, .data⟩ (by simp) rfl))
      refine wpOp_step rfl (fun K hK => ?_)
      go_simp
      refine (cW W2 hJ).mono ?_
      rintro r' W' ⟨rfl, hb'⟩
      exact hK _ _ ⟨rfl, hJ.trans (hb'.mono hJ.size)⟩
    | 3, ho, hv, hLi =>
      cases Option.some.inj ho
      cases Option.some.inj hv
      have h3 : A.eval (.tmp 3) = .pointer (some ⟨w.heap.size, 0, none⟩) := hkept 3 (by kernel_rfl)
      refine wpOp_step rfl (fun K hK => ?_)
      show Oper.wp _ _ _ _ _ _
      refine wp_load_row 24 _ rfl _ h3 _ _ _ _ ((hJ.block _ (lt_of_block n5)).trans n5) svTypeM rfl (by kernel_rfl) ?_
      exact hK _ _ ⟨rfl, hJ⟩
    | 4, ho, hv, hLi =>
      cases Option.some.inj ho
      cases Option.some.inj hv
      have h1 : A.tmps[1]?.getD undef = .int .i64 n := (gd A 1).trans (hkept 1 (by kernel_rfl))
      refine wpOp_step rfl (fun K hK => ?_)
      go_simp
      exact hK _ _ ⟨rfl, hJ⟩
    | 5, ho, hv, hLi =>
      cases Option.some.inj ho
      cases Option.some.inj hv
      have h26 : A.tmps[26]?.getD undef = .agg #[.int .i64 l, .int .i64 b, .int .i64 a, .slice pr roles.length cr] := (gd A 26).trans (hhas 3 26 _ rfl (hdep ⟨3, .data⟩ (by simp) rfl))
      have h27 : A.tmps[27]?.getD undef = .int .i64 n := (gd A 27).trans (hhas 4 27 _ rfl (hdep ⟨4, .data⟩ (by simp) rfl))
      refine wpOp_step rfl (fun K hK => ?_)
      go_simp
      refine (cR W2 hJ).mono ?_
      rintro r' W' ⟨rfl, hb'⟩
      exact hK _ _ ⟨rfl, hJ.trans (hb'.mono hJ.size)⟩
    | 6, ho, hv, hLi =>
      cases Option.some.inj ho
      cases Option.some.inj hv
      have h25 : A.tmps[25]?.getD undef = .int .i64 wz := (gd A 25).trans (hhas 2 25 _ rfl (hdep ⟨2, .data⟩ (by simp) rfl))
      have h28 : A.tmps[28]?.getD undef = .int .i64 wz := (gd A 28).trans (hhas 5 28 _ rfl (hdep ⟨5, .data⟩ (by simp) rfl))
      refine wpOp_step rfl (fun K hK => ?_)
      go_simp
      exact hK _ _ ⟨rfl, hJ⟩
    | 7, ho, hv, hLi =>
      cases Option.some.inj ho
      cases Option.some.inj hv
      have h29 : A.tmps[29]?.getD undef = .bool true := (gd A 29).trans (hhas 6 29 _ rfl (hdep ⟨6, .data⟩ (by simp) rfl))
      refine wpOp_step rfl (fun K hK => ?_)
      go_simp
      exact hK _ _ ⟨rfl, hJ⟩
    | 8, ho, hv, hLi =>
      cases Option.some.inj ho
      cases Option.some.inj hv
      have hG : A.tmps[30]? = some (.bool true) := gdb (hhas 7 30 _ rfl (hdep ⟨7, .guard⟩ (by simp) rfl))
      have h8 : A.tmps[8]?.getD undef = .int .i64 er := (gd A 8).trans (hkept 8 (by kernel_rfl))
      refine wpOp_step rfl (fun K hK => ?_)
      go_simp
      exact hK _ _ ⟨rfl, hJ⟩
    | 9, ho, hv, hLi =>
      cases Option.some.inj ho
      cases Option.some.inj hv
      have hG : A.tmps[30]? = some (.bool true) := gdb (hhas 7 30 _ rfl (hdep ⟨7, .guard⟩ (by simp) rfl))
      have h10 : A.tmps[10]?.getD undef = .int .i64 er := (gd A 10).trans (hkept 10 (by kernel_rfl))
      refine wpOp_step rfl (fun K hK => ?_)
      go_simp
      exact hK _ _ ⟨rfl, hJ⟩
    | 10, ho, hv, hLi =>
      cases Option.some.inj ho
      cases Option.some.inj hv
      have hG : A.tmps[30]? = some (.bool true) := gdb (hhas 7 30 _ rfl (hdep ⟨7, .guard⟩ (by simp) rfl))
      have h31 : A.tmps[31]?.getD undef = .int .i64 er := (gd A 31).trans (hhas 8 31 _ rfl (hdep ⟨8, .data⟩ (by simp) rfl))
      have h32 : A.tmps[32]?.getD undef = .int .i64 er := (gd A 32).trans (hhas 9 32 _ rfl (hdep ⟨9, .data⟩ (by simp) rfl))
      refine wpOp_step rfl (fun K hK => ?_)
      go_simp
      exact hK _ _ ⟨rfl, hJ⟩
    | 11, ho, hv, hLi =>
      cases Option.some.inj ho
      cases Option.some.inj hv
      have h30 : A.tmps[30]?.getD undef = .bool true := (gd A 30).trans (hhas 7 30 _ rfl (hdep ⟨7, .data⟩ (by simp) rfl))
      have h33 : A.tmps[33]?.getD undef = .bool true := (gd A 33).trans (hhas 10 33 _ rfl (hdep ⟨10, .data⟩ (by simp) rfl))
      refine wpOp_step rfl (fun K hK => ?_)
      go_simp
      exact hK _ _ ⟨rfl, hJ⟩
    | 12, ho, hv, hLi =>
      cases Option.some.inj ho
      cases Option.some.inj hv
      have h34 : A.tmps[34]?.getD undef = .bool true := (gd A 34).trans (hhas 11 34 _ rfl (hdep ⟨11, .data⟩ (by simp) rfl))
      refine wpOp_step rfl (fun K hK => ?_)
      go_simp
      exact hK _ _ ⟨rfl, hJ⟩
    | 13, ho, hv, hLi =>
      cases Option.some.inj ho
      cases Option.some.inj hv
      have hG : A.tmps[35]? = some (.bool true) := gdb (hhas 12 35 _ rfl (hdep ⟨12, .guard⟩ (by simp) rfl))
      have h7 : A.eval (.tmp 7) = .pointer (some ⟨gF, 0, none⟩) := hkept 7 (by kernel_rfl)
      refine wpOp_step rfl (fun K hK => ?_)
      rw [if_pos (by simp [Region.wanted, yielded, hG])]
      refine wp_load_row 28 _ rfl _ h7 _ _ _ _ ((hJ.block _ (lt_of_block nF5)).trans nF5) slotType rfl (by kernel_rfl) ?_
      exact hK _ _ ⟨rfl, hJ⟩
    | 14, ho, hv, hLi =>
      cases Option.some.inj ho
      cases Option.some.inj hv
      have hG : A.tmps[35]? = some (.bool true) := gdb (hhas 12 35 _ rfl (hdep ⟨12, .guard⟩ (by simp) rfl))
      have h9 : A.eval (.tmp 9) = .pointer (some ⟨gH, 0, none⟩) := hkept 9 (by kernel_rfl)
      refine wpOp_step rfl (fun K hK => ?_)
      rw [if_pos (by simp [Region.wanted, yielded, hG])]
      refine wp_load_row 28 _ rfl _ h9 _ _ _ _ ((hJ.block _ (lt_of_block nH)).trans nH) slotType rfl (by kernel_rfl) ?_
      exact hK _ _ ⟨rfl, hJ⟩
    | 15, ho, hv, hLi =>
      cases Option.some.inj ho
      cases Option.some.inj hv
      have hG : A.tmps[35]? = some (.bool true) := gdb (hhas 12 35 _ rfl (hdep ⟨12, .guard⟩ (by simp) rfl))
      have h36 : A.tmps[36]?.getD undef = .agg #[.int .i64 sd, .int .i64 sm, .slice ps swho.length cs] := (gd A 36).trans (hhas 13 36 _ rfl (hdep ⟨13, .data⟩ (by simp) rfl))
      have h37 : A.tmps[37]?.getD undef = .agg #[.int .i64 sd, .int .i64 sm, .slice pt swho.length ct] := (gd A 37).trans (hhas 14 37 _ rfl (hdep ⟨14, .data⟩ (by simp) rfl))
      refine wpOp_step rfl (fun K hK => ?_)
      go_simp
      refine (cS W2 hJ).mono ?_
      rintro r' W' ⟨rfl, hb'⟩
      exact hK _ _ ⟨rfl, hJ.trans (hb'.mono hJ.size)⟩
    | 16, ho, hv, hLi =>
      cases Option.some.inj ho
      cases Option.some.inj hv
      have h35 : A.tmps[35]?.getD undef = .bool true := (gd A 35).trans (hhas 12 35 _ rfl (hdep ⟨12, .data⟩ (by simp) rfl))
      have h38 : A.tmps[38]?.getD undef = .bool true := (gd A 38).trans (hhas 15 38 _ rfl (hdep ⟨15, .data⟩ (by simp) rfl))
      refine wpOp_step rfl (fun K hK => ?_)
      go_simp
      exact hK _ _ ⟨rfl, hJ⟩
    | 17, ho, hv, hLi =>
      cases Option.some.inj ho
      cases Option.some.inj hv
      have h39 : A.tmps[39]?.getD undef = .bool true := (gd A 39).trans (hhas 16 39 _ rfl (hdep ⟨16, .data⟩ (by simp) rfl))
      refine wpOp_step rfl (fun K hK => ?_)
      go_simp
      exact hK _ _ ⟨rfl, hJ⟩
    | kk + 18, ho, hv, hLi => simp at hv
  · intro L W5 hL hJ
    simp only [putAll_cons, putAll_nil, Act.put, List.setIfInBounds_toArray, List.set_cons_succ, List.set_cons_zero]
    clear hL
    have HB5 := hidr (HBH.out.trans (hJ.mono HBH.out.size))
    clear hJ
    go_wp2_with fail
    go_ret
    exact ⟨rfl, HB5.out⟩
end Go.Proofs.YtlhjgajhcabhoaaDoor

/- A service that came in, with its length's range. -/
namespace Go.Proofs.YtlhjgajhcabhoaaDoor
open Go.ChangeShapes Go.WideShapes Go.ChangeAt Go.WideMaps Go.WideElems Go.RowKit Go.Joins Msk Mx
variable {H : Type} {enc : TypeId × Value → H} {W : World}

set_option maxRecDepth 100000 in
theorem open_serviceR {r : Reach} {b0 : Nat} {v : Value} {d : DataW H} {q : List MemPlace} (hv : Value.okWide Tryd.prog W r b0 24 v) (h : DataW.Trod enc Tryd.prog W 0 (fun _ => true) true 24 v d q) : ∃ (s : Sv) (rv : Value), v = svV s rv ∧ RowRI W rv s.roles ∧ -9223372036854775808 ≤ s.len ∧ s.len < 9223372036854775808 := by
  obtain ⟨cs, rfl, _⟩ := okWide_struct Tryd.underlying24 hv
  obtain ⟨fuel, hf⟩ := h
  obtain ⟨xs, m, _, _, hl, hx, hall⟩ := DataW.trod_struct Tryd.underlying24 hf
  rw [cSv9] at hl
  have hx4 : xs.length = 4 := hx
  have hcs : (Value.agg cs).cells.toList = cs.toList := rfl
  rw [hcs] at hl hall
  obtain ⟨c0, c1, c2, c3, hcs2⟩ := four9 hl
  obtain ⟨x0, x1, x2, x3, rfl⟩ := four9 hx4
  rw [hcs2] at hall
  have h0 : DataW.trod enc Tryd.prog W 0 (fun _ => true) true m 3 (([c0, c1, c2, c3].drop 0).take (Tryd.prog.cellsOf 3)) = some x0 := hall 0 _ rfl
  have h1 : DataW.trod enc Tryd.prog W 0 (fun _ => true) true m 3 (([c0, c1, c2, c3].drop 1).take (Tryd.prog.cellsOf 3)) = some x1 := hall 1 _ rfl
  have h2 : DataW.trod enc Tryd.prog W 0 (fun _ => true) true m 3 (([c0, c1, c2, c3].drop 2).take (Tryd.prog.cellsOf 3)) = some x2 := hall 2 _ rfl
  have h3 : DataW.trod enc Tryd.prog W 0 (fun _ => true) true m 22 (([c0, c1, c2, c3].drop 3).take (Tryd.prog.cellsOf 22)) = some x3 := hall 3 _ rfl
  rw [cN9] at h0 h1 h2
  rw [cIss9] at h3
  obtain ⟨a, e0, _, hw⟩ := DataW.trod_int Tryd.underlying3 h0
  obtain ⟨b, e1, _⟩ := DataW.trod_int Tryd.underlying3 h1
  obtain ⟨c, e2, _⟩ := DataW.trod_int Tryd.underlying3 h2
  obtain ⟨sl, l, e3, hr⟩ := open_intss9 h3
  simp at e0 e1 e2 e3
  subst e0 e1 e2 e3
  have hrange : -9223372036854775808 ≤ a ∧ a < 9223372036854775808 := by
    have h1 : IntKind.i64.min ≤ a ∧ a ≤ IntKind.i64.max := by simpa [Lit.wf] using hw
    have h2 : IntKind.i64.min = -9223372036854775808 := by decide
    have h3 : IntKind.i64.max = 9223372036854775807 := by decide
    omega
  refine ⟨⟨a, b, c, l⟩, c3, ?_, hr, hrange⟩
  unfold svV
  congr 1
  exact Array.toList_inj.1 hcs2
end Go.Proofs.YtlhjgajhcabhoaaDoor
