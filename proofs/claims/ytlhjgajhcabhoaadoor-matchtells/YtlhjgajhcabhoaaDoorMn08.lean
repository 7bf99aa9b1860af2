/- What the laws' fits comes to. Written by genmaj.py. -/
import Derived.Test.YtlhjgajhcabhoaaDoorMn07
namespace Go.Proofs.YtlhjgajhcabhoaaDoor
open Go.RowKit Msk Mx Lx

/-- One by one: in its pool, not there yet, free. -/
def fitG (roles : List (List Int)) (fs : List (Nat → Bool)) (x y : Int) : List Int → Nat → List Int → Bool
  | [], _, _ => true
  | r :: l, i, had => if r ∉ roles.getD i [] ∨ r ∈ had ∨ okP fs x y r = false then false else fitG roles fs x y l (i + 1) (addN had r)
def fitB (s : Sv) (ds : List (List (Nat → Bool))) (day min : Int) (who : List Int) : Bool := if day < 0 ∨ (ds.length : Int) ≤ day ∨ who.length ≠ s.roles.length then false else fitG s.roles (ds.getD day.toNat []) (min - s.bef) (min + s.len + s.aft) who 0 []
theorem fitG_step {roles : List (List Int)} {fs : List (Nat → Bool)} {x y : Int} {l : List Int} {j : Nat} {r : Int} (h : l[j]? = some r) (i : Nat) (had : List Int) : fitG roles fs x y (l.drop j) i had = if r ∉ roles.getD i [] ∨ r ∈ had ∨ okP fs x y r = false then false else fitG roles fs x y (l.drop (j + 1)) (i + 1) (addN had r) := by
  obtain ⟨h1, h2⟩ := List.getElem?_eq_some_iff.1 h
  rw [List.drop_eq_getElem_cons h1, h2]; rfl
set_option maxRecDepth 100000 in
set_option maxHeartbeats 2000000 in
theorem fits_any (s : Sv) (rv : Value) (ds : List (List (Nat → Bool))) (dv : Value) (day min : Int) (who : List Int) (wv : Value) (w : World) (hR : RowRI w rv s.roles) (hD : RowDs w dv ds) (hW : RowI w wv who) (hok : ∀ (d : Nat) fs, day = (d : Int) → ds[d]? = some fs → SvOK s fs.length) (hm0 : -1000000 ≤ min) (hm1 : min ≤ 1000000) :
    Calls Tryd.prog 14 #[svV s rv, dv, .agg #[.int .i64 day, .int .i64 min, wv]] w fun e w' => e = .returned (.bool (fitB s ds day min who)) ∧ Below w.heap.size w w' := by
  obtain ⟨l, b, a, roles⟩ := s
  dsimp only at hR
  unfold svV
  dsimp only
  obtain ⟨pr, cr, rfl, hlr, hr0⟩ := id hR
  obtain ⟨pw, cw, rfl, hlw, hw0⟩ := id hW
  clear hr0 hw0
  have bA : Below w.heap.size w ((w.alloc (.cells #[.int .i64 l, .int .i64 b, .int .i64 a, .slice pr roles.length cr] 24)).alloc (.cells #[.int .i64 day, .int .i64 min, .slice pw who.length cw] 28)) := ((Below.refl _ _).alloc (Nat.le_refl _) _).alloc (by simp) _
  have nA : ((w.alloc (.cells #[.int .i64 l, .int .i64 b, .int .i64 a, .slice pr roles.length cr] 24)).alloc (.cells #[.int .i64 day, .int .i64 min, .slice pw who.length cw] 28)).heap[w.heap.size]? = some (.cells #[.int .i64 l, .int .i64 b, .int .i64 a, .slice pr roles.length cr] 24 (0, 0)) := by (repeat (first | refine blk_old _ _ _ (by simp only [size_alloc]; omega) ?_ | exact blk_new _ _ _ (by first | rfl | simp only [size_alloc])))
  have nS : ((w.alloc (.cells #[.int .i64 l, .int .i64 b, .int .i64 a, .slice pr roles.length cr] 24)).alloc (.cells #[.int .i64 day, .int .i64 min, .slice pw who.length cw] 28)).heap[w.heap.size + 1]? = some (.cells #[.int .i64 day, .int .i64 min, .slice pw who.length cw] 28 (0, 0)) := by (repeat (first | refine blk_old _ _ _ (by simp only [size_alloc]; omega) ?_ | exact blk_new _ _ _ (by first | rfl | simp only [size_alloc])))
  generalize hwA : (w.alloc (.cells #[.int .i64 l, .int .i64 b, .int .i64 a, .slice pr roles.length cr] 24)).alloc (.cells #[.int .i64 day, .int .i64 min, .slice pw who.length cw] 28) = wA at *
  have HR := hidr (hR.below bA)
  have HD := hidr (hD.below bA)
  have HW := hidr (hW.below bA)
  have HB := hidr bA
  have HOKS := hidr hok
  obtain ⟨pd, cd, rfl, hld, _⟩ := hD
  have z0 := (cell_of_row _ _ 0 _ _ _ nS).trans rfl
  have z2 := (cell_of_row _ _ 2 _ _ _ nS).trans rfl
  have z3 := (cell_of_row _ _ 3 _ _ _ nA).trans rfl
  clear bA hR hW hok
  have no : (day < 0 ∨ (ds.length : Int) ≤ day ∨ who.length ≠ roles.length) → Hid (fitB ⟨l, b, a, roles⟩ ds day min who = false) := fun h => by
    show _ = _
    unfold fitB
    exact if_pos h
  by_cases h1 : day < 0
  · have HN := no (.inl h1)
    clear no
    go_enter Tryd.func14, Tryd.ntmps14
    go_wp2_with fail
    go_ret
    exact ⟨by (rw [HN.out]) <;> rfl, HB.out⟩
  by_cases h2 : (ds.length : Int) ≤ day
  · have HN := no (.inr (.inl h2))
    clear no
    go_enter Tryd.func14, Tryd.ntmps14
    go_wp2_with fail
    go_ret
    exact ⟨by (rw [HN.out]) <;> rfl, HB.out⟩
  by_cases h3 : who.length = roles.length
  case neg =>
    have HN := no (.inr (.inr h3))
    have h3' : ((who.length : Int) == (roles.length : Int)) = false := by rw [beq_eq_false_iff_ne]; omega
    clear no h3
    go_enter Tryd.func14, Tryd.ntmps14
    go_wp2_with fail
    go_ret
    exact ⟨by (rw [HN.out]) <;> rfl, HB.out⟩
  have h3' : ((who.length : Int) == (roles.length : Int)) = true := by rw [beq_iff_eq]; omega
  obtain ⟨dn, hdn⟩ : ∃ dn : Nat, day = (dn : Int) := ⟨day.toNat, by omega⟩
  subst hdn
  obtain ⟨fs, hfs⟩ : ∃ fs, ds[dn]? = some fs := ⟨ds[dn]'(by omega), List.getElem?_eq_getElem (by omega)⟩
  have hS := HOKS.out dn fs rfl hfs
  have HS := hidr hS
  have HX0 : Hid (fitB ⟨l, b, a, roles⟩ ds (dn : Int) min who = fitG roles fs (min - b) (min + l + a) (who.drop 0) 0 []) := by
    show _ = _
    unfold fitB
    rw [if_neg (by simp only [h3]; omega)]
    congr 1
    simp [List.getD, hfs]
  have hme := hS.meas
  unfold measB at hme
  have hme := of_decide_eq_true hme
  have e1 : IntKind.i64.wrap (min - b) = min - b := by rw [IntKind.wrap_i64]; dsimp only at hme; omega
  have e2 : IntKind.i64.wrap (min + l) = min + l := by rw [IntKind.wrap_i64]; dsimp only at hme; omega
  have e3 : IntKind.i64.wrap (min + l + a) = min + l + a := by rw [IntKind.wrap_i64]; dsimp only at hme; omega
  have HFS := hidr hfs
  have H3 := hidr h3
  clear no hS hme HOKS hfs h3
  have hmk := makeB wA
  have bM := (Below.refl wA.heap.size wA).alloc (Nat.le_refl _) (.map #[] 0)
  have nM := heap_alloc_new wA (.map #[] 0)
  generalize hwM : wA.alloc (.map #[] 0) = wM at *
  have HM0 : Hid (MapB wM wA.heap.size []) := ⟨#[], 0, nM, rfl⟩
  obtain ⟨gm, hgme⟩ : ∃ q, wA.heap.size = q := ⟨_, rfl⟩
  have hgm : wA.heap.size ≤ gm := by omega
  rw [hgme] at HM0
  have HBM := hidr bM
  have zz2 := (bM.cell (block_lt_of_cell z2)).trans z2
  clear bM nM
  go_enter Tryd.func14, Tryd.ntmps14
  go_wp2_with fail
  go_loopw [36] (fun t wr => ∃ (j : Nat) (S : List Int), t = .int .i64 (j : Int) ∧ j ≤ who.length ∧ Hid (fitB ⟨l, b, a, roles⟩ ds (dn : Int) min who = fitG roles fs (min - b) (min + l + a) (who.drop j) j S) ∧ Hid (MapB wr gm S) ∧ Hid (Below wA.heap.size wA wr)) (fun t _ => who.length - (intOf t).toNat)
  case atStart => exact ⟨0, [], rfl, by omega, HX0, HM0, HBM⟩
  case round =>
    obtain ⟨j, S, rfl, hj, hX, HM, HBr⟩ := hrel
    have hj0 : (0 : Int) ≤ (j : Int) := by omega
    by_cases hlt : j < who.length
    · have hlt' : (j : Int) < (who.length : Int) := by omega
      obtain ⟨r, hjr⟩ : ∃ r, who[j]? = some r := ⟨_, List.getElem?_eq_getElem hlt⟩
      obtain ⟨_, _, e9, _, hallw⟩ := HW.out.below HBr.out
      cases e9
      obtain ⟨gw, ow, hpe, cw0⟩ := hallw j r hjr
      subst hpe
      obtain ⟨pool, hjp⟩ : ∃ p, roles[j]? = some p := ⟨roles[j]'(by rw [← H3.out]; exact hlt), List.getElem?_eq_getElem _⟩
      obtain ⟨_, _, e8, _, hallr⟩ := HR.out.below HBr.out
      cases e8
      obtain ⟨gr, or, sv, hpe2, cr0, hrow⟩ := hallr j pool hjp
      subst hpe2
      obtain ⟨pp, cp, rfl, hlp, hcp⟩ := hrow
      have HCP := hidr hcp
      have hSt := fitG_step (roles := roles) (fs := fs) (x := min - b) (y := min + l + a) hjr j S
      rw [show roles.getD j [] = pool by simp [List.getD, hjp]] at hSt
      have HX := hidr (hX.out.trans hSt)
      have n3 := (HBr.out.block _ (lt_of_block nA)).trans nA
      have n5 := (HBr.out.block _ (lt_of_block nS)).trans nS
      have y0 := (cell_of_row _ _ 0 _ _ _ n3).trans rfl
      have y1 := (cell_of_row _ _ 1 _ _ _ n3).trans rfl
      have y2 := (cell_of_row _ _ 2 _ _ _ n3).trans rfl
      have y3 := (cell_of_row _ _ 3 _ _ _ n3).trans rfl
      have x0 := (cell_of_row _ _ 0 _ _ _ n5).trans rfl
      have x1 := (cell_of_row _ _ 1 _ _ _ n5).trans rfl
      have hjl : (j : Int) < (roles.length : Int) := by have := H3.out; omega
      have HPM := hidr (HS.out.pool pool (List.mem_of_getElem? hjp))
      clear hSt hX hallw hallr hcp hjr hjp
      go_wp2_with fail
      go_loopw [10, 47] (fun q t W => ∃ k : Nat, q = .bool (decide (r ∈ pool.take k)) ∧ t = .int .i64 (k : Int) ∧ k ≤ pool.length ∧ W = wr) (fun _ t _ => pool.length - (intOf t).toNat)
      case atStart => exact ⟨0, rfl, rfl, by omega, rfl⟩
      case round =>
        obtain ⟨k, rfl, rfl, hk, rfl⟩ := hrel
        have hk0 : (0 : Int) ≤ (k : Int) := by omega
        by_cases hltk : k < pool.length
        · have hltk' : (k : Int) < (pool.length : Int) := by omega
          obtain ⟨q, hkq⟩ : ∃ r, pool[k]? = some r := ⟨_, List.getElem?_eq_getElem hltk⟩
          obtain ⟨gp, op, hpe, cq⟩ := HCP.out k q hkq
          subst hpe
          have HT : Hid (decide (r ∈ pool.take (k + 1)) = (decide (r ∈ pool.take k) || (q == r))) := by
            show _ = _
            rw [take_snoc hkq]
            by_cases e : q = r
            · subst e
              simp
            · have e' : ¬ r = q := fun h => e h.symm
              simp [e, e']
          obtain ⟨bb, hbb⟩ : ∃ q, decide (r ∈ pool.take k) = q := ⟨_, rfl⟩
          rw [hbb] at HT ⊢
          clear hkq hbb
          cases bb with
          | true =>
            go_wp2_with fail
            go_roundw
            case rel => exact ⟨k + 1, by rw [HT.out]; rfl, by go_num, by omega, trivial⟩
            case measure => simp [intOf]; omega
          | false =>
            go_wp2_with fail
            go_roundw
            case rel => exact ⟨k + 1, by rw [HT.out]; simp, by go_num, by omega, trivial⟩
            case measure => simp [intOf]; omega
        · have hltk' : ¬ (k : Int) < (pool.length : Int) := by omega
          rw [show k = pool.length by omega, List.take_of_length_le (Nat.le_refl _)]
          by_cases hmem : r ∈ pool
          case neg =>
            have HN := hidr (HX.out.trans (if_pos (.inl hmem)))
            rw [decide_eq_false hmem]
            clear hmem
            go_wp2_with fail
            refine wp_region_JL (fun _ W => Below wr.heap.size wr W) (fun L _ => (Below.refl _ _).drew) (by kernel_rfl) (by kernel_rfl) (by kernel_rfl) (by kernel_rfl) [(some 58, .bool false), (some 59, .bool true), (some 60, .bool true), (some 61, undef), (some 62, undef), (some 63, undef), (some 64, .bool true), (some 65, .bool true), (some 66, undef), (some 67, undef), (some 68, undef), (some 69, undef), (some 70, undef), (some 71, undef), (some 72, undef), (some 73, undef), (some 74, undef), (some 75, undef), (some 76, undef), (some 77, undef), (some 78, undef), (some 79, undef), (some 80, undef), (some 81, undef), (some 82, undef), (some 83, undef), (some 84, undef), (some 85, undef), (some 86, undef), (some 87, undef), (some 88, undef), (some 89, undef), (some 90, .bool true)] [(58, .bool false), (59, .bool true), (60, .bool true), (61, undef), (62, undef), (63, undef), (64, .bool true), (65, .bool true), (66, undef), (67, undef), (68, undef), (69, undef), (70, undef), (71, undef), (72, undef), (73, undef), (74, undef), (75, undef), (76, undef), (77, undef), (78, undef), (79, undef), (80, undef), (81, undef), (82, undef), (83, undef), (84, undef), (85, undef), (86, undef), (87, undef), (88, undef), (89, undef), (90, .bool true)] (by kernel_rfl) (by kernel_rfl) (by kernel_rfl) ?_ ?_
            · intro i' d v o' L A W2 ho hv hLi hdep hc hJ hkept hhas
              match i', ho, hv, hLi with
              | 0, ho, hv, hLi =>
                cases Option.some.inj ho
                cases Option.some.inj hv
                have h10 : A.tmps[10]?.getD undef = .bool false := (gd A 10).trans (hkept 10 (by kernel_rfl))
                refine wpOp_step rfl (fun K hK => ?_)
                go_simp
                exact hK _ _ ⟨rfl, hJ⟩
              | 1, ho, hv, hLi =>
                cases Option.some.inj ho
                cases Option.some.inj hv
                have h58 : A.tmps[58]?.getD undef = .bool false := (gd A 58).trans (hhas 0 58 _ rfl (hdep ⟨0, .data⟩ (by simp) rfl))
                refine wpOp_step rfl (fun K hK => ?_)
                go_simp
                exact hK _ _ ⟨rfl, hJ⟩
              | 2, ho, hv, hLi =>
                cases Option.some.inj ho
                cases Option.some.inj hv
                have h59 : A.tmps[59]?.getD undef = .bool true := (gd A 59).trans (hhas 1 59 _ rfl (hdep ⟨1, .data⟩ (by simp) rfl))
                refine wpOp_step rfl (fun K hK => ?_)
                go_simp
                exact hK _ _ ⟨rfl, hJ⟩
              | 3, ho, hv, hLi =>
                cases Option.some.inj ho
                cases Option.some.inj hv
                have hG : A.tmps[60]? = some (.bool true) := gdb (hhas 2 60 _ rfl (hdep ⟨2, .guard⟩ (by simp) rfl))
                refine wpOp_step rfl (fun K hK => ?_)
                go_simp
                exact hK _ _ ⟨rfl, hJ⟩
              | 4, ho, hv, hLi =>
                cases Option.some.inj ho
                cases Option.some.inj hv
                have hG : A.tmps[60]? = some (.bool true) := gdb (hhas 2 60 _ rfl (hdep ⟨2, .guard⟩ (by simp) rfl))
                refine wpOp_step rfl (fun K hK => ?_)
                go_simp
                exact hK _ _ ⟨rfl, hJ⟩
              | 5, ho, hv, hLi =>
                cases Option.some.inj ho
                cases Option.some.inj hv
                have hG : A.tmps[60]? = some (.bool true) := gdb (hhas 2 60 _ rfl (hdep ⟨2, .guard⟩ (by simp) rfl))
                refine wpOp_step rfl (fun K hK => ?_)
                go_simp
                exact hK _ _ ⟨rfl, hJ⟩
              | 6, ho, hv, hLi =>
                cases Option.some.inj ho
                cases Option.some.inj hv
                have h60 : A.tmps[60]?.getD undef = .bool true := (gd A 60).trans (hhas 2 60 _ rfl (hdep ⟨2, .data⟩ (by simp) rfl))
                have h63 : A.tmps[63]?.getD undef = undef := (gd A 63).trans (hhas 5 63 _ rfl (hdep ⟨5, .data⟩ (by simp) rfl))
                refine wpOp_step rfl (fun K hK => ?_)
                go_simp
                exact hK _ _ ⟨rfl, hJ⟩
              | 7, ho, hv, hLi =>
                cases Option.some.inj ho
                cases Option.some.inj hv
                have h64 : A.tmps[64]?.getD undef = .bool true := (gd A 64).trans (hhas 6 64 _ rfl (hdep ⟨6, .data⟩ (by simp) rfl))
                refine wpOp_step rfl (fun K hK => ?_)
                go_simp
                exact hK _ _ ⟨rfl, hJ⟩
              | 8, ho, hv, hLi =>
                cases Option.some.inj ho
                cases Option.some.inj hv
                have hG : A.tmps[65]? = some (.bool true) := gdb (hhas 7 65 _ rfl (hdep ⟨7, .guard⟩ (by simp) rfl))
                refine wpOp_step rfl (fun K hK => ?_)
                go_simp
                exact hK _ _ ⟨rfl, hJ⟩
              | 9, ho, hv, hLi =>
                cases Option.some.inj ho
                cases Option.some.inj hv
                have hG : A.tmps[65]? = some (.bool true) := gdb (hhas 7 65 _ rfl (hdep ⟨7, .guard⟩ (by simp) rfl))
                refine wpOp_step rfl (fun K hK => ?_)
                go_simp
                exact hK _ _ ⟨rfl, hJ⟩
              | 10, ho, hv, hLi =>
                cases Option.some.inj ho
                cases Option.some.inj hv
                have hG : A.tmps[65]? = some (.bool true) := gdb (hhas 7 65 _ rfl (hdep ⟨7, .guard⟩ (by simp) rfl))
                refine wpOp_step rfl (fun K hK => ?_)
                go_simp
                exact hK _ _ ⟨rfl, hJ⟩
              | 11, ho, hv, hLi =>
                cases Option.some.inj ho
                cases Option.some.inj hv
                have hG : A.tmps[65]? = some (.bool true) := gdb (hhas 7 65 _ rfl (hdep ⟨7, .guard⟩ (by simp) rfl))
                refine wpOp_step rfl (fun K hK => ?_)
                go_simp
                exact hK _ _ ⟨rfl, hJ⟩
              | 12, ho, hv, hLi =>
                cases Option.some.inj ho
                cases Option.some.inj hv
                have hG : A.tmps[65]? = some (.bool true) := gdb (hhas 7 65 _ rfl (hdep ⟨7, .guard⟩ (by simp) rfl))
                refine wpOp_step rfl (fun K hK => ?_)
                go_simp
                exact hK _ _ ⟨rfl, hJ⟩
              | 13, ho, hv, hLi =>
                cases Option.some.inj ho
                cases Option.some.inj hv
                have hG : A.tmps[65]? = some (.bool true) := gdb (hhas 7 65 _ rfl (hdep ⟨7, .guard⟩ (by simp) rfl))
                refine wpOp_step rfl (fun K hK => ?_)
                go_simp
                exact hK _ _ ⟨rfl, hJ⟩
              | 14, ho, hv, hLi =>
                cases Option.some.inj ho
                cases Option.some.inj hv
                have hG : A.tmps[65]? = some (.bool true) := gdb (hhas 7 65 _ rfl (hdep ⟨7, .guard⟩ (by simp) rfl))
                refine wpOp_step rfl (fun K hK => ?_)
                go_simp
                exact hK _ _ ⟨rfl, hJ⟩
              | 15, ho, hv, hLi =>
                cases Option.some.inj ho
                cases Option.some.inj hv
                have hG : A.tmps[65]? = some (.bool true) := gdb (hhas 7 65 _ rfl (hdep ⟨7, .guard⟩ (by simp) rfl))
                refine wpOp_step rfl (fun K hK => ?_)
                go_simp
                exact hK _ _ ⟨rfl, hJ⟩
              | 16, ho, hv, hLi =>
                cases Option.some.inj ho
                cases Option.some.inj hv
                have hG : A.tmps[65]? = some (.bool true) := gdb (hhas 7 65 _ rfl (hdep ⟨7, .guard⟩ (by simp) rfl))
                refine wpOp_step rfl (fun K hK => ?_)
                go_simp
                exact hK _ _ ⟨rfl, hJ⟩
              | 17, ho, hv, hLi =>
                cases Option.some.inj ho
                cases Option.some.inj hv
                have hG : A.tmps[65]? = some (.bool true) := gdb (hhas 7 65 _ rfl (hdep ⟨7, .guard⟩ (by simp) rfl))
                refine wpOp_step rfl (fun K hK => ?_)
                go_simp
                exact hK _ _ ⟨rfl, hJ⟩
              | 18, ho, hv, hLi =>
                cases Option.some.inj ho
                cases Option.some.inj hv
                have hG : A.tmps[65]? = some (.bool true) := gdb (hhas 7 65 _ rfl (hdep ⟨7, .guard⟩ (by simp) rfl))
                refine wpOp_step rfl (fun K hK => ?_)
                go_simp
                exact hK _ _ ⟨rfl, hJ⟩
              | 19, ho, hv, hLi =>
                cases Option.some.inj ho
                cases Option.some.inj hv
                have hG : A.tmps[65]? = some (.bool true) := gdb (hhas 7 65 _ rfl (hdep ⟨7, .guard⟩ (by simp) rfl))
                refine wpOp_step rfl (fun K hK => ?_)
                go_simp
                exact hK _ _ ⟨rfl, hJ⟩
              | 20, ho, hv, hLi =>
                cases Option.some.inj ho
                cases Option.some.inj hv
                have hG : A.tmps[65]? = some (.bool true) := gdb (hhas 7 65 _ rfl (hdep ⟨7, .guard⟩ (by simp) rfl))
                refine wpOp_step rfl (fun K hK => ?_)
                go_simp
                exact hK _ _ ⟨rfl, hJ⟩
              | 21, ho, hv, hLi =>
                cases Option.some.inj ho
                cases Option.some.inj hv
                have hG : A.tmps[65]? = some (.bool true) := gdb (hhas 7 65 _ rfl (hdep ⟨7, .guard⟩ (by simp) rfl))
                refine wpOp_step rfl (fun K hK => ?_)
                go_simp
                exact hK _ _ ⟨rfl, hJ⟩
              | 22, ho, hv, hLi =>
                cases Option.some.inj ho
                cases Option.some.inj hv
                have hG : A.tmps[65]? = some (.bool true) := gdb (hhas 7 65 _ rfl (hdep ⟨7, .guard⟩ (by simp) rfl))
                refine wpOp_step rfl (fun K hK => ?_)
                go_simp
                exact hK _ _ ⟨rfl, hJ⟩
              | 23, ho, hv, hLi =>
                cases Option.some.inj ho
                cases Option.some.inj hv
                have hG : A.tmps[65]? = some (.bool true) := gdb (hhas 7 65 _ rfl (hdep ⟨7, .guard⟩ (by simp) rfl))
                refine wpOp_step rfl (fun K hK => ?_)
                go_simp
                exact hK _ _ ⟨rfl, hJ⟩
              | 24, ho, hv, hLi =>
                cases Option.some.inj ho
                cases Option.some.inj hv
                have hG : A.tmps[65]? = some (.bool true) := gdb (hhas 7 65 _ rfl (hdep ⟨7, .guard⟩ (by simp) rfl))
                refine wpOp_step rfl (fun K hK => ?_)
                go_simp
                exact hK _ _ ⟨rfl, hJ⟩
              | 25, ho, hv, hLi =>
                cases Option.some.inj ho
                cases Option.some.inj hv
                have hG : A.tmps[65]? = some (.bool true) := gdb (hhas 7 65 _ rfl (hdep ⟨7, .guard⟩ (by simp) rfl))
                refine wpOp_step rfl (fun K hK => ?_)
                go_simp
                exact hK _ _ ⟨rfl, hJ⟩
              | 26, ho, hv, hLi =>
                cases Option.some.inj ho
                cases Option.some.inj hv
                have hG : A.tmps[65]? = some (.bool true) := gdb (hhas 7 65 _ rfl (hdep ⟨7, .guard⟩ (by simp) rfl))
                refine wpOp_step rfl (fun K hK => ?_)
                go_simp
                exact hK _ _ ⟨rfl, hJ⟩
              | 27, ho, hv, hLi =>
                cases Option.some.inj ho
                cases Option.some.inj hv
                have hG : A.tmps[65]? = some (.bool true) := gdb (hhas 7 65 _ rfl (hdep ⟨7, .guard⟩ (by simp) rfl))
                refine wpOp_step rfl (fun K hK => ?_)
                go_simp
                exact hK _ _ ⟨rfl, hJ⟩
              | 28, ho, hv, hLi =>
                cases Option.some.inj ho
                cases Option.some.inj hv
                have hG : A.tmps[65]? = some (.bool true) := gdb (hhas 7 65 _ rfl (hdep ⟨7, .guard⟩ (by simp) rfl))
                refine wpOp_step rfl (fun K hK => ?_)
                go_simp
                exact hK _ _ ⟨rfl, hJ⟩
              | 29, ho, hv, hLi =>
                cases Option.some.inj ho
                cases Option.some.inj hv
                have hG : A.tmps[65]? = some (.bool true) := gdb (hhas 7 65 _ rfl (hdep ⟨7, .guard⟩ (by simp) rfl))
                refine wpOp_step rfl (fun K hK => ?_)
                go_simp
                exact hK _ _ ⟨rfl, hJ⟩
              | 30, ho, hv, hLi =>
                cases Option.some.inj ho
                cases Option.some.inj hv
                have hG : A.tmps[65]? = some (.bool true) := gdb (hhas 7 65 _ rfl (hdep ⟨7, .guard⟩ (by simp) rfl))
                refine wpOp_step rfl (fun K hK => ?_)
                go_simp
                exact hK _ _ ⟨rfl, hJ⟩
              | 31, ho, hv, hLi =>
                cases Option.some.inj ho
                cases Option.some.inj hv
                have hG : A.tmps[65]? = some (.bool true) := gdb (hhas 7 65 _ rfl (hdep ⟨7, .guard⟩ (by simp) rfl))
                refine wpOp_step rfl (fun K hK => ?_)
                go_simp
                exact hK _ _ ⟨rfl, hJ⟩
              | 32, ho, hv, hLi =>
                cases Option.some.inj ho
                cases Option.some.inj hv
                have h65 : A.tmps[65]?.getD undef = .bool true := (gd A 65).trans (hhas 7 65 _ rfl (hdep ⟨7, .data⟩ (by simp) rfl))
                have h89 : A.tmps[89]?.getD undef = undef := (gd A 89).trans (hhas 31 89 _ rfl (hdep ⟨31, .data⟩ (by simp) rfl))
                refine wpOp_step rfl (fun K hK => ?_)
                go_simp
                exact hK _ _ ⟨rfl, hJ⟩
              | kk + 33, ho, hv, hLi => simp at hv
            · intro L W5 hL hJ
              simp only [putAll_cons, putAll_nil, Act.put, List.setIfInBounds_toArray, List.set_cons_succ, List.set_cons_zero]
              clear hL
              have HB5 := hidr (HBr.out.trans (hJ.mono HBr.out.size))
              clear hJ
              go_wp2_with fail
              go_ret
              exact ⟨by (rw [HN.out]) <;> rfl, HB.out.trans (HB5.out.mono HB.out.size)⟩

          rw [decide_eq_true hmem]
          obtain ⟨hb0, hb1⟩ := HPM.out.bd r hmem
          obtain ⟨rn, hrn⟩ : ∃ rn : Nat, r = (rn : Int) := ⟨r.toNat, by omega⟩
          subst hrn
          obtain ⟨f, hf⟩ : ∃ f, fs[rn]? = some f := ⟨fs[rn]'(by omega), List.getElem?_eq_getElem (by omega)⟩
          obtain ⟨_, _, e7, _, halld⟩ := HD.out.below HBr.out
          cases e7
          obtain ⟨gy, oy, sv, hpd, cx, hrowd⟩ := halld dn fs HFS.out
          subst hpd
          obtain ⟨pf, cf, rfl, hlf, hallf⟩ := hrowd
          obtain ⟨gf, of, hpf, rgf⟩ := hallf rn f hf
          subst hpf
          have HOK : Hid (okP fs (min - b) (min + l + a) (rn : Int) = holdB f (min - b) (min + l + a)) := by
            show _ = _
            unfold okP
            rw [Int.toNat_natCast]
            congr 1
            simp [List.getD, hf]
          by_cases hin : (rn : Int) ∈ S
          · have HN := hidr (HX.out.trans (if_pos (.inr (.inl hin))))
            have hhad := decide_eq_true hin
            clear hmem halld hallf hf hin hb0
            go_wp2_with fail
            refine wp_region_JL (fun _ W => Below wr.heap.size wr W) (fun L _ => (Below.refl _ _).drew) (by kernel_rfl) (by kernel_rfl) (by kernel_rfl) (by kernel_rfl) [(some 58, .bool true), (some 59, .bool false), (some 60, .bool false), (some 61, .map (some gm)), (some 62, .int .i64 (rn : Int)), (some 63, .bool true), (some 64, .bool true), (some 65, .bool true), (some 66, undef), (some 67, undef), (some 68, undef), (some 69, undef), (some 70, undef), (some 71, undef), (some 72, undef), (some 73, undef), (some 74, undef), (some 75, undef), (some 76, undef), (some 77, undef), (some 78, undef), (some 79, undef), (some 80, undef), (some 81, undef), (some 82, undef), (some 83, undef), (some 84, undef), (some 85, undef), (some 86, undef), (some 87, undef), (some 88, undef), (some 89, undef), (some 90, .bool true)] [(58, .bool true), (59, .bool false), (60, .bool false), (61, .map (some gm)), (62, .int .i64 (rn : Int)), (63, .bool true), (64, .bool true), (65, .bool true), (66, undef), (67, undef), (68, undef), (69, undef), (70, undef), (71, undef), (72, undef), (73, undef), (74, undef), (75, undef), (76, undef), (77, undef), (78, undef), (79, undef), (80, undef), (81, undef), (82, undef), (83, undef), (84, undef), (85, undef), (86, undef), (87, undef), (88, undef), (89, undef), (90, .bool true)] (by kernel_rfl) (by kernel_rfl) (by kernel_rfl) ?_ ?_
            · intro i' d v o' L A W2 ho hv hLi hdep hc hJ hkept hhas
              match i', ho, hv, hLi with
              | 0, ho, hv, hLi =>
                cases Option.some.inj ho
                cases Option.some.inj hv
                have h10 : A.tmps[10]?.getD undef = .bool true := (gd A 10).trans (hkept 10 (by kernel_rfl))
                refine wpOp_step rfl (fun K hK => ?_)
                go_simp
                exact hK _ _ ⟨rfl, hJ⟩
              | 1, ho, hv, hLi =>
                cases Option.some.inj ho
                cases Option.some.inj hv
                have h58 : A.tmps[58]?.getD undef = .bool true := (gd A 58).trans (hhas 0 58 _ rfl (hdep ⟨0, .data⟩ (by simp) rfl))
                refine wpOp_step rfl (fun K hK => ?_)
                go_simp
                exact hK _ _ ⟨rfl, hJ⟩
              | 2, ho, hv, hLi =>
                cases Option.some.inj ho
                cases Option.some.inj hv
                have h59 : A.tmps[59]?.getD undef = .bool false := (gd A 59).trans (hhas 1 59 _ rfl (hdep ⟨1, .data⟩ (by simp) rfl))
                refine wpOp_step rfl (fun K hK => ?_)
                go_simp
                exact hK _ _ ⟨rfl, hJ⟩
              | 3, ho, hv, hLi =>
                cases Option.some.inj ho
                cases Option.some.inj hv
                have hG : A.tmps[60]? = some (.bool false) := gdb (hhas 2 60 _ rfl (hdep ⟨2, .guard⟩ (by simp) rfl))
                have h7 : A.tmps[7]?.getD undef = .map (some gm) := (gd A 7).trans (hkept 7 (by kernel_rfl))
                refine wpOp_step rfl (fun K hK => ?_)
                go_simp
                exact hK _ _ ⟨rfl, hJ⟩
              | 4, ho, hv, hLi =>
                cases Option.some.inj ho
                cases Option.some.inj hv
                have hG : A.tmps[60]? = some (.bool false) := gdb (hhas 2 60 _ rfl (hdep ⟨2, .guard⟩ (by simp) rfl))
                have h9 : A.tmps[9]?.getD undef = .int .i64 (rn : Int) := (gd A 9).trans (hkept 9 (by kernel_rfl))
                refine wpOp_step rfl (fun K hK => ?_)
                go_simp
                exact hK _ _ ⟨rfl, hJ⟩
              | 5, ho, hv, hLi =>
                cases Option.some.inj ho
                cases Option.some.inj hv
                have hG : A.tmps[60]? = some (.bool false) := gdb (hhas 2 60 _ rfl (hdep ⟨2, .guard⟩ (by simp) rfl))
                have h61 : A.tmps[61]?.getD undef = .map (some gm) := (gd A 61).trans (hhas 3 61 _ rfl (hdep ⟨3, .data⟩ (by simp) rfl))
                have h62 : A.tmps[62]?.getD undef = .int .i64 (rn : Int) := (gd A 62).trans (hhas 4 62 _ rfl (hdep ⟨4, .data⟩ (by simp) rfl))
                have hlk := lookB (HM.out.later (hJ.block _ (lt_of_mapB HM.out))) (rn : Int)
                rw [hhad] at hlk
                refine wpOp_step rfl (fun K hK => ?_)
                go_simp
                exact hK _ _ ⟨rfl, hJ⟩
              | 6, ho, hv, hLi =>
                cases Option.some.inj ho
                cases Option.some.inj hv
                have h60 : A.tmps[60]?.getD undef = .bool false := (gd A 60).trans (hhas 2 60 _ rfl (hdep ⟨2, .data⟩ (by simp) rfl))
                have h63 : A.tmps[63]?.getD undef = .bool true := (gd A 63).trans (hhas 5 63 _ rfl (hdep ⟨5, .data⟩ (by simp) rfl))
                refine wpOp_step rfl (fun K hK => ?_)
                go_simp
                exact hK _ _ ⟨rfl, hJ⟩
              | 7, ho, hv, hLi =>
                cases Option.some.inj ho
                cases Option.some.inj hv
                have h64 : A.tmps[64]?.getD undef = .bool true := (gd A 64).trans (hhas 6 64 _ rfl (hdep ⟨6, .data⟩ (by simp) rfl))
                refine wpOp_step rfl (fun K hK => ?_)
                go_simp
                exact hK _ _ ⟨rfl, hJ⟩
              | 8, ho, hv, hLi =>
                cases Option.some.inj ho
                cases Option.some.inj hv
                have hG : A.tmps[65]? = some (.bool true) := gdb (hhas 7 65 _ rfl (hdep ⟨7, .guard⟩ (by simp) rfl))
                refine wpOp_step rfl (fun K hK => ?_)
                go_simp
                exact hK _ _ ⟨rfl, hJ⟩
              | 9, ho, hv, hLi =>
                cases Option.some.inj ho
                cases Option.some.inj hv
                have hG : A.tmps[65]? = some (.bool true) := gdb (hhas 7 65 _ rfl (hdep ⟨7, .guard⟩ (by simp) rfl))
                refine wpOp_step rfl (fun K hK => ?_)
                go_simp
                exact hK _ _ ⟨rfl, hJ⟩
              | 10, ho, hv, hLi =>
                cases Option.some.inj ho
                cases Option.some.inj hv
                have hG : A.tmps[65]? = some (.bool true) := gdb (hhas 7 65 _ rfl (hdep ⟨7, .guard⟩ (by simp) rfl))
                refine wpOp_step rfl (fun K hK => ?_)
                go_simp
                exact hK _ _ ⟨rfl, hJ⟩
              | 11, ho, hv, hLi =>
                cases Option.some.inj ho
                cases Option.some.inj hv
                have hG : A.tmps[65]? = some (.bool true) := gdb (hhas 7 65 _ rfl (hdep ⟨7, .guard⟩ (by simp) rfl))
                refine wpOp_step rfl (fun K hK => ?_)
                go_simp
                exact hK _ _ ⟨rfl, hJ⟩
              | 12, ho, hv, hLi =>
                cases Option.some.inj ho
                cases Option.some.inj hv
                have hG : A.tmps[65]? = some (.bool true) := gdb (hhas 7 65 _ rfl (hdep ⟨7, .guard⟩ (by simp) rfl))
                refine wpOp_step rfl (fun K hK => ?_)
                go_simp
                exact hK _ _ ⟨rfl, hJ⟩
              | 13, ho, hv, hLi =>
                cases Option.some.inj ho
                cases Option.some.inj hv
                have hG : A.tmps[65]? = some (.bool true) := gdb (hhas 7 65 _ rfl (hdep ⟨7, .guard⟩ (by simp) rfl))
                refine wpOp_step rfl (fun K hK => ?_)
                go_simp
                exact hK _ _ ⟨rfl, hJ⟩
              | 14, ho, hv, hLi =>
                cases Option.some.inj ho
                cases Option.some.inj hv
                have hG : A.tmps[65]? = some (.bool true) := gdb (hhas 7 65 _ rfl (hdep ⟨7, .guard⟩ (by simp) rfl))
                refine wpOp_step rfl (fun K hK => ?_)
                go_simp
                exact hK _ _ ⟨rfl, hJ⟩
              | 15, ho, hv, hLi =>
                cases Option.some.inj ho
                cases Option.some.inj hv
                have hG : A.tmps[65]? = some (.bool true) := gdb (hhas 7 65 _ rfl (hdep ⟨7, .guard⟩ (by simp) rfl))
                refine wpOp_step rfl (fun K hK => ?_)
                go_simp
                exact hK _ _ ⟨rfl, hJ⟩
              | 16, ho, hv, hLi =>
                cases Option.some.inj ho
                cases Option.some.inj hv
                have hG : A.tmps[65]? = some (.bool true) := gdb (hhas 7 65 _ rfl (hdep ⟨7, .guard⟩ (by simp) rfl))
                refine wpOp_step rfl (fun K hK => ?_)
                go_simp
                exact hK _ _ ⟨rfl, hJ⟩
              | 17, ho, hv, hLi =>
                cases Option.some.inj ho
                cases Option.some.inj hv
                have hG : A.tmps[65]? = some (.bool true) := gdb (hhas 7 65 _ rfl (hdep ⟨7, .guard⟩ (by simp) rfl))
                refine wpOp_step rfl (fun K hK => ?_)
                go_simp
                exact hK _ _ ⟨rfl, hJ⟩
              | 18, ho, hv, hLi =>
                cases Option.some.inj ho
                cases Option.some.inj hv
                have hG : A.tmps[65]? = some (.bool true) := gdb (hhas 7 65 _ rfl (hdep ⟨7, .guard⟩ (by simp) rfl))
                refine wpOp_step rfl (fun K hK => ?_)
                go_simp
                exact hK _ _ ⟨rfl, hJ⟩
              | 19, ho, hv, hLi =>
                cases Option.some.inj ho
                cases Option.some.inj hv
                have hG : A.tmps[65]? = some (.bool true) := gdb (hhas 7 65 _ rfl (hdep ⟨7, .guard⟩ (by simp) rfl))
                refine wpOp_step rfl (fun K hK => ?_)
                go_simp
                exact hK _ _ ⟨rfl, hJ⟩
              | 20, ho, hv, hLi =>
                cases Option.some.inj ho
                cases Option.some.inj hv
                have hG : A.tmps[65]? = some (.bool true) := gdb (hhas 7 65 _ rfl (hdep ⟨7, .guard⟩ (by simp) rfl))
                refine wpOp_step rfl (fun K hK => ?_)
                go_simp
                exact hK _ _ ⟨rfl, hJ⟩
              | 21, ho, hv, hLi =>
                cases Option.some.inj ho
                cases Option.some.inj hv
                have hG : A.tmps[65]? = some (.bool true) := gdb (hhas 7 65 _ rfl (hdep ⟨7, .guard⟩ (by simp) rfl))
                refine wpOp_step rfl (fun K hK => ?_)
                go_simp
                exact hK _ _ ⟨rfl, hJ⟩
              | 22, ho, hv, hLi =>
                cases Option.some.inj ho
                cases Option.some.inj hv
                have hG : A.tmps[65]? = some (.bool true) := gdb (hhas 7 65 _ rfl (hdep ⟨7, .guard⟩ (by simp) rfl))
                refine wpOp_step rfl (fun K hK => ?_)
                go_simp
                exact hK _ _ ⟨rfl, hJ⟩
              | 23, ho, hv, hLi =>
                cases Option.some.inj ho
                cases Option.some.inj hv
                have hG : A.tmps[65]? = some (.bool true) := gdb (hhas 7 65 _ rfl (hdep ⟨7, .guard⟩ (by simp) rfl))
                refine wpOp_step rfl (fun K hK => ?_)
                go_simp
                exact hK _ _ ⟨rfl, hJ⟩
              | 24, ho, hv, hLi =>
                cases Option.some.inj ho
                cases Option.some.inj hv
                have hG : A.tmps[65]? = some (.bool true) := gdb (hhas 7 65 _ rfl (hdep ⟨7, .guard⟩ (by simp) rfl))
                refine wpOp_step rfl (fun K hK => ?_)
                go_simp
                exact hK _ _ ⟨rfl, hJ⟩
              | 25, ho, hv, hLi =>
                cases Option.some.inj ho
                cases Option.some.inj hv
                have hG : A.tmps[65]? = some (.bool true) := gdb (hhas 7 65 _ rfl (hdep ⟨7, .guard⟩ (by simp) rfl))
                refine wpOp_step rfl (fun K hK => ?_)
                go_simp
                exact hK _ _ ⟨rfl, hJ⟩
              | 26, ho, hv, hLi =>
                cases Option.some.inj ho
                cases Option.some.inj hv
                have hG : A.tmps[65]? = some (.bool true) := gdb (hhas 7 65 _ rfl (hdep ⟨7, .guard⟩ (by simp) rfl))
                refine wpOp_step rfl (fun K hK => ?_)
                go_simp
                exact hK _ _ ⟨rfl, hJ⟩
              | 27, ho, hv, hLi =>
                cases Option.some.inj ho
                cases Option.some.inj hv
                have hG : A.tmps[65]? = some (.bool true) := gdb (hhas 7 65 _ rfl (hdep ⟨7, .guard⟩ (by simp) rfl))
                refine wpOp_step rfl (fun K hK => ?_)
                go_simp
                exact hK _ _ ⟨rfl, hJ⟩
              | 28, ho, hv, hLi =>
                cases Option.some.inj ho
                cases Option.some.inj hv
                have hG : A.tmps[65]? = some (.bool true) := gdb (hhas 7 65 _ rfl (hdep ⟨7, .guard⟩ (by simp) rfl))
                refine wpOp_step rfl (fun K hK => ?_)
                go_simp
                exact hK _ _ ⟨rfl, hJ⟩
              | 29, ho, hv, hLi =>
                cases Option.some.inj ho
                cases Option.some.inj hv
                have hG : A.tmps[65]? = some (.bool true) := gdb (hhas 7 65 _ rfl (hdep ⟨7, .guard⟩ (by simp) rfl))
                refine wpOp_step rfl (fun K hK => ?_)
                go_simp
                exact hK _ _ ⟨rfl, hJ⟩
              | 30, ho, hv, hLi =>
                cases Option.some.inj ho
                cases Option.some.inj hv
                have hG : A.tmps[65]? = some (.bool true) := gdb (hhas 7 65 _ rfl (hdep ⟨7, .guard⟩ (by simp) rfl))
                refine wpOp_step rfl (fun K hK => ?_)
                go_simp
                exact hK _ _ ⟨rfl, hJ⟩
              | 31, ho, hv, hLi =>
                cases Option.some.inj ho
                cases Option.some.inj hv
                have hG : A.tmps[65]? = some (.bool true) := gdb (hhas 7 65 _ rfl (hdep ⟨7, .guard⟩ (by simp) rfl))
                refine wpOp_step rfl (fun K hK => ?_)
                go_simp
                exact hK _ _ ⟨rfl, hJ⟩
              | 32, ho, hv, hLi =>
                cases Option.some.inj ho
                cases Option.some.inj hv
                have h65 : A.tmps[65]?.getD undef = .bool true := (gd A 65).trans (hhas 7 65 _ rfl (hdep ⟨7, .data⟩ (by simp) rfl))
                have h89 : A.tmps[89]?.getD undef = undef := (gd A 89).trans (hhas 31 89 _ rfl (hdep ⟨31, .data⟩ (by simp) rfl))
                refine wpOp_step rfl (fun K hK => ?_)
                go_simp
                exact hK _ _ ⟨rfl, hJ⟩
              | kk + 33, ho, hv, hLi => simp at hv
            · intro L W5 hL hJ
              simp only [putAll_cons, putAll_nil, Act.put, List.setIfInBounds_toArray, List.set_cons_succ, List.set_cons_zero]
              clear hL
              have HB5 := hidr (HBr.out.trans (hJ.mono HBr.out.size))
              clear hJ
              go_wp2_with fail
              go_ret
              exact ⟨by (rw [HN.out]) <;> rfl, HB.out.trans (HB5.out.mono HB.out.size)⟩

          · have hhad := decide_eq_false hin
            have hnh := hin
            clear halld hallf hf hin hb0
            go_wp2_with fail
            refine wp_region_JL (fun _ W => Below wr.heap.size wr W) (fun L _ => (Below.refl _ _).drew) (by kernel_rfl) (by kernel_rfl) (by kernel_rfl) (by kernel_rfl) [(some 58, .bool true), (some 59, .bool false), (some 60, .bool false), (some 61, .map (some gm)), (some 62, .int .i64 (rn : Int)), (some 63, .bool false), (some 64, .bool false), (some 65, .bool false), (some 66, .slice (some ⟨gy, oy, none⟩) ds.length cd), (some 67, .pointer (some ⟨w.heap.size + 1, 0, none⟩)), (some 68, .int .i64 (dn : Int)), (some 69, .pointer (some ⟨gy, oy + dn, none⟩)), (some 70, .slice (some ⟨gf, of, none⟩) fs.length cf), (some 71, .int .i64 (rn : Int)), (some 72, .pointer (some ⟨gf, of + rn * 23, none⟩)), (some 73, .agg (mv f)), (some 74, .pointer (some ⟨w.heap.size + 1, 1, none⟩)), (some 75, .int .i64 min), (some 76, .pointer (some ⟨w.heap.size, 1, none⟩)), (some 77, .int .i64 b), (some 78, .int .i64 (min - b)), (some 79, .pointer (some ⟨w.heap.size + 1, 1, none⟩)), (some 80, .int .i64 min), (some 81, .pointer (some ⟨w.heap.size, 0, none⟩)), (some 82, .int .i64 l), (some 83, .int .i64 (min + l)), (some 84, .pointer (some ⟨w.heap.size, 2, none⟩)), (some 85, .int .i64 a), (some 86, .int .i64 (min + l + a)), (some 87, .agg #[.int .i64 (min - b), .int .i64 (min + l + a)]), (some 88, .bool (holdB f (min - b) (min + l + a))), (some 89, .bool (!holdB f (min - b) (min + l + a))), (some 90, .bool (!holdB f (min - b) (min + l + a)))] [(58, .bool true), (59, .bool false), (60, .bool false), (61, .map (some gm)), (62, .int .i64 (rn : Int)), (63, .bool false), (64, .bool false), (65, .bool false), (66, .slice (some ⟨gy, oy, none⟩) ds.length cd), (67, .pointer (some ⟨w.heap.size + 1, 0, none⟩)), (68, .int .i64 (dn : Int)), (69, .pointer (some ⟨gy, oy + dn, none⟩)), (70, .slice (some ⟨gf, of, none⟩) fs.length cf), (71, .int .i64 (rn : Int)), (72, .pointer (some ⟨gf, of + rn * 23, none⟩)), (73, .agg (mv f)), (74, .pointer (some ⟨w.heap.size + 1, 1, none⟩)), (75, .int .i64 min), (76, .pointer (some ⟨w.heap.size, 1, none⟩)), (77, .int .i64 b), (78, .int .i64 (min - b)), (79, .pointer (some ⟨w.heap.size + 1, 1, none⟩)), (80, .int .i64 min), (81, .pointer (some ⟨w.heap.size, 0, none⟩)), (82, .int .i64 l), (83, .int .i64 (min + l)), (84, .pointer (some ⟨w.heap.size, 2, none⟩)), (85, .int .i64 a), (86, .int .i64 (min + l + a)), (87, .agg #[.int .i64 (min - b), .int .i64 (min + l + a)]), (88, .bool (holdB f (min - b) (min + l + a))), (89, .bool (!holdB f (min - b) (min + l + a))), (90, .bool (!holdB f (min - b) (min + l + a)))] (by kernel_rfl) (by kernel_rfl) (by kernel_rfl) ?_ ?_
            · intro i' d v o' L A W2 ho hv hLi hdep hc hJ hkept hhas
              match i', ho, hv, hLi with
              | 0, ho, hv, hLi =>
                cases Option.some.inj ho
                cases Option.some.inj hv
                have h10 : A.tmps[10]?.getD undef = .bool true := (gd A 10).trans (hkept 10 (by kernel_rfl))
                refine wpOp_step rfl (fun K hK => ?_)
                go_simp
                exact hK _ _ ⟨rfl, hJ⟩
              | 1, ho, hv, hLi =>
                cases Option.some.inj ho
                cases Option.some.inj hv
                have h58 : A.tmps[58]?.getD undef = .bool true := (gd A 58).trans (hhas 0 58 _ rfl (hdep ⟨0, .data⟩ (by simp) rfl))
                refine wpOp_step rfl (fun K hK => ?_)
                go_simp
                exact hK _ _ ⟨rfl, hJ⟩
              | 2, ho, hv, hLi =>
                cases Option.some.inj ho
                cases Option.some.inj hv
                have h59 : A.tmps[59]?.getD undef = .bool false := (gd A 59).trans (hhas 1 59 _ rfl (hdep ⟨1, .data⟩ (by simp) rfl))
                refine wpOp_step rfl (fun K hK => ?_)
                go_simp
                exact hK _ _ ⟨rfl, hJ⟩
              | 3, ho, hv, hLi =>
                cases Option.some.inj ho
                cases Option.some.inj hv
                have hG : A.tmps[60]? = some (.bool false) := gdb (hhas 2 60 _ rfl (hdep ⟨2, .guard⟩ (by simp) rfl))
                have h7 : A.tmps[7]?.getD undef = .map (some gm) := (gd A 7).trans (hkept 7 (by kernel_rfl))
                refine wpOp_step rfl (fun K hK => ?_)
                go_simp
                exact hK _ _ ⟨rfl, hJ⟩
              | 4, ho, hv, hLi =>
                cases Option.some.inj ho
                cases Option.some.inj hv
                have hG : A.tmps[60]? = some (.bool false) := gdb (hhas 2 60 _ rfl (hdep ⟨2, .guard⟩ (by simp) rfl))
                have h9 : A.tmps[9]?.getD undef = .int .i64 (rn : Int) := (gd A 9).trans (hkept 9 (by kernel_rfl))
                refine wpOp_step rfl (fun K hK => ?_)
                go_simp
                exact hK _ _ ⟨rfl, hJ⟩
              | 5, ho, hv, hLi =>
                cases Option.some.inj ho
                cases Option.some.inj hv
                have hG : A.tmps[60]? = some (.bool false) := gdb (hhas 2 60 _ rfl (hdep ⟨2, .guard⟩ (by simp) rfl))
                have h61 : A.tmps[61]?.getD undef = .map (some gm) := (gd A 61).trans (hhas 3 61 _ rfl (hdep ⟨3, .data⟩ (by simp) rfl))
                have h62 : A.tmps[62]?.getD undef = .int .i64 (rn : Int) := (gd A 62).trans (hhas 4 62 _ rfl (hdep ⟨4, .data⟩ (by simp) rfl))
                have hlk := lookB (HM.out.later (hJ.block _ (lt_of_mapB HM.out))) (rn : Int)
                rw [hhad] at hlk
                refine wpOp_step rfl (fun K hK => ?_)
                go_simp
                exact hK _ _ ⟨rfl, hJ⟩
              | 6, ho, hv, hLi =>
                cases Option.some.inj ho
                cases Option.some.inj hv
                have h60 : A.tmps[60]?.getD undef = .bool false := (gd A 60).trans (hhas 2 60 _ rfl (hdep ⟨2, .data⟩ (by simp) rfl))
                have h63 : A.tmps[63]?.getD undef = .bool false := (gd A 63).trans (hhas 5 63 _ rfl (hdep ⟨5, .data⟩ (by simp) rfl))
                refine wpOp_step rfl (fun K hK => ?_)
                go_simp
                exact hK _ _ ⟨rfl, hJ⟩
              | 7, ho, hv, hLi =>
                cases Option.some.inj ho
                cases Option.some.inj hv
                have h64 : A.tmps[64]?.getD undef = .bool false := (gd A 64).trans (hhas 6 64 _ rfl (hdep ⟨6, .data⟩ (by simp) rfl))
                refine wpOp_step rfl (fun K hK => ?_)
                go_simp
                exact hK _ _ ⟨rfl, hJ⟩
              | 8, ho, hv, hLi =>
                cases Option.some.inj ho
                cases Option.some.inj hv
                have hG : A.tmps[65]? = some (.bool false) := gdb (hhas 7 65 _ rfl (hdep ⟨7, .guard⟩ (by simp) rfl))
                have h1 : A.tmps[1]?.getD undef = .slice (some ⟨gy, oy, none⟩) ds.length cd := (gd A 1).trans (hkept 1 (by kernel_rfl))
                refine wpOp_step rfl (fun K hK => ?_)
                go_simp
                exact hK _ _ ⟨rfl, hJ⟩
              | 9, ho, hv, hLi =>
                cases Option.some.inj ho
                cases Option.some.inj hv
                have hG : A.tmps[65]? = some (.bool false) := gdb (hhas 7 65 _ rfl (hdep ⟨7, .guard⟩ (by simp) rfl))
                have h5 : A.tmps[5]?.getD undef = .pointer (some ⟨w.heap.size + 1, 0, none⟩) := (gd A 5).trans (hkept 5 (by kernel_rfl))
                refine wpOp_step rfl (fun K hK => ?_)
                go_simp
                exact hK _ _ ⟨rfl, hJ⟩
              | 10, ho, hv, hLi =>
                cases Option.some.inj ho
                cases Option.some.inj hv
                have hG : A.tmps[65]? = some (.bool false) := gdb (hhas 7 65 _ rfl (hdep ⟨7, .guard⟩ (by simp) rfl))
                have h67 : A.tmps[67]?.getD undef = .pointer (some ⟨w.heap.size + 1, 0, none⟩) := (gd A 67).trans (hhas 9 67 _ rfl (hdep ⟨9, .data⟩ (by simp) rfl))
                have zz := (hJ.cell (block_lt_of_cell x0)).trans x0
                refine wpOp_step rfl (fun K hK => ?_)
                go_simp
                exact hK _ _ ⟨rfl, hJ⟩
              | 11, ho, hv, hLi =>
                cases Option.some.inj ho
                cases Option.some.inj hv
                have hG : A.tmps[65]? = some (.bool false) := gdb (hhas 7 65 _ rfl (hdep ⟨7, .guard⟩ (by simp) rfl))
                have h66 : A.tmps[66]?.getD undef = .slice (some ⟨gy, oy, none⟩) ds.length cd := (gd A 66).trans (hhas 8 66 _ rfl (hdep ⟨8, .data⟩ (by simp) rfl))
                have h68 : A.tmps[68]?.getD undef = .int .i64 (dn : Int) := (gd A 68).trans (hhas 10 68 _ rfl (hdep ⟨10, .data⟩ (by simp) rfl))
                refine wpOp_step rfl (fun K hK => ?_)
                go_simp
                exact hK _ _ ⟨rfl, hJ⟩
              | 12, ho, hv, hLi =>
                cases Option.some.inj ho
                cases Option.some.inj hv
                have hG : A.tmps[65]? = some (.bool false) := gdb (hhas 7 65 _ rfl (hdep ⟨7, .guard⟩ (by simp) rfl))
                have h69 : A.tmps[69]?.getD undef = .pointer (some ⟨gy, oy + dn, none⟩) := (gd A 69).trans (hhas 11 69 _ rfl (hdep ⟨11, .data⟩ (by simp) rfl))
                have zz := (hJ.cell (block_lt_of_cell cx)).trans cx
                refine wpOp_step rfl (fun K hK => ?_)
                go_simp
                exact hK _ _ ⟨rfl, hJ⟩
              | 13, ho, hv, hLi =>
                cases Option.some.inj ho
                cases Option.some.inj hv
                have hG : A.tmps[65]? = some (.bool false) := gdb (hhas 7 65 _ rfl (hdep ⟨7, .guard⟩ (by simp) rfl))
                have h9 : A.tmps[9]?.getD undef = .int .i64 (rn : Int) := (gd A 9).trans (hkept 9 (by kernel_rfl))
                refine wpOp_step rfl (fun K hK => ?_)
                go_simp
                exact hK _ _ ⟨rfl, hJ⟩
              | 14, ho, hv, hLi =>
                cases Option.some.inj ho
                cases Option.some.inj hv
                have hG : A.tmps[65]? = some (.bool false) := gdb (hhas 7 65 _ rfl (hdep ⟨7, .guard⟩ (by simp) rfl))
                have h70 : A.tmps[70]?.getD undef = .slice (some ⟨gf, of, none⟩) fs.length cf := (gd A 70).trans (hhas 12 70 _ rfl (hdep ⟨12, .data⟩ (by simp) rfl))
                have h71 : A.tmps[71]?.getD undef = .int .i64 (rn : Int) := (gd A 71).trans (hhas 13 71 _ rfl (hdep ⟨13, .data⟩ (by simp) rfl))
                refine wpOp_step rfl (fun K hK => ?_)
                go_simp
                exact hK _ _ ⟨rfl, hJ⟩
              | 15, ho, hv, hLi =>
                cases Option.some.inj ho
                cases Option.some.inj hv
                have hG : A.tmps[65]? = some (.bool false) := gdb (hhas 7 65 _ rfl (hdep ⟨7, .guard⟩ (by simp) rfl))
                have h72 : A.eval (.tmp 72) = .pointer (some ⟨gf, of + rn * 23, none⟩) := hhas 14 72 _ rfl (hdep ⟨14, .data⟩ (by simp) rfl)
                refine wpOp_step rfl (fun K hK => ?_)
                rw [if_pos (by simp [Region.wanted, yielded, hG])]
                refine wp_loadMk _ rfl gf (of + rn * 23) h72 f (rangeAt_below rgf hJ) ?_
                exact hK _ _ ⟨rfl, hJ⟩
              | 16, ho, hv, hLi =>
                cases Option.some.inj ho
                cases Option.some.inj hv
                have hG : A.tmps[65]? = some (.bool false) := gdb (hhas 7 65 _ rfl (hdep ⟨7, .guard⟩ (by simp) rfl))
                have h5 : A.tmps[5]?.getD undef = .pointer (some ⟨w.heap.size + 1, 0, none⟩) := (gd A 5).trans (hkept 5 (by kernel_rfl))
                refine wpOp_step rfl (fun K hK => ?_)
                go_simp
                exact hK _ _ ⟨rfl, hJ⟩
              | 17, ho, hv, hLi =>
                cases Option.some.inj ho
                cases Option.some.inj hv
                have hG : A.tmps[65]? = some (.bool false) := gdb (hhas 7 65 _ rfl (hdep ⟨7, .guard⟩ (by simp) rfl))
                have h74 : A.tmps[74]?.getD undef = .pointer (some ⟨w.heap.size + 1, 1, none⟩) := (gd A 74).trans (hhas 16 74 _ rfl (hdep ⟨16, .data⟩ (by simp) rfl))
                have zz := (hJ.cell (block_lt_of_cell x1)).trans x1
                refine wpOp_step rfl (fun K hK => ?_)
                go_simp
                exact hK _ _ ⟨rfl, hJ⟩
              | 18, ho, hv, hLi =>
                cases Option.some.inj ho
                cases Option.some.inj hv
                have hG : A.tmps[65]? = some (.bool false) := gdb (hhas 7 65 _ rfl (hdep ⟨7, .guard⟩ (by simp) rfl))
                have h3 : A.tmps[3]?.getD undef = .pointer (some ⟨w.heap.size, 0, none⟩) := (gd A 3).trans (hkept 3 (by kernel_rfl))
                refine wpOp_step rfl (fun K hK => ?_)
                go_simp
                exact hK _ _ ⟨rfl, hJ⟩
              | 19, ho, hv, hLi =>
                cases Option.some.inj ho
                cases Option.some.inj hv
                have hG : A.tmps[65]? = some (.bool false) := gdb (hhas 7 65 _ rfl (hdep ⟨7, .guard⟩ (by simp) rfl))
                have h76 : A.tmps[76]?.getD undef = .pointer (some ⟨w.heap.size, 1, none⟩) := (gd A 76).trans (hhas 18 76 _ rfl (hdep ⟨18, .data⟩ (by simp) rfl))
                have zz := (hJ.cell (block_lt_of_cell y1)).trans y1
                refine wpOp_step rfl (fun K hK => ?_)
                go_simp
                exact hK _ _ ⟨rfl, hJ⟩
              | 20, ho, hv, hLi =>
                cases Option.some.inj ho
                cases Option.some.inj hv
                have hG : A.tmps[65]? = some (.bool false) := gdb (hhas 7 65 _ rfl (hdep ⟨7, .guard⟩ (by simp) rfl))
                have h75 : A.tmps[75]?.getD undef = .int .i64 min := (gd A 75).trans (hhas 17 75 _ rfl (hdep ⟨17, .data⟩ (by simp) rfl))
                have h77 : A.tmps[77]?.getD undef = .int .i64 b := (gd A 77).trans (hhas 19 77 _ rfl (hdep ⟨19, .data⟩ (by simp) rfl))
                refine wpOp_step rfl (fun K hK => ?_)
                go_simp
                exact hK _ _ ⟨rfl, hJ⟩
              | 21, ho, hv, hLi =>
                cases Option.some.inj ho
                cases Option.some.inj hv
                have hG : A.tmps[65]? = some (.bool false) := gdb (hhas 7 65 _ rfl (hdep ⟨7, .guard⟩ (by simp) rfl))
                have h5 : A.tmps[5]?.getD undef = .pointer (some ⟨w.heap.size + 1, 0, none⟩) := (gd A 5).trans (hkept 5 (by kernel_rfl))
                refine wpOp_step rfl (fun K hK => ?_)
                go_simp
                exact hK _ _ ⟨rfl, hJ⟩
              | 22, ho, hv, hLi =>
                cases Option.some.inj ho
                cases Option.some.inj hv
                have hG : A.tmps[65]? = some (.bool false) := gdb (hhas 7 65 _ rfl (hdep ⟨7, .guard⟩ (by simp) rfl))
                have h79 : A.tmps[79]?.getD undef = .pointer (some ⟨w.heap.size + 1, 1, none⟩) := (gd A 79).trans (hhas 21 79 _ rfl (hdep ⟨21, .data⟩ (by simp) rfl))
                have zz := (hJ.cell (block_lt_of_cell x1)).trans x1
                refine wpOp_step rfl (fun K hK => ?_)
                go_simp
                exact hK _ _ ⟨rfl, hJ⟩
              | 23, ho, hv, hLi =>
                cases Option.some.inj ho
                cases Option.some.inj hv
                have hG : A.tmps[65]? = some (.bool false) := gdb (hhas 7 65 _ rfl (hdep ⟨7, .guard⟩ (by simp) rfl))
                have h3 : A.tmps[3]?.getD undef = .pointer (some ⟨w.heap.size, 0, none⟩) := (gd A 3).trans (hkept 3 (by kernel_rfl))
                refine wpOp_step rfl (fun K hK => ?_)
                go_simp
                exact hK _ _ ⟨rfl, hJ⟩
              | 24, ho, hv, hLi =>
                cases Option.some.inj ho
                cases Option.some.inj hv
                have hG : A.tmps[65]? = some (.bool false) := gdb (hhas 7 65 _ rfl (hdep ⟨7, .guard⟩ (by simp) rfl))
                have h81 : A.tmps[81]?.getD undef = .pointer (some ⟨w.heap.size, 0, none⟩) := (gd A 81).trans (hhas 23 81 _ rfl (hdep ⟨23, .data⟩ (by simp) rfl))
                have zz := (hJ.cell (block_lt_of_cell y0)).trans y0
                refine wpOp_step rfl (fun K hK => ?_)
                go_simp
                exact hK _ _ ⟨rfl, hJ⟩
              | 25, ho, hv, hLi =>
                cases Option.some.inj ho
                cases Option.some.inj hv
                have hG : A.tmps[65]? = some (.bool false) := gdb (hhas 7 65 _ rfl (hdep ⟨7, .guard⟩ (by simp) rfl))
                have h80 : A.tmps[80]?.getD undef = .int .i64 min := (gd A 80).trans (hhas 22 80 _ rfl (hdep ⟨22, .data⟩ (by simp) rfl))
                have h82 : A.tmps[82]?.getD undef = .int .i64 l := (gd A 82).trans (hhas 24 82 _ rfl (hdep ⟨24, .data⟩ (by simp) rfl))
                refine wpOp_step rfl (fun K hK => ?_)
                go_simp
                exact hK _ _ ⟨rfl, hJ⟩
              | 26, ho, hv, hLi =>
                cases Option.some.inj ho
                cases Option.some.inj hv
                have hG : A.tmps[65]? = some (.bool false) := gdb (hhas 7 65 _ rfl (hdep ⟨7, .guard⟩ (by simp) rfl))
                have h3 : A.tmps[3]?.getD undef = .pointer (some ⟨w.heap.size, 0, none⟩) := (gd A 3).trans (hkept 3 (by kernel_rfl))
                refine wpOp_step rfl (fun K hK => ?_)
                go_simp
                exact hK _ _ ⟨rfl, hJ⟩
              | 27, ho, hv, hLi =>
                cases Option.some.inj ho
                cases Option.some.inj hv
                have hG : A.tmps[65]? = some (.bool false) := gdb (hhas 7 65 _ rfl (hdep ⟨7, .guard⟩ (by simp) rfl))
                have h84 : A.tmps[84]?.getD undef = .pointer (some ⟨w.heap.size, 2, none⟩) := (gd A 84).trans (hhas 26 84 _ rfl (hdep ⟨26, .data⟩ (by simp) rfl))
                have zz := (hJ.cell (block_lt_of_cell y2)).trans y2
                refine wpOp_step rfl (fun K hK => ?_)
                go_simp
                exact hK _ _ ⟨rfl, hJ⟩
              | 28, ho, hv, hLi =>
                cases Option.some.inj ho
                cases Option.some.inj hv
                have hG : A.tmps[65]? = some (.bool false) := gdb (hhas 7 65 _ rfl (hdep ⟨7, .guard⟩ (by simp) rfl))
                have h83 : A.tmps[83]?.getD undef = .int .i64 (min + l) := (gd A 83).trans (hhas 25 83 _ rfl (hdep ⟨25, .data⟩ (by simp) rfl))
                have h85 : A.tmps[85]?.getD undef = .int .i64 a := (gd A 85).trans (hhas 27 85 _ rfl (hdep ⟨27, .data⟩ (by simp) rfl))
                refine wpOp_step rfl (fun K hK => ?_)
                go_simp
                exact hK _ _ ⟨rfl, hJ⟩
              | 29, ho, hv, hLi =>
                cases Option.some.inj ho
                cases Option.some.inj hv
                have hG : A.tmps[65]? = some (.bool false) := gdb (hhas 7 65 _ rfl (hdep ⟨7, .guard⟩ (by simp) rfl))
                have h78 : A.tmps[78]?.getD undef = .int .i64 (min - b) := (gd A 78).trans (hhas 20 78 _ rfl (hdep ⟨20, .data⟩ (by simp) rfl))
                have h86 : A.tmps[86]?.getD undef = .int .i64 (min + l + a) := (gd A 86).trans (hhas 28 86 _ rfl (hdep ⟨28, .data⟩ (by simp) rfl))
                refine wpOp_step rfl (fun K hK => ?_)
                go_simp
                exact hK _ _ ⟨rfl, hJ⟩
              | 30, ho, hv, hLi =>
                cases Option.some.inj ho
                cases Option.some.inj hv
                have hG : A.tmps[65]? = some (.bool false) := gdb (hhas 7 65 _ rfl (hdep ⟨7, .guard⟩ (by simp) rfl))
                have h73 : A.tmps[73]?.getD undef = .agg (mv f) := (gd A 73).trans (hhas 15 73 _ rfl (hdep ⟨15, .data⟩ (by simp) rfl))
                have h87 : A.tmps[87]?.getD undef = .agg #[.int .i64 (min - b), .int .i64 (min + l + a)] := (gd A 87).trans (hhas 29 87 _ rfl (hdep ⟨29, .data⟩ (by simp) rfl))
                refine wpOp_step rfl (fun K hK => ?_)
                go_simp
                refine (holds_any f (min - b) (min + l + a) W2).mono ?_
                rintro r' W' ⟨rfl, hb'⟩
                exact hK _ _ ⟨rfl, hJ.trans (hb'.mono hJ.size)⟩
              | 31, ho, hv, hLi =>
                cases Option.some.inj ho
                cases Option.some.inj hv
                have hG : A.tmps[65]? = some (.bool false) := gdb (hhas 7 65 _ rfl (hdep ⟨7, .guard⟩ (by simp) rfl))
                have h88 : A.tmps[88]?.getD undef = .bool (holdB f (min - b) (min + l + a)) := (gd A 88).trans (hhas 30 88 _ rfl (hdep ⟨30, .data⟩ (by simp) rfl))
                refine wpOp_step rfl (fun K hK => ?_)
                go_simp
                exact hK _ _ ⟨rfl, hJ⟩
              | 32, ho, hv, hLi =>
                cases Option.some.inj ho
                cases Option.some.inj hv
                have h65 : A.tmps[65]?.getD undef = .bool false := (gd A 65).trans (hhas 7 65 _ rfl (hdep ⟨7, .data⟩ (by simp) rfl))
                have h89 : A.tmps[89]?.getD undef = .bool (!holdB f (min - b) (min + l + a)) := (gd A 89).trans (hhas 31 89 _ rfl (hdep ⟨31, .data⟩ (by simp) rfl))
                refine wpOp_step rfl (fun K hK => ?_)
                go_simp
                exact hK _ _ ⟨rfl, hJ⟩
              | kk + 33, ho, hv, hLi => simp at hv
            · intro L W5 hL hJ
              simp only [putAll_cons, putAll_nil, Act.put, List.setIfInBounds_toArray, List.set_cons_succ, List.set_cons_zero]
              clear hL
              have HB5 := hidr (HBr.out.trans (hJ.mono HBr.out.size))
              have HM5 := hidr (HM.out.later (hJ.block _ (lt_of_mapB HM.out)))
              have hgm5 : wA.heap.size ≤ gm := hgm
              clear hJ
              cases hh : holdB f (min - b) (min + l + a) with
              | false =>
                have HN : Hid (fitB ⟨l, b, a, roles⟩ ds (dn : Int) min who = false) := HX.out.trans (by rw [if_pos (by right; right; rw [HOK.out]; exact hh)])
                go_wp2_with fail
                go_ret
                exact ⟨by (rw [HN.out]) <;> rfl, HB.out.trans (HB5.out.mono HB.out.size)⟩
              | true =>
                have HY := hidr (HX.out.trans (if_neg (by rw [HOK.out, hh]; simp [hmem, hnh])))
                obtain ⟨ob, hup, hM2⟩ := insB HM5.out (rn : Int)
                have HM2 := hidr hM2
                have HB6 := hidr (putB5_below HB5.out hgm5 ob)
                clear hM2 hh
                go_wp2_with fail
                go_roundw
                case rel => exact ⟨j + 1, _, by go_num, by omega, HY, HM2, HB6⟩
                case measure => simp [intOf]; omega

    · have hlt' : ¬ (j : Int) < (who.length : Int) := by omega
      have HN : Hid (fitB ⟨l, b, a, roles⟩ ds (dn : Int) min who = true) := by
        show _ = _
        rw [hX.out, List.drop_of_length_le (by omega)]
        rfl
      clear hX
      go_wp2_with fail
      go_ret
      exact ⟨by (rw [HN.out]) <;> rfl, HB.out.trans (HBr.out.mono HB.out.size)⟩
end Go.Proofs.YtlhjgajhcabhoaaDoor
