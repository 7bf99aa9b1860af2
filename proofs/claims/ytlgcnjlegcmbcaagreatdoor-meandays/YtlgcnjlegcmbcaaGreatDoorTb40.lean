/- What the law MeanDays comes to. Written by genmd.py. -/
import Derived.Test.YtlgcnjlegcmbcaaGreatDoorTb39
namespace Go.Proofs.YtlgcnjlegcmbcaaGreatDoor
open Go.RowKit Lx Msk
set_option maxRecDepth 100000 in
set_option maxHeartbeats 8000000 in
theorem mdays_walk (us : List (Ru × Value)) (v : Value) (e : Ex) (pe : Option Addr) (ce : Nat) (set x y day : Int) (w : World) (h : InR w v us) (hE : RuleIn w ((zzn, e), .slice pe e.kids.length ce)) (h80 : us.length * 80 ≤ 140737488351232) (hnil : ∀ n c, v = .slice none n c → c = 0) (hPT : PT2 w) :
    Calls Tryz.prog 4 #[v, .agg #[.int .i64 e.kind, .int .i64 e.a, .int .i64 e.b, .string ⟨e.name.toArray⟩, .slice pe e.kids.length ce], .int .i64 set, .int .i64 x, .int .i64 y, .int .i64 day] w fun r w' => r = .returned (.bool true) ∧ Below w.heap.size w w' := by
  obtain ⟨l, hl⟩ : ∃ l, us.map (fun p => p.1) = l := ⟨_, rfl⟩
  have hll : l.length = us.length := by rw [← hl, List.length_map]
  obtain ⟨pv, cv, rfl⟩ := h.form
  have hp0 : pv = none → cv = 0 := fun e => hnil us.length cv (by rw [e])
  have hz := mv_lit
  have bA := (Below.refl w.heap.size w).alloc (Nat.le_refl _) (.cells #[.int .i64 e.kind, .int .i64 e.a, .int .i64 e.b, .string ⟨e.name.toArray⟩, .slice pe e.kids.length ce] 25)
  have nA := heap_alloc_new w (.cells #[.int .i64 e.kind, .int .i64 e.a, .int .i64 e.b, .string ⟨e.name.toArray⟩, .slice pe e.kids.length ce] 25)
  generalize hwA : w.alloc (.cells #[.int .i64 e.kind, .int .i64 e.a, .int .i64 e.b, .string ⟨e.name.toArray⟩, .slice pe e.kids.length ce] 25) = wA at *
  have c0 := alive6_any wA (hPT.below bA)
  have HOF : Hid (∀ (e' : Ex) (pe' : Option Addr) (ce' : Nat) (W : World), Below w.heap.size w W → RuleIn W ((zzn, e'), .slice pe' e'.kids.length ce') → Calls Tryz.prog 9 #[.slice pv us.length cv, .agg #[.int .i64 e'.kind, .int .i64 e'.a, .int .i64 e'.b, .string ⟨e'.name.toArray⟩, .slice pe' e'.kids.length ce'], .int .i64 day] W (OutOf l e' l.length day W)) := fun e' pe' ce' W hW hr => by
    rw [hll]
    exact of6_any us pv cv e' pe' ce' day l W (h.below hW) hr h80 hp0 hl
  have HER := hid5 hE
  have HLL := hid5 hll
  clear h hE hl hll hPT hnil hp0 h80
  go_enter Tryz.func4, Tryz.ntmps4
  go_wp2_with fail
  refine c0.mono ?_
  rintro r w0 ⟨rfl, hb0⟩
  have hbw0 := bA.trans (hb0.mono bA.size)
  have n0 := (hb0.block _ (lt_of_block nA)).trans nA
  have d1 := HOF.out e pe ce w0 hbw0 (HER.out.below hbw0)
  clear c0 hb0 nA hwA bA
  go_wp2_with (refine wpList_load_row rfl 25 _ rfl _ rfl _ _ _ _ n0 exprType5 rfl (by kernel_rfl) ?_)
  refine (d1).mono ?_
  rintro r w1 hout
  obtain ⟨f1, ok1, rfl, ho1, bb1⟩ := hout.flat
  have HO1 := hid5 ho1
  clear hout ho1
  have hb1 := hbw0.trans (bb1.mono hbw0.size)
  have ba1 := (Below.refl w1.heap.size w1).alloc (Nat.le_refl _) (.cells (mv fun _ => false) 29)
  have na1 := heap_alloc_new w1 (.cells (mv fun _ => false) 29)
  have bm1 := below_setRow ba1 (Nat.le_refl _) (mv f1)
  have nm1 := setRow_heap _ _ _ (mv f1) _ _ na1
  have hm1 := hb1.trans (bm1.mono hb1.size)
  generalize hwa1 : w1.alloc (.cells (mv fun _ => false) 29) = w1a at *
  generalize hwm1 : w1a.setRow w1.heap.size (mv f1) = w1m at *
  have n1 := (bm1.block _ (by have := lt_of_block n0; have := bb1.size; omega)).trans ((bb1.block _ (lt_of_block n0)).trans n0)
  have bx2 := (Below.refl w1m.heap.size w1m).alloc (Nat.le_refl _) (.cells #[.int .i64 e.kind, .int .i64 e.a, .int .i64 e.b, .string ⟨e.name.toArray⟩, .slice pe e.kids.length ce] 25)
  have nx2 := heap_alloc_new w1m (.cells #[.int .i64 e.kind, .int .i64 e.a, .int .i64 e.b, .string ⟨e.name.toArray⟩, .slice pe e.kids.length ce] 25)
  have hx2 := hm1.trans (bx2.mono hm1.size)
  have n2 := (bx2.block _ (lt_of_block n1)).trans n1
  have m12 := (bx2.block _ (lt_of_block nm1)).trans nm1
  generalize hwx2 : w1m.alloc (.cells #[.int .i64 e.kind, .int .i64 e.a, .int .i64 e.b, .string ⟨e.name.toArray⟩, .slice pe e.kids.length ce] 25) = w2x at *
  have d2 : Calls Tryz.prog 9 #[.slice pv us.length cv, .agg #[.int .i64 4, .int .i64 set, .int .i64 0, .string ⟨#[]⟩, .slice (some ⟨w1m.heap.size, 0, none⟩) 1 1], .int .i64 day] w2x (OutOf l ⟨4, set, 0, [], [e]⟩ l.length day w2x) := HOF.out ⟨4, set, 0, [], [e]⟩ (some ⟨w1m.heap.size, 0, none⟩) 1 w2x hx2 (ruleIn_wrap 4 set 0 (HER.out.below hx2) nx2)
  clear d1 n0 bb1 bm1 ba1 hb1 hbw0 nx2
  go_wp2_with (first | (refine wpList_store_row rfl 29 _ _ rfl _ _ rfl rfl _ _ na1 (maskSize _) (by simp [mv_size]) (mv_all _) ?_) | (refine wpList_load_row rfl 25 _ rfl _ rfl _ _ _ _ n1 exprType5 rfl (by kernel_rfl) ?_))
  refine (d2).mono ?_
  rintro r w2 hout
  obtain ⟨f2, ok2, rfl, ho2, bb2⟩ := hout.flat
  have HO2 := hid5 ho2
  clear hout ho2
  have hb2 := hx2.trans (bb2.mono hx2.size)
  have ba2 := (Below.refl w2.heap.size w2).alloc (Nat.le_refl _) (.cells (mv fun _ => false) 29)
  have na2 := heap_alloc_new w2 (.cells (mv fun _ => false) 29)
  have bm2 := below_setRow ba2 (Nat.le_refl _) (mv f2)
  have nm2 := setRow_heap _ _ _ (mv f2) _ _ na2
  have hm2 := hb2.trans (bm2.mono hb2.size)
  generalize hwa2 : w2.alloc (.cells (mv fun _ => false) 29) = w2a at *
  generalize hwm2 : w2a.setRow w2.heap.size (mv f2) = w2m at *
  have n3 := (bm2.block _ (by have := lt_of_block n2; have := bb2.size; omega)).trans ((bb2.block _ (lt_of_block n2)).trans n2)
  have m13 := (bm2.block _ (by have := lt_of_block m12; have := bb2.size; omega)).trans ((bb2.block _ (lt_of_block m12)).trans m12)
  have bx3 := (Below.refl w2m.heap.size w2m).alloc (Nat.le_refl _) (.cells #[.int .i64 e.kind, .int .i64 e.a, .int .i64 e.b, .string ⟨e.name.toArray⟩, .slice pe e.kids.length ce] 25)
  have nx3 := heap_alloc_new w2m (.cells #[.int .i64 e.kind, .int .i64 e.a, .int .i64 e.b, .string ⟨e.name.toArray⟩, .slice pe e.kids.length ce] 25)
  have hx3 := hm2.trans (bx3.mono hm2.size)
  have m14 := (bx3.block _ (lt_of_block m13)).trans m13
  have m24 := (bx3.block _ (lt_of_block nm2)).trans nm2
  generalize hwx3 : w2m.alloc (.cells #[.int .i64 e.kind, .int .i64 e.a, .int .i64 e.b, .string ⟨e.name.toArray⟩, .slice pe e.kids.length ce] 25) = w3x at *
  have d3 : Calls Tryz.prog 9 #[.slice pv us.length cv, .agg #[.int .i64 5, .int .i64 x, .int .i64 y, .string ⟨#[]⟩, .slice (some ⟨w2m.heap.size, 0, none⟩) 1 1], .int .i64 day] w3x (OutOf l ⟨5, x, y, [], [e]⟩ l.length day w3x) := HOF.out ⟨5, x, y, [], [e]⟩ (some ⟨w2m.heap.size, 0, none⟩) 1 w3x hx3 (ruleIn_wrap 5 x y (HER.out.below hx3) nx3)
  clear d2 n1 n2 bb2 bm2 ba2 hb2 hx2 nx3 m12 m13 hm1 na1 hwa1 hwm1 hwx2 nm1 bx2
  go_wp2_with (first | (refine wpList_store_row rfl 29 _ _ rfl _ _ rfl rfl _ _ na2 (maskSize _) (by simp [mv_size]) (mv_all _) ?_) | (refine wpList_load_row rfl 25 _ rfl _ rfl _ _ _ _ n3 exprType5 rfl (by kernel_rfl) ?_))
  refine (d3).mono ?_
  rintro r w3 hout
  obtain ⟨f3, ok3, rfl, ho3, bb3⟩ := hout.flat
  have HO3 := hid5 ho3
  clear hout ho3
  have hb3 := hx3.trans (bb3.mono hx3.size)
  have ba3 := (Below.refl w3.heap.size w3).alloc (Nat.le_refl _) (.cells (mv fun _ => false) 29)
  have na3 := heap_alloc_new w3 (.cells (mv fun _ => false) 29)
  have bm3 := below_setRow ba3 (Nat.le_refl _) (mv f3)
  have nm3 := setRow_heap _ _ _ (mv f3) _ _ na3
  have hm3 := hb3.trans (bm3.mono hb3.size)
  generalize hwa3 : w3.alloc (.cells (mv fun _ => false) 29) = w3a at *
  generalize hwm3 : w3a.setRow w3.heap.size (mv f3) = w3m at *
  have m15 := (bm3.block _ (by have := lt_of_block m14; have := bb3.size; omega)).trans ((bb3.block _ (lt_of_block m14)).trans m14)
  have m25 := (bm3.block _ (by have := lt_of_block m24; have := bb3.size; omega)).trans ((bb3.block _ (lt_of_block m24)).trans m24)
  have HBF := hid5 hm3
  clear d3 n3 bb3 bm3 ba3 hb3 hx3 m14 m24 hm2 na2 hwa2 hwm2 hwx3 nm2 bx3 HOF HER
  cases ok1 with
  | false =>
    clear HO1 HO2 HO3
    go_wp2_with (refine wpList_store_row rfl 29 _ _ rfl _ _ rfl rfl _ _ na3 (maskSize _) (by simp [mv_size]) (mv_all _) ?_)
    go_ret
    exact ⟨rfl, HBF.out⟩
  | true =>
  cases ok2 with
  | false =>
    clear HO1 HO2 HO3
    go_wp2_with (refine wpList_store_row rfl 29 _ _ rfl _ _ rfl rfl _ _ na3 (maskSize _) (by simp [mv_size]) (mv_all _) ?_)
    go_ret
    exact ⟨rfl, HBF.out⟩
  | true =>
  cases ok3 with
  | false =>
    clear HO1 HO2 HO3
    go_wp2_with (refine wpList_store_row rfl 29 _ _ rfl _ _ rfl rfl _ _ na3 (maskSize _) (by simp [mv_size]) (mv_all _) ?_)
    go_ret
    exact ⟨rfl, HBF.out⟩
  | true =>
  obtain ⟨q1, e1⟩ := HO1.out rfl
  obtain ⟨q2, e2⟩ := HO2.out rfl
  obtain ⟨q3, e3⟩ := HO3.out rfl
  rw [of_week q1 q2, ← e1] at e2
  rw [of_dates q1 q3, ← e1] at e3
  obtain ⟨dd0, dd1⟩ := mflt_day q1
  have b4 := (Below.refl w3m.heap.size w3m).alloc (Nat.le_refl _) (.cells (mv fun _ => false) 29)
  have na4 := heap_alloc_new w3m (.cells (mv fun _ => false) 29)
  have b5 := below_setRow b4 (Nat.le_refl _) (mv fun _ => false)
  have n19 := setRow_heap _ _ _ (mv fun _ => false) _ _ na4
  have n13 := (b5.block _ (lt_of_block m15)).trans m15
  have n15 := (b5.block _ (lt_of_block m25)).trans m25
  have n17 := (b5.block _ (lt_of_block nm3)).trans nm3
  have hb5 := hm3.trans (b5.mono hm3.size)
  generalize hwa4 : w3m.alloc (.cells (mv fun _ => false) 29) = w4a at *
  generalize hwm4 : w4a.setRow w3m.heap.size (mv fun _ => false) = w4 at *
  have cW := week6 day w4 dd0 dd1
  have hwb := wkd_bd day dd0
  have HE2 := hid5 e2
  have HE3 := hid5 e3
  have HB5 := hid5 hb5
  clear HO1 HO2 HO3 q1 q2 q3 e1 e2 e3 b4 b5 m15 m25 hb5 HBF
  go_wp2_with (first | (refine wpList_store_row rfl 29 _ _ rfl _ _ rfl rfl _ _ na3 (maskSize _) (by simp [mv_size]) (mv_all _) ?_) | (refine wpList_store_row rfl 29 _ _ rfl _ _ rfl rfl _ _ na4 (maskSize _) (by simp [mv_size]) (mv_all _) ?_))
  refine cW.mono ?_
  rintro r w5 ⟨rfl, rfl⟩
  clear cW
  have HN : ∀ (f : Nat → Bool) (W : World), (binOp .neq 29 (.agg (mv f)) (.agg (mv f))).run Tryz.prog W = .ok (.bool false) W := fun f W => by rw [neq_mask, eqm_true fun _ _ => rfl]; rfl
  have HQ : ∀ (f : Nat → Bool) (W : World), (binOp .eql 29 (.agg (mv f)) (.agg (mv f))).run Tryz.prog W = .ok (.bool true) W := fun f W => by rw [eql_mask, eqm_true fun _ _ => rfl]
  cases hw : wkB day set with
  | true =>
    have g2 : f2 = f1 := HE2.out.trans (if_pos hw)
    subst g2
    have hw' : (bits BinOp.and IntKind.i64 (set / 2 ^ (wkd day).toNat) 1 == 1) = true := hw
    by_cases hd : x ≤ day ∧ day ≤ y
    · have g3 : f3 = f2 := HE3.out.trans (if_pos hd)
      subst g3
      obtain ⟨h1, h2⟩ := hd
      clear HE2 HE3 hw
      go_wp2_with (first | (refine wpList_load_row rfl 29 _ rfl _ rfl _ _ _ _ n13 maskType rfl (maskSize _) ?_) | (refine wpList_load_row rfl 29 _ rfl _ rfl _ _ _ _ n15 maskType rfl (maskSize _) ?_) | (refine wpList_load_row rfl 29 _ rfl _ rfl _ _ _ _ n17 maskType rfl (maskSize _) ?_) | (refine wpList_load_row rfl 29 _ rfl _ rfl _ _ _ _ n19 maskType rfl (maskSize _) ?_))
      go_ret
      exact ⟨rfl, HB5.out⟩
    · have g3 : f3 = fun _ => false := HE3.out.trans (if_neg hd)
      subst g3
      clear HE2 HE3 hw
      by_cases h1 : x ≤ day
      · have h2 : ¬ day ≤ y := fun h2 => hd ⟨h1, h2⟩
        clear hd
        go_wp2_with (first | (refine wpList_load_row rfl 29 _ rfl _ rfl _ _ _ _ n13 maskType rfl (maskSize _) ?_) | (refine wpList_load_row rfl 29 _ rfl _ rfl _ _ _ _ n15 maskType rfl (maskSize _) ?_) | (refine wpList_load_row rfl 29 _ rfl _ rfl _ _ _ _ n17 maskType rfl (maskSize _) ?_) | (refine wpList_load_row rfl 29 _ rfl _ rfl _ _ _ _ n19 maskType rfl (maskSize _) ?_))
        go_ret
        exact ⟨rfl, HB5.out⟩
      · clear hd
        go_wp2_with (first | (refine wpList_load_row rfl 29 _ rfl _ rfl _ _ _ _ n13 maskType rfl (maskSize _) ?_) | (refine wpList_load_row rfl 29 _ rfl _ rfl _ _ _ _ n15 maskType rfl (maskSize _) ?_) | (refine wpList_load_row rfl 29 _ rfl _ rfl _ _ _ _ n17 maskType rfl (maskSize _) ?_) | (refine wpList_load_row rfl 29 _ rfl _ rfl _ _ _ _ n19 maskType rfl (maskSize _) ?_))
        go_ret
        exact ⟨rfl, HB5.out⟩
  | false =>
    have g2 : f2 = fun _ => false := HE2.out.trans (if_neg (by rw [hw]; decide))
    subst g2
    have hw' : (bits BinOp.and IntKind.i64 (set / 2 ^ (wkd day).toNat) 1 == 1) = false := hw
    by_cases hd : x ≤ day ∧ day ≤ y
    · have g3 : f3 = f1 := HE3.out.trans (if_pos hd)
      subst g3
      obtain ⟨h1, h2⟩ := hd
      clear HE2 HE3 hw
      go_wp2_with (first | (refine wpList_load_row rfl 29 _ rfl _ rfl _ _ _ _ n13 maskType rfl (maskSize _) ?_) | (refine wpList_load_row rfl 29 _ rfl _ rfl _ _ _ _ n15 maskType rfl (maskSize _) ?_) | (refine wpList_load_row rfl 29 _ rfl _ rfl _ _ _ _ n17 maskType rfl (maskSize _) ?_) | (refine wpList_load_row rfl 29 _ rfl _ rfl _ _ _ _ n19 maskType rfl (maskSize _) ?_))
      go_ret
      exact ⟨rfl, HB5.out⟩
    · have g3 : f3 = fun _ => false := HE3.out.trans (if_neg hd)
      subst g3
      clear HE2 HE3 hw
      by_cases h1 : x ≤ day
      · have h2 : ¬ day ≤ y := fun h2 => hd ⟨h1, h2⟩
        clear hd
        go_wp2_with (first | (refine wpList_load_row rfl 29 _ rfl _ rfl _ _ _ _ n13 maskType rfl (maskSize _) ?_) | (refine wpList_load_row rfl 29 _ rfl _ rfl _ _ _ _ n15 maskType rfl (maskSize _) ?_) | (refine wpList_load_row rfl 29 _ rfl _ rfl _ _ _ _ n17 maskType rfl (maskSize _) ?_) | (refine wpList_load_row rfl 29 _ rfl _ rfl _ _ _ _ n19 maskType rfl (maskSize _) ?_))
        go_ret
        exact ⟨rfl, HB5.out⟩
      · clear hd
        go_wp2_with (first | (refine wpList_load_row rfl 29 _ rfl _ rfl _ _ _ _ n13 maskType rfl (maskSize _) ?_) | (refine wpList_load_row rfl 29 _ rfl _ rfl _ _ _ _ n15 maskType rfl (maskSize _) ?_) | (refine wpList_load_row rfl 29 _ rfl _ rfl _ _ _ _ n17 maskType rfl (maskSize _) ?_) | (refine wpList_load_row rfl 29 _ rfl _ rfl _ _ _ _ n19 maskType rfl (maskSize _) ?_))
        go_ret
        exact ⟨rfl, HB5.out⟩
end Go.Proofs.YtlgcnjlegcmbcaaGreatDoor
