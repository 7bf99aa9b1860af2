/- What the law MeanSets comes to. Written by genms.py. -/
import Derived.Test.YtllcpoibnmhghaaGreatDoorTb41
import Derived.Deep.Cut
namespace Go.Proofs.YtllcpoibnmhghaaGreatDoor
open Go.RowKit Lx Msk
theorem OutOf.flat2 {l : List Ru} {e : Ex} {n : Nat} {day : Int} {w w' : World} {r : Ending} (h : OutOf l e n day w r w') : ∃ (f : Nat → Bool) (ok : Bool), r = .returned (.tuple #[.agg (mv f), .bool ok]) ∧ (((mflt (l ++ [(zzn, e)]) day).1 = 0 ∧ ok = true ∧ f = meanP (l ++ [(zzn, e)]) (wkB day) day n) ∨ ((mflt (l ++ [(zzn, e)]) day).1 ≠ 0 ∧ ok = false ∧ f = fun _ => false)) ∧ True ∧ Below w.heap.size w w' := by
  rcases h with ⟨h1, h2, h3⟩ | ⟨h1, h2, h3⟩
  · exact ⟨_, true, h2, .inl ⟨h1, rfl, rfl⟩, trivial, h3⟩
  · exact ⟨_, false, h2, .inr ⟨h1, rfl, rfl⟩, trivial, h3⟩
theorem skip_g {P : Program} {ops : Array Oper} {rest : List Oper} {op : Oper} {a : Act} {w : World} {Q : Exit → Act → World → Prop} (hw : Region.wanted op (yielded ops a.tmps) = false) (h : wpList P ops Q rest (a.put op.dst undef) w) : wpList P ops Q (op :: rest) a w :=
  wpList_step fun K hK => by
    rw [if_neg (by rw [hw]; decide)]
    exact hK _ _ h
theorem unw7 {ops : Array Oper} {A : Act} {o : Oper} {gi gs : Nat} {want : Bool} (hg : o.guard = some (gi, want)) (hd : (ops[gi]?).bind (·.dst) = some gs) (hG : A.tmps[gs]?.getD undef = undef) : ¬ Region.wanted o (yielded ops A.tmps) = true := by
  unfold Region.wanted
  rw [hg]
  unfold yielded
  dsimp only
  rw [hd]
  dsimp only [Option.bind_some]
  cases h : A.tmps[gs]? with
  | none => simp
  | some v =>
    rw [h] at hG
    have : v = undef := hG
    subst this
    simp [undef]
theorem eql_same (f : Nat → Bool) (w : World) : (binOp .eql 29 (.agg (mv f)) (.agg (mv f))).run Tryz.prog w = .ok (.bool true) w := by
  rw [eql_mask, eqm_true fun _ _ => rfl]
set_option maxRecDepth 100000 in
set_option maxHeartbeats 16000000 in
theorem msets_walk (us : List (Ru × Value)) (v : Value) (e e' : Ex) (pe pe' : Option Addr) (ce ce' : Nat) (day : Int) (w : World) (h : InR w v us) (hE : RuleIn w ((zzn, e), .slice pe e.kids.length ce)) (hE' : RuleIn w ((zzn, e'), .slice pe' e'.kids.length ce')) (h80 : us.length * 80 ≤ 140737488351232) (hnil : ∀ n c, v = .slice none n c → c = 0) (hPT : PT2 w) :
    Calls Tryz.prog 3 #[v, .agg #[.int .i64 e.kind, .int .i64 e.a, .int .i64 e.b, .string ⟨e.name.toArray⟩, .slice pe e.kids.length ce], .agg #[.int .i64 e'.kind, .int .i64 e'.a, .int .i64 e'.b, .string ⟨e'.name.toArray⟩, .slice pe' e'.kids.length ce'], .int .i64 day] w fun r w' => r = .returned (.bool true) ∧ Below w.heap.size w w' := by
  obtain ⟨l, hl⟩ : ∃ l, us.map (fun p => p.1) = l := ⟨_, rfl⟩
  have hll : l.length = us.length := by rw [← hl, List.length_map]
  obtain ⟨pv, cv, rfl⟩ := h.form
  have hp0 : pv = none → cv = 0 := fun e => hnil us.length cv (by rw [e])
  have hz := mv_lit
  have bA : Below w.heap.size w ((w.alloc (.cells #[.int .i64 e.kind, .int .i64 e.a, .int .i64 e.b, .string ⟨e.name.toArray⟩, .slice pe e.kids.length ce] 25)).alloc (.cells #[.int .i64 e'.kind, .int .i64 e'.a, .int .i64 e'.b, .string ⟨e'.name.toArray⟩, .slice pe' e'.kids.length ce'] 25)) := ((Below.refl _ _).alloc (Nat.le_refl _) _).alloc (by simp) _
  have nA0 : ((w.alloc (.cells #[.int .i64 e.kind, .int .i64 e.a, .int .i64 e.b, .string ⟨e.name.toArray⟩, .slice pe e.kids.length ce] 25)).alloc (.cells #[.int .i64 e'.kind, .int .i64 e'.a, .int .i64 e'.b, .string ⟨e'.name.toArray⟩, .slice pe' e'.kids.length ce'] 25)).heap[w.heap.size]? = some (.cells #[.int .i64 e.kind, .int .i64 e.a, .int .i64 e.b, .string ⟨e.name.toArray⟩, .slice pe e.kids.length ce] 25 (0, 0)) := by (repeat (first | refine blk_old _ _ _ (by simp only [size_alloc]; omega) ?_ | exact blk_new _ _ _ (by first | rfl | simp only [size_alloc])))
  have nB0 : ((w.alloc (.cells #[.int .i64 e.kind, .int .i64 e.a, .int .i64 e.b, .string ⟨e.name.toArray⟩, .slice pe e.kids.length ce] 25)).alloc (.cells #[.int .i64 e'.kind, .int .i64 e'.a, .int .i64 e'.b, .string ⟨e'.name.toArray⟩, .slice pe' e'.kids.length ce'] 25)).heap[w.heap.size + 1]? = some (.cells #[.int .i64 e'.kind, .int .i64 e'.a, .int .i64 e'.b, .string ⟨e'.name.toArray⟩, .slice pe' e'.kids.length ce'] 25 (0, 0)) := by (repeat (first | refine blk_old _ _ _ (by simp only [size_alloc]; omega) ?_ | exact blk_new _ _ _ (by first | rfl | simp only [size_alloc])))
  generalize hwA : (w.alloc (.cells #[.int .i64 e.kind, .int .i64 e.a, .int .i64 e.b, .string ⟨e.name.toArray⟩, .slice pe e.kids.length ce] 25)).alloc (.cells #[.int .i64 e'.kind, .int .i64 e'.a, .int .i64 e'.b, .string ⟨e'.name.toArray⟩, .slice pe' e'.kids.length ce'] 25) = wA at *
  have c0 := alive6_any wA (hPT.below bA)
  have HOF : Hid (∀ (q : Ex) (pq : Option Addr) (cq : Nat) (W : World), Below w.heap.size w W → RuleIn W ((zzn, q), .slice pq q.kids.length cq) → Calls Tryz.prog 9 #[.slice pv us.length cv, .agg #[.int .i64 q.kind, .int .i64 q.a, .int .i64 q.b, .string ⟨q.name.toArray⟩, .slice pq q.kids.length cq], .int .i64 day] W (OutOf l q l.length day W)) := fun q pq cq W hW hr => by
    rw [hll]
    exact of6_any us pv cv q pq cq day l W (h.below hW) hr h80 hp0 hl
  have HEA := hid5 hE
  have HEB := hid5 hE'
  clear h hE hE' hl hll hPT hnil hp0 h80
  go_enter Tryz.func3, Tryz.ntmps3
  go_wp2_with fail
  refine c0.mono ?_
  rintro r w0 ⟨rfl, hbx⟩
  have hb0 := bA.trans (hbx.mono bA.size)
  have nA := (hbx.block _ (lt_of_block nA0)).trans nA0
  have nB := (hbx.block _ (lt_of_block nB0)).trans nB0
  have d1 := HOF.out e pe ce w0 hb0 (HEA.out.below hb0)
  clear c0 hbx nA0 nB0 hwA bA
  go_wp2_with (first | (refine wpList_load_row rfl 25 _ rfl _ rfl _ _ _ _ nA exprType5 rfl (by kernel_rfl) ?_))
  refine d1.mono ?_
  rintro r w1 hout
  obtain ⟨f1, ok1, rfl, ho1, bb1⟩ := hout.flat
  have HO1 := hid5 ho1
  clear hout ho1 d1
  have hn1 := hb0.trans (bb1.mono hb0.size)
  have ba1 := (Below.refl w1.heap.size w1).alloc (Nat.le_refl _) (.cells (mv fun _ => false) 29)
  have na1 := heap_alloc_new w1 (.cells (mv fun _ => false) 29)
  have bm1 := below_setRow ba1 (Nat.le_refl _) (mv f1)
  have m1 := setRow_heap _ _ _ (mv f1) _ _ na1
  have hm1 := hn1.trans (bm1.mono hn1.size)
  have bp1 := (Below.refl w0.heap.size w0).trans ((bb1.trans (bm1.mono bb1.size)).mono (Below.refl w0.heap.size w0).size)
  generalize hwa1 : w1.alloc (.cells (mv fun _ => false) 29) = w1a at *
  generalize hwm1 : w1a.setRow w1.heap.size (mv f1) = w1m at *
  have nA' := (bp1.block _ (lt_of_block nA)).trans nA
  clear nA
  have nA := nA'
  clear nA'
  have nB' := (bp1.block _ (lt_of_block nB)).trans nB
  clear nB
  have nB := nB'
  clear nB'
  clear bb1 bm1 ba1 hn1 bp1 hb0
  have d2 := HOF.out e' pe' ce' w1m hm1 (HEB.out.below hm1)
  go_wp2_with (first | (refine wpList_store_row rfl 29 _ _ rfl _ _ rfl rfl _ _ na1 (maskSize _) (by simp [mv_size]) (mv_all _) ?_) | (refine wpList_load_row rfl 25 _ rfl _ rfl _ _ _ _ nB exprType5 rfl (by kernel_rfl) ?_))
  clear na1 hwa1 hwm1
  refine d2.mono ?_
  rintro r w2 hout
  obtain ⟨f2, ok2, rfl, ho2, bb2⟩ := hout.flat
  have HO2 := hid5 ho2
  clear hout ho2 d2
  have hn2 := hm1.trans (bb2.mono hm1.size)
  have ba2 := (Below.refl w2.heap.size w2).alloc (Nat.le_refl _) (.cells (mv fun _ => false) 29)
  have na2 := heap_alloc_new w2 (.cells (mv fun _ => false) 29)
  have bm2 := below_setRow ba2 (Nat.le_refl _) (mv f2)
  have m2 := setRow_heap _ _ _ (mv f2) _ _ na2
  have hm2 := hn2.trans (bm2.mono hn2.size)
  have bp2 := (Below.refl w1m.heap.size w1m).trans ((bb2.trans (bm2.mono bb2.size)).mono (Below.refl w1m.heap.size w1m).size)
  generalize hwa2 : w2.alloc (.cells (mv fun _ => false) 29) = w2a at *
  generalize hwm2 : w2a.setRow w2.heap.size (mv f2) = w2m at *
  have nA' := (bp2.block _ (lt_of_block nA)).trans nA
  clear nA
  have nA := nA'
  clear nA'
  have nB' := (bp2.block _ (lt_of_block nB)).trans nB
  clear nB
  have nB := nB'
  clear nB'
  have m1' := (bp2.block _ (lt_of_block m1)).trans m1
  clear m1
  have m1 := m1'
  clear m1'
  clear bb2 bm2 ba2 hn2 bp2 hm1
  have t3 := two_any 6 e e' pe pe' ce ce' w2m
  go_wp2_with (first | (refine wpList_store_row rfl 29 _ _ rfl _ _ rfl rfl _ _ na2 (maskSize _) (by simp [mv_size]) (mv_all _) ?_) | (refine wpList_load_row rfl 25 _ rfl _ rfl _ _ _ _ nA exprType5 rfl (by kernel_rfl) ?_) | (refine wpList_load_row rfl 25 _ rfl _ rfl _ _ _ _ nB exprType5 rfl (by kernel_rfl) ?_))
  clear na2 hwa2 hwm2
  refine t3.mono ?_
  rintro r wt3 ⟨g3, rfl, hg3, bt3⟩
  have ht3 := hm2.trans (bt3.mono hm2.size)
  have d3 : Calls Tryz.prog 9 #[.slice pv us.length cv, .agg #[.int .i64 6, .int .i64 0, .int .i64 0, .string ⟨#[]⟩, .slice (some ⟨g3, 0, none⟩) 2 2], .int .i64 day] wt3 (OutOf l (twoE 6 e e') l.length day wt3) := HOF.out (twoE 6 e e') (some ⟨g3, 0, none⟩) 2 wt3 ht3 (ruleIn_two 6 (HEA.out.below ht3) (HEB.out.below ht3) hg3)
  clear t3 hg3
  go_wp2_with fail
  refine d3.mono ?_
  rintro r w3 hout
  obtain ⟨f3, ok3, rfl, ho3, bb3⟩ := hout.flat
  have HO3 := hid5 ho3
  clear hout ho3 d3
  have hn3 := ht3.trans (bb3.mono ht3.size)
  have ba3 := (Below.refl w3.heap.size w3).alloc (Nat.le_refl _) (.cells (mv fun _ => false) 29)
  have na3 := heap_alloc_new w3 (.cells (mv fun _ => false) 29)
  have bm3 := below_setRow ba3 (Nat.le_refl _) (mv f3)
  have m3 := setRow_heap _ _ _ (mv f3) _ _ na3
  have hm3 := hn3.trans (bm3.mono hn3.size)
  have bp3 := (bt3).trans ((bb3.trans (bm3.mono bb3.size)).mono (bt3).size)
  generalize hwa3 : w3.alloc (.cells (mv fun _ => false) 29) = w3a at *
  generalize hwm3 : w3a.setRow w3.heap.size (mv f3) = w3m at *
  have nA' := (bp3.block _ (lt_of_block nA)).trans nA
  clear nA
  have nA := nA'
  clear nA'
  have nB' := (bp3.block _ (lt_of_block nB)).trans nB
  clear nB
  have nB := nB'
  clear nB'
  have m1' := (bp3.block _ (lt_of_block m1)).trans m1
  clear m1
  have m1 := m1'
  clear m1'
  have m2' := (bp3.block _ (lt_of_block m2)).trans m2
  clear m2
  have m2 := m2'
  clear m2'
  clear bb3 bm3 ba3 hn3 bp3 hm2 ht3 bt3
  cases ok1 with
  | false =>
    have HBF := hid5 hm3
    clear HO1 HO2 HO3 HOF HEA HEB hm3 nA nB m1 m2 m3
    go_wp2_with (refine wpList_store_row rfl 29 _ _ rfl _ _ rfl rfl _ _ na3 (maskSize _) (by simp [mv_size]) (mv_all _) ?_)
    go_ret
    exact ⟨rfl, HBF.out⟩
  | true =>
  cases ok2 with
  | false =>
    have HBF := hid5 hm3
    clear HO1 HO2 HO3 HOF HEA HEB hm3 nA nB m1 m2 m3
    go_wp2_with (refine wpList_store_row rfl 29 _ _ rfl _ _ rfl rfl _ _ na3 (maskSize _) (by simp [mv_size]) (mv_all _) ?_)
    go_ret
    exact ⟨rfl, HBF.out⟩
  | true =>
  cases ok3 with
  | false =>
    have HBF := hid5 hm3
    clear HO1 HO2 HO3 HOF HEA HEB hm3 nA nB m1 m2 m3
    go_wp2_with (refine wpList_store_row rfl 29 _ _ rfl _ _ rfl rfl _ _ na3 (maskSize _) (by simp [mv_size]) (mv_all _) ?_)
    go_ret
    exact ⟨rfl, HBF.out⟩
  | true =>
  obtain ⟨q1, e1⟩ := HO1.out rfl
  obtain ⟨q2, e2⟩ := HO2.out rfl
  obtain ⟨q3, e3⟩ := HO3.out rfl
  rw [of_union q1 q2 q3, ← e1, ← e2] at e3
  have q4 := q3
  rw [two_flt (.inl rfl) (k' := 7) (by decide)] at q4
  have q5 := q3
  rw [two_flt (.inl rfl) (k' := 8) (by decide)] at q5
  have r4 := of_diff q1 q2 q4
  have r5 := of_both q1 q2 q5
  rw [← e1, ← e2] at r4 r5
  obtain ⟨dd0, _⟩ := mflt_day q1
  have HQ1 := hid5 q1
  have HE1 := hid5 e1
  have HQ4 := hid5 q4
  have HQ5 := hid5 q5
  have HR4 := hid5 r4
  have HR5 := hid5 r5
  have HD0 := hid5 dd0
  clear HO1 HO2 HO3 q1 q2 q3 q4 q5 e1 e2 r4 r5 dd0
  subst e3
  have t4 := two_any 7 e e' pe pe' ce ce' w3m
  go_wp2_with (first | (refine wpList_store_row rfl 29 _ _ rfl _ _ rfl rfl _ _ na3 (maskSize _) (by simp [mv_size]) (mv_all _) ?_) | (refine wpList_load_row rfl 25 _ rfl _ rfl _ _ _ _ nA exprType5 rfl (by kernel_rfl) ?_) | (refine wpList_load_row rfl 25 _ rfl _ rfl _ _ _ _ nB exprType5 rfl (by kernel_rfl) ?_))
  clear na3 hwa3 hwm3
  refine t4.mono ?_
  rintro r wt4 ⟨g4, rfl, hg4, bt4⟩
  have ht4 := hm3.trans (bt4.mono hm3.size)
  have d4 : Calls Tryz.prog 9 #[.slice pv us.length cv, .agg #[.int .i64 7, .int .i64 0, .int .i64 0, .string ⟨#[]⟩, .slice (some ⟨g4, 0, none⟩) 2 2], .int .i64 day] wt4 (OutOf l (twoE 7 e e') l.length day wt4) := HOF.out (twoE 7 e e') (some ⟨g4, 0, none⟩) 2 wt4 ht4 (ruleIn_two 7 (HEA.out.below ht4) (HEB.out.below ht4) hg4)
  clear t4 hg4
  go_wp2_with fail
  refine d4.mono ?_
  rintro r w4 hout
  obtain ⟨f4, ok4, rfl, hk4, ho4, bb4⟩ := hout.flat2
  have HO4 := hid5 ho4
  clear hout ho4 d4
  have hn4 := ht4.trans (bb4.mono ht4.size)
  have ba4 := (Below.refl w4.heap.size w4).alloc (Nat.le_refl _) (.cells (mv fun _ => false) 29)
  have na4 := heap_alloc_new w4 (.cells (mv fun _ => false) 29)
  have bm4 := below_setRow ba4 (Nat.le_refl _) (mv f4)
  have m4 := setRow_heap _ _ _ (mv f4) _ _ na4
  have hm4 := hn4.trans (bm4.mono hn4.size)
  have bp4 := (bt4).trans ((bb4.trans (bm4.mono bb4.size)).mono (bt4).size)
  generalize hwa4 : w4.alloc (.cells (mv fun _ => false) 29) = w4a at *
  generalize hwm4 : w4a.setRow w4.heap.size (mv f4) = w4m at *
  have nA' := (bp4.block _ (lt_of_block nA)).trans nA
  clear nA
  have nA := nA'
  clear nA'
  have nB' := (bp4.block _ (lt_of_block nB)).trans nB
  clear nB
  have nB := nB'
  clear nB'
  have m1' := (bp4.block _ (lt_of_block m1)).trans m1
  clear m1
  have m1 := m1'
  clear m1'
  have m2' := (bp4.block _ (lt_of_block m2)).trans m2
  clear m2
  have m2 := m2'
  clear m2'
  have m3' := (bp4.block _ (lt_of_block m3)).trans m3
  clear m3
  have m3 := m3'
  clear m3'
  clear bb4 bm4 ba4 hn4 bp4 hm3 ht4 bt4
  have o4 : ok4 = true ∧ f4 = fun i => (f1 i && !f2 i) && decide (i < 1440) := by
    rcases hk4 with ⟨_, h2, h3⟩ | ⟨h1, _, _⟩
    · exact ⟨h2, h3.trans HR4.out⟩
    · exact absurd HQ4.out h1
  obtain ⟨rfl, rfl⟩ := o4
  clear HO4
  have t5 := two_any 8 e e' pe pe' ce ce' w4m
  go_wp2_with (first | (refine wpList_store_row rfl 29 _ _ rfl _ _ rfl rfl _ _ na4 (maskSize _) (by simp [mv_size]) (mv_all _) ?_) | (refine wpList_load_row rfl 25 _ rfl _ rfl _ _ _ _ nA exprType5 rfl (by kernel_rfl) ?_) | (refine wpList_load_row rfl 25 _ rfl _ rfl _ _ _ _ nB exprType5 rfl (by kernel_rfl) ?_))
  clear na4 hwa4 hwm4
  refine t5.mono ?_
  rintro r wt5 ⟨g5, rfl, hg5, bt5⟩
  have ht5 := hm4.trans (bt5.mono hm4.size)
  have d5 : Calls Tryz.prog 9 #[.slice pv us.length cv, .agg #[.int .i64 8, .int .i64 0, .int .i64 0, .string ⟨#[]⟩, .slice (some ⟨g5, 0, none⟩) 2 2], .int .i64 day] wt5 (OutOf l (twoE 8 e e') l.length day wt5) := HOF.out (twoE 8 e e') (some ⟨g5, 0, none⟩) 2 wt5 ht5 (ruleIn_two 8 (HEA.out.below ht5) (HEB.out.below ht5) hg5)
  clear t5 hg5
  go_wp2_with fail
  refine d5.mono ?_
  rintro r w5 hout
  obtain ⟨f5, ok5, rfl, hk5, ho5, bb5⟩ := hout.flat2
  have HO5 := hid5 ho5
  clear hout ho5 d5
  have hn5 := ht5.trans (bb5.mono ht5.size)
  have ba5 := (Below.refl w5.heap.size w5).alloc (Nat.le_refl _) (.cells (mv fun _ => false) 29)
  have na5 := heap_alloc_new w5 (.cells (mv fun _ => false) 29)
  have bm5 := below_setRow ba5 (Nat.le_refl _) (mv f5)
  have m5 := setRow_heap _ _ _ (mv f5) _ _ na5
  have hm5 := hn5.trans (bm5.mono hn5.size)
  have bp5 := (bt5).trans ((bb5.trans (bm5.mono bb5.size)).mono (bt5).size)
  generalize hwa5 : w5.alloc (.cells (mv fun _ => false) 29) = w5a at *
  generalize hwm5 : w5a.setRow w5.heap.size (mv f5) = w5m at *
  have nA' := (bp5.block _ (lt_of_block nA)).trans nA
  clear nA
  have nA := nA'
  clear nA'
  have nB' := (bp5.block _ (lt_of_block nB)).trans nB
  clear nB
  have nB := nB'
  clear nB'
  have m1' := (bp5.block _ (lt_of_block m1)).trans m1
  clear m1
  have m1 := m1'
  clear m1'
  have m2' := (bp5.block _ (lt_of_block m2)).trans m2
  clear m2
  have m2 := m2'
  clear m2'
  have m3' := (bp5.block _ (lt_of_block m3)).trans m3
  clear m3
  have m3 := m3'
  clear m3'
  have m4' := (bp5.block _ (lt_of_block m4)).trans m4
  clear m4
  have m4 := m4'
  clear m4'
  clear bb5 bm5 ba5 hn5 bp5 hm4 ht5 bt5
  have o5 : ok5 = true ∧ f5 = fun i => (f1 i && f2 i) && decide (i < 1440) := by
    rcases hk5 with ⟨_, h2, h3⟩ | ⟨h1, _, _⟩
    · exact ⟨h2, h3.trans HR5.out⟩
    · exact absurd HQ5.out h1
  obtain ⟨rfl, rfl⟩ := o5
  clear HO5
  go_wp2_with (first | (refine wpList_store_row rfl 29 _ _ rfl _ _ rfl rfl _ _ na5 (maskSize _) (by simp [mv_size]) (mv_all _) ?_))
  clear na5 hwa5 hwm5
  refine wp_region_JL (fun _ W => Below w5m.heap.size w5m W) (fun L _ => (Below.refl _ _).drew) (by kernel_rfl) (by kernel_rfl) (by kernel_rfl) (by kernel_rfl) [(some 74, .bool true), (some 75, .bool false), (some 76, .bool false), (some 77, .bool true), (some 78, .bool false), (some 79, .bool false), (some 80, .bool false), (some 81, .agg (mv (fun i => (f1 i || f2 i) && decide (i < 1440)))), (some 82, .agg (mv f1)), (some 83, .agg (mv f2)), (some 84, .agg (mv (fun i => (f1 i || f2 i) && decide (i < 1440)))), (some 85, .bool false), (some 86, .bool false), (some 87, .bool false), (some 88, .agg (mv (fun i => (f1 i && !f2 i) && decide (i < 1440)))), (some 89, .agg (mv f1)), (some 90, .agg (mv f2)), (some 91, .agg (mv (fun i => (f1 i && !f2 i) && decide (i < 1440)))), (some 92, .bool false), (some 93, .bool false), (some 94, .bool false), (some 95, .agg (mv (fun i => (f1 i && f2 i) && decide (i < 1440)))), (some 96, .agg (mv f1)), (some 97, .agg (mv f2)), (some 98, .agg (mv (fun i => (f1 i && f2 i) && decide (i < 1440)))), (some 99, .bool false), (some 100, .bool false)] [(74, .bool true), (75, .bool false), (76, .bool false), (77, .bool true), (78, .bool false), (79, .bool false), (80, .bool false), (81, .agg (mv (fun i => (f1 i || f2 i) && decide (i < 1440)))), (82, .agg (mv f1)), (83, .agg (mv f2)), (84, .agg (mv (fun i => (f1 i || f2 i) && decide (i < 1440)))), (85, .bool false), (86, .bool false), (87, .bool false), (88, .agg (mv (fun i => (f1 i && !f2 i) && decide (i < 1440)))), (89, .agg (mv f1)), (90, .agg (mv f2)), (91, .agg (mv (fun i => (f1 i && !f2 i) && decide (i < 1440)))), (92, .bool false), (93, .bool false), (94, .bool false), (95, .agg (mv (fun i => (f1 i && f2 i) && decide (i < 1440)))), (96, .agg (mv f1)), (97, .agg (mv f2)), (98, .agg (mv (fun i => (f1 i && f2 i) && decide (i < 1440)))), (99, .bool false), (100, .bool false)] (by kernel_rfl) (by kernel_rfl) (by kernel_rfl) ?_ ?_
  · intro i' d v o' L A W2 ho hv hLi hdep hc hJ hkept hhas
    match i', ho, hv, hLi with
    | 0, ho, hv, hLi =>
      cases Option.some.inj ho
      cases Option.some.inj hv
      have h16 : A.tmps[16]?.getD undef = .bool true := (gd A 16).trans (hkept 16 (by kernel_rfl))
      refine wpOp_step rfl (fun K hK => ?_)
      go_simp
      exact hK _ _ ⟨rfl, hJ⟩
    | 1, ho, hv, hLi =>
      cases Option.some.inj ho
      cases Option.some.inj hv
      have h74 : A.tmps[74]?.getD undef = .bool true := (gd A 74).trans (hhas 0 74 _ rfl (hdep ⟨0, .data⟩ (by simp) rfl))
      refine wpOp_step rfl (fun K hK => ?_)
      go_simp
      exact hK _ _ ⟨rfl, hJ⟩
    | 2, ho, hv, hLi =>
      cases Option.some.inj ho
      cases Option.some.inj hv
      have h75 : A.tmps[75]?.getD undef = .bool false := (gd A 75).trans (hhas 1 75 _ rfl (hdep ⟨1, .data⟩ (by simp) rfl))
      refine wpOp_step rfl (fun K hK => ?_)
      go_simp
      exact hK _ _ ⟨rfl, hJ⟩
    | 3, ho, hv, hLi =>
      cases Option.some.inj ho
      cases Option.some.inj hv
      have hG : A.tmps[76]? = some (.bool false) := gdb (hhas 2 76 _ rfl (hdep ⟨2, .guard⟩ (by simp) rfl))
      have h18 : A.tmps[18]?.getD undef = .bool true := (gd A 18).trans (hkept 18 (by kernel_rfl))
      refine wpOp_step rfl (fun K hK => ?_)
      go_simp
      exact hK _ _ ⟨rfl, hJ⟩
    | 4, ho, hv, hLi =>
      cases Option.some.inj ho
      cases Option.some.inj hv
      have hG : A.tmps[76]? = some (.bool false) := gdb (hhas 2 76 _ rfl (hdep ⟨2, .guard⟩ (by simp) rfl))
      have h77 : A.tmps[77]?.getD undef = .bool true := (gd A 77).trans (hhas 3 77 _ rfl (hdep ⟨3, .data⟩ (by simp) rfl))
      refine wpOp_step rfl (fun K hK => ?_)
      go_simp
      exact hK _ _ ⟨rfl, hJ⟩
    | 5, ho, hv, hLi =>
      cases Option.some.inj ho
      cases Option.some.inj hv
      have h76 : A.tmps[76]?.getD undef = .bool false := (gd A 76).trans (hhas 2 76 _ rfl (hdep ⟨2, .data⟩ (by simp) rfl))
      have h78 : A.tmps[78]?.getD undef = .bool false := (gd A 78).trans (hhas 4 78 _ rfl (hdep ⟨4, .data⟩ (by simp) rfl))
      refine wpOp_step rfl (fun K hK => ?_)
      go_simp
      exact hK _ _ ⟨rfl, hJ⟩
    | 6, ho, hv, hLi =>
      cases Option.some.inj ho
      cases Option.some.inj hv
      have h79 : A.tmps[79]?.getD undef = .bool false := (gd A 79).trans (hhas 5 79 _ rfl (hdep ⟨5, .data⟩ (by simp) rfl))
      refine wpOp_step rfl (fun K hK => ?_)
      go_simp
      exact hK _ _ ⟨rfl, hJ⟩
    | 7, ho, hv, hLi =>
      cases Option.some.inj ho
      cases Option.some.inj hv
      have hG : A.tmps[80]? = some (.bool false) := gdb (hhas 6 80 _ rfl (hdep ⟨6, .guard⟩ (by simp) rfl))
      have h13 : A.eval (.tmp 13) = .pointer (some ⟨w3.heap.size, 0, none⟩) := hkept 13 (by kernel_rfl)
      refine wpOp_step rfl (fun K hK => ?_)
      rw [if_pos (by simp [Region.wanted, yielded, hG])]
      refine wp_load_row 29 _ rfl _ h13 _ _ _ _ ((hJ.block _ (lt_of_block m3)).trans m3) maskType rfl (maskSize _) ?_
      exact hK _ _ ⟨rfl, hJ⟩
    | 8, ho, hv, hLi =>
      cases Option.some.inj ho
      cases Option.some.inj hv
      have hG : A.tmps[80]? = some (.bool false) := gdb (hhas 6 80 _ rfl (hdep ⟨6, .guard⟩ (by simp) rfl))
      have h9 : A.eval (.tmp 9) = .pointer (some ⟨w1.heap.size, 0, none⟩) := hkept 9 (by kernel_rfl)
      refine wpOp_step rfl (fun K hK => ?_)
      rw [if_pos (by simp [Region.wanted, yielded, hG])]
      refine wp_load_row 29 _ rfl _ h9 _ _ _ _ ((hJ.block _ (lt_of_block m1)).trans m1) maskType rfl (maskSize _) ?_
      exact hK _ _ ⟨rfl, hJ⟩
    | 9, ho, hv, hLi =>
      cases Option.some.inj ho
      cases Option.some.inj hv
      have hG : A.tmps[80]? = some (.bool false) := gdb (hhas 6 80 _ rfl (hdep ⟨6, .guard⟩ (by simp) rfl))
      have h11 : A.eval (.tmp 11) = .pointer (some ⟨w2.heap.size, 0, none⟩) := hkept 11 (by kernel_rfl)
      refine wpOp_step rfl (fun K hK => ?_)
      rw [if_pos (by simp [Region.wanted, yielded, hG])]
      refine wp_load_row 29 _ rfl _ h11 _ _ _ _ ((hJ.block _ (lt_of_block m2)).trans m2) maskType rfl (maskSize _) ?_
      exact hK _ _ ⟨rfl, hJ⟩
    | 10, ho, hv, hLi =>
      cases Option.some.inj ho
      cases Option.some.inj hv
      have hG : A.tmps[80]? = some (.bool false) := gdb (hhas 6 80 _ rfl (hdep ⟨6, .guard⟩ (by simp) rfl))
      have h82 : A.tmps[82]?.getD undef = .agg (mv f1) := (gd A 82).trans (hhas 8 82 _ rfl (hdep ⟨8, .data⟩ (by simp) rfl))
      have h83 : A.tmps[83]?.getD undef = .agg (mv f2) := (gd A 83).trans (hhas 9 83 _ rfl (hdep ⟨9, .data⟩ (by simp) rfl))
      refine wpOp_step rfl (fun K hK => ?_)
      go_simp
      refine (union_any f1 f2 W2).mono ?_
      rintro r' W' ⟨rfl, hb'⟩
      exact hK _ _ ⟨rfl, hJ.trans (hb'.mono hJ.size)⟩
    | 11, ho, hv, hLi =>
      cases Option.some.inj ho
      cases Option.some.inj hv
      have hG : A.tmps[80]? = some (.bool false) := gdb (hhas 6 80 _ rfl (hdep ⟨6, .guard⟩ (by simp) rfl))
      have h81 : A.tmps[81]?.getD undef = .agg (mv (fun i => (f1 i || f2 i) && decide (i < 1440))) := (gd A 81).trans (hhas 7 81 _ rfl (hdep ⟨7, .data⟩ (by simp) rfl))
      have h84 : A.tmps[84]?.getD undef = .agg (mv (fun i => (f1 i || f2 i) && decide (i < 1440))) := (gd A 84).trans (hhas 10 84 _ rfl (hdep ⟨10, .data⟩ (by simp) rfl))
      have hq := neq_same (fun i => (f1 i || f2 i) && decide (i < 1440))
      refine wpOp_step rfl (fun K hK => ?_)
      go_simp
      exact hK _ _ ⟨rfl, hJ⟩
    | 12, ho, hv, hLi =>
      cases Option.some.inj ho
      cases Option.some.inj hv
      have h80 : A.tmps[80]?.getD undef = .bool false := (gd A 80).trans (hhas 6 80 _ rfl (hdep ⟨6, .data⟩ (by simp) rfl))
      have h85 : A.tmps[85]?.getD undef = .bool false := (gd A 85).trans (hhas 11 85 _ rfl (hdep ⟨11, .data⟩ (by simp) rfl))
      refine wpOp_step rfl (fun K hK => ?_)
      go_simp
      exact hK _ _ ⟨rfl, hJ⟩
    | 13, ho, hv, hLi =>
      cases Option.some.inj ho
      cases Option.some.inj hv
      have h86 : A.tmps[86]?.getD undef = .bool false := (gd A 86).trans (hhas 12 86 _ rfl (hdep ⟨12, .data⟩ (by simp) rfl))
      refine wpOp_step rfl (fun K hK => ?_)
      go_simp
      exact hK _ _ ⟨rfl, hJ⟩
    | 14, ho, hv, hLi =>
      cases Option.some.inj ho
      cases Option.some.inj hv
      have hG : A.tmps[87]? = some (.bool false) := gdb (hhas 13 87 _ rfl (hdep ⟨13, .guard⟩ (by simp) rfl))
      have h15 : A.eval (.tmp 15) = .pointer (some ⟨w4.heap.size, 0, none⟩) := hkept 15 (by kernel_rfl)
      refine wpOp_step rfl (fun K hK => ?_)
      rw [if_pos (by simp [Region.wanted, yielded, hG])]
      refine wp_load_row 29 _ rfl _ h15 _ _ _ _ ((hJ.block _ (lt_of_block m4)).trans m4) maskType rfl (maskSize _) ?_
      exact hK _ _ ⟨rfl, hJ⟩
    | 15, ho, hv, hLi =>
      cases Option.some.inj ho
      cases Option.some.inj hv
      have hG : A.tmps[87]? = some (.bool false) := gdb (hhas 13 87 _ rfl (hdep ⟨13, .guard⟩ (by simp) rfl))
      have h9 : A.eval (.tmp 9) = .pointer (some ⟨w1.heap.size, 0, none⟩) := hkept 9 (by kernel_rfl)
      refine wpOp_step rfl (fun K hK => ?_)
      rw [if_pos (by simp [Region.wanted, yielded, hG])]
      refine wp_load_row 29 _ rfl _ h9 _ _ _ _ ((hJ.block _ (lt_of_block m1)).trans m1) maskType rfl (maskSize _) ?_
      exact hK _ _ ⟨rfl, hJ⟩
    | 16, ho, hv, hLi =>
      cases Option.some.inj ho
      cases Option.some.inj hv
      have hG : A.tmps[87]? = some (.bool false) := gdb (hhas 13 87 _ rfl (hdep ⟨13, .guard⟩ (by simp) rfl))
      have h11 : A.eval (.tmp 11) = .pointer (some ⟨w2.heap.size, 0, none⟩) := hkept 11 (by kernel_rfl)
      refine wpOp_step rfl (fun K hK => ?_)
      rw [if_pos (by simp [Region.wanted, yielded, hG])]
      refine wp_load_row 29 _ rfl _ h11 _ _ _ _ ((hJ.block _ (lt_of_block m2)).trans m2) maskType rfl (maskSize _) ?_
      exact hK _ _ ⟨rfl, hJ⟩
    | 17, ho, hv, hLi =>
      cases Option.some.inj ho
      cases Option.some.inj hv
      have hG : A.tmps[87]? = some (.bool false) := gdb (hhas 13 87 _ rfl (hdep ⟨13, .guard⟩ (by simp) rfl))
      have h89 : A.tmps[89]?.getD undef = .agg (mv f1) := (gd A 89).trans (hhas 15 89 _ rfl (hdep ⟨15, .data⟩ (by simp) rfl))
      have h90 : A.tmps[90]?.getD undef = .agg (mv f2) := (gd A 90).trans (hhas 16 90 _ rfl (hdep ⟨16, .data⟩ (by simp) rfl))
      refine wpOp_step rfl (fun K hK => ?_)
      go_simp
      refine (diff_any f1 f2 W2).mono ?_
      rintro r' W' ⟨rfl, hb'⟩
      exact hK _ _ ⟨rfl, hJ.trans (hb'.mono hJ.size)⟩
    | 18, ho, hv, hLi =>
      cases Option.some.inj ho
      cases Option.some.inj hv
      have hG : A.tmps[87]? = some (.bool false) := gdb (hhas 13 87 _ rfl (hdep ⟨13, .guard⟩ (by simp) rfl))
      have h88 : A.tmps[88]?.getD undef = .agg (mv (fun i => (f1 i && !f2 i) && decide (i < 1440))) := (gd A 88).trans (hhas 14 88 _ rfl (hdep ⟨14, .data⟩ (by simp) rfl))
      have h91 : A.tmps[91]?.getD undef = .agg (mv (fun i => (f1 i && !f2 i) && decide (i < 1440))) := (gd A 91).trans (hhas 17 91 _ rfl (hdep ⟨17, .data⟩ (by simp) rfl))
      have hq := neq_same (fun i => (f1 i && !f2 i) && decide (i < 1440))
      refine wpOp_step rfl (fun K hK => ?_)
      go_simp
      exact hK _ _ ⟨rfl, hJ⟩
    | 19, ho, hv, hLi =>
      cases Option.some.inj ho
      cases Option.some.inj hv
      have h87 : A.tmps[87]?.getD undef = .bool false := (gd A 87).trans (hhas 13 87 _ rfl (hdep ⟨13, .data⟩ (by simp) rfl))
      have h92 : A.tmps[92]?.getD undef = .bool false := (gd A 92).trans (hhas 18 92 _ rfl (hdep ⟨18, .data⟩ (by simp) rfl))
      refine wpOp_step rfl (fun K hK => ?_)
      go_simp
      exact hK _ _ ⟨rfl, hJ⟩
    | 20, ho, hv, hLi =>
      cases Option.some.inj ho
      cases Option.some.inj hv
      have h93 : A.tmps[93]?.getD undef = .bool false := (gd A 93).trans (hhas 19 93 _ rfl (hdep ⟨19, .data⟩ (by simp) rfl))
      refine wpOp_step rfl (fun K hK => ?_)
      go_simp
      exact hK _ _ ⟨rfl, hJ⟩
    | 21, ho, hv, hLi =>
      cases Option.some.inj ho
      cases Option.some.inj hv
      have hG : A.tmps[94]? = some (.bool false) := gdb (hhas 20 94 _ rfl (hdep ⟨20, .guard⟩ (by simp) rfl))
      have h17 : A.eval (.tmp 17) = .pointer (some ⟨w5.heap.size, 0, none⟩) := hkept 17 (by kernel_rfl)
      refine wpOp_step rfl (fun K hK => ?_)
      rw [if_pos (by simp [Region.wanted, yielded, hG])]
      refine wp_load_row 29 _ rfl _ h17 _ _ _ _ ((hJ.block _ (lt_of_block m5)).trans m5) maskType rfl (maskSize _) ?_
      exact hK _ _ ⟨rfl, hJ⟩
    | 22, ho, hv, hLi =>
      cases Option.some.inj ho
      cases Option.some.inj hv
      have hG : A.tmps[94]? = some (.bool false) := gdb (hhas 20 94 _ rfl (hdep ⟨20, .guard⟩ (by simp) rfl))
      have h9 : A.eval (.tmp 9) = .pointer (some ⟨w1.heap.size, 0, none⟩) := hkept 9 (by kernel_rfl)
      refine wpOp_step rfl (fun K hK => ?_)
      rw [if_pos (by simp [Region.wanted, yielded, hG])]
      refine wp_load_row 29 _ rfl _ h9 _ _ _ _ ((hJ.block _ (lt_of_block m1)).trans m1) maskType rfl (maskSize _) ?_
      exact hK _ _ ⟨rfl, hJ⟩
    | 23, ho, hv, hLi =>
      cases Option.some.inj ho
      cases Option.some.inj hv
      have hG : A.tmps[94]? = some (.bool false) := gdb (hhas 20 94 _ rfl (hdep ⟨20, .guard⟩ (by simp) rfl))
      have h11 : A.eval (.tmp 11) = .pointer (some ⟨w2.heap.size, 0, none⟩) := hkept 11 (by kernel_rfl)
      refine wpOp_step rfl (fun K hK => ?_)
      rw [if_pos (by simp [Region.wanted, yielded, hG])]
      refine wp_load_row 29 _ rfl _ h11 _ _ _ _ ((hJ.block _ (lt_of_block m2)).trans m2) maskType rfl (maskSize _) ?_
      exact hK _ _ ⟨rfl, hJ⟩
    | 24, ho, hv, hLi =>
      cases Option.some.inj ho
      cases Option.some.inj hv
      have hG : A.tmps[94]? = some (.bool false) := gdb (hhas 20 94 _ rfl (hdep ⟨20, .guard⟩ (by simp) rfl))
      have h96 : A.tmps[96]?.getD undef = .agg (mv f1) := (gd A 96).trans (hhas 22 96 _ rfl (hdep ⟨22, .data⟩ (by simp) rfl))
      have h97 : A.tmps[97]?.getD undef = .agg (mv f2) := (gd A 97).trans (hhas 23 97 _ rfl (hdep ⟨23, .data⟩ (by simp) rfl))
      refine wpOp_step rfl (fun K hK => ?_)
      go_simp
      refine (both_any f1 f2 W2).mono ?_
      rintro r' W' ⟨rfl, hb'⟩
      exact hK _ _ ⟨rfl, hJ.trans (hb'.mono hJ.size)⟩
    | 25, ho, hv, hLi =>
      cases Option.some.inj ho
      cases Option.some.inj hv
      have hG : A.tmps[94]? = some (.bool false) := gdb (hhas 20 94 _ rfl (hdep ⟨20, .guard⟩ (by simp) rfl))
      have h95 : A.tmps[95]?.getD undef = .agg (mv (fun i => (f1 i && f2 i) && decide (i < 1440))) := (gd A 95).trans (hhas 21 95 _ rfl (hdep ⟨21, .data⟩ (by simp) rfl))
      have h98 : A.tmps[98]?.getD undef = .agg (mv (fun i => (f1 i && f2 i) && decide (i < 1440))) := (gd A 98).trans (hhas 24 98 _ rfl (hdep ⟨24, .data⟩ (by simp) rfl))
      have hq := neq_same (fun i => (f1 i && f2 i) && decide (i < 1440))
      refine wpOp_step rfl (fun K hK => ?_)
      go_simp
      exact hK _ _ ⟨rfl, hJ⟩
    | 26, ho, hv, hLi =>
      cases Option.some.inj ho
      cases Option.some.inj hv
      have h94 : A.tmps[94]?.getD undef = .bool false := (gd A 94).trans (hhas 20 94 _ rfl (hdep ⟨20, .data⟩ (by simp) rfl))
      have h99 : A.tmps[99]?.getD undef = .bool false := (gd A 99).trans (hhas 25 99 _ rfl (hdep ⟨25, .data⟩ (by simp) rfl))
      refine wpOp_step rfl (fun K hK => ?_)
      go_simp
      exact hK _ _ ⟨rfl, hJ⟩
    | kk + 27, ho, hv, hLi => simp at hv
  · intro L W5 hL hJ
    simp only [putAll_cons, putAll_nil, Act.put, List.setIfInBounds_toArray, List.set_cons_succ, List.set_cons_zero]
    clear hL
    have hm6 := hm5.trans (hJ.mono hm5.size)
    have nAq := (hJ.block _ (lt_of_block nA)).trans nA
    have m1q := (hJ.block _ (lt_of_block m1)).trans m1
    clear hJ hm5 nA nB m1 m2 m3 m4 m5
    have bx := (Below.refl W5.heap.size W5).alloc (Nat.le_refl _) (.cells #[.int .i64 e.kind, .int .i64 e.a, .int .i64 e.b, .string ⟨e.name.toArray⟩, .slice pe e.kids.length ce] 25)
    have nx := heap_alloc_new W5 (.cells #[.int .i64 e.kind, .int .i64 e.a, .int .i64 e.b, .string ⟨e.name.toArray⟩, .slice pe e.kids.length ce] 25)
    have hx := hm6.trans (bx.mono hm6.size)
    have nA := (bx.block _ (lt_of_block nAq)).trans nAq
    have m1 := (bx.block _ (lt_of_block m1q)).trans m1q
    clear m1q hm6 bx
    generalize hwx : W5.alloc (.cells #[.int .i64 e.kind, .int .i64 e.a, .int .i64 e.b, .string ⟨e.name.toArray⟩, .slice pe e.kids.length ce] 25) = wx at *
    have d6 : Calls Tryz.prog 9 #[.slice pv us.length cv, .agg #[.int .i64 4, .int .i64 127, .int .i64 0, .string ⟨#[]⟩, .slice (some ⟨W5.heap.size, 0, none⟩) 1 1], .int .i64 day] wx (OutOf l ⟨4, 127, 0, [], [e]⟩ l.length day wx) := HOF.out ⟨4, 127, 0, [], [e]⟩ (some ⟨W5.heap.size, 0, none⟩) 1 wx hx (ruleIn_wrap 4 127 0 (HEA.out.below hx) nx)
    go_wp2_with (first | (refine wpList_load_row rfl 25 _ rfl _ rfl _ _ _ _ nAq exprType5 rfl (by kernel_rfl) ?_))
    clear nAq nx hwx
    refine d6.mono ?_
    rintro r w6 hout
    obtain ⟨f6, ok6, rfl, ho6, bb6⟩ := hout.flat
    have HO6 := hid5 ho6
    clear hout ho6 d6
    have hn6 := hx.trans (bb6.mono hx.size)
    have ba6 := (Below.refl w6.heap.size w6).alloc (Nat.le_refl _) (.cells (mv fun _ => false) 29)
    have na6 := heap_alloc_new w6 (.cells (mv fun _ => false) 29)
    have bm6 := below_setRow ba6 (Nat.le_refl _) (mv f6)
    have m6 := setRow_heap _ _ _ (mv f6) _ _ na6
    have hm6 := hn6.trans (bm6.mono hn6.size)
    have bp6 := (Below.refl wx.heap.size wx).trans ((bb6.trans (bm6.mono bb6.size)).mono (Below.refl wx.heap.size wx).size)
    generalize hwa6 : w6.alloc (.cells (mv fun _ => false) 29) = w6a at *
    generalize hwm6 : w6a.setRow w6.heap.size (mv f6) = w6m at *
    have nA' := (bp6.block _ (lt_of_block nA)).trans nA
    clear nA
    have nA := nA'
    clear nA'
    have m1' := (bp6.block _ (lt_of_block m1)).trans m1
    clear m1
    have m1 := m1'
    clear m1'
    clear bb6 bm6 ba6 hn6 bp6 hx
    have t7 : Calls Tryz.prog 10 #[.int .i64 7, .agg #[.int .i64 e.kind, .int .i64 e.a, .int .i64 e.b, .string ⟨e.name.toArray⟩, .slice pe e.kids.length ce], .agg #[.int .i64 2, .int .i64 0, .int .i64 0, .string ⟨#[]⟩, .slice none 0 0]] w6m fun r w' => ∃ g : Nat, r = .returned (.agg #[.int .i64 7, .int .i64 0, .int .i64 0, .string ⟨#[]⟩, .slice (some ⟨g, 0, none⟩) 2 2]) ∧ w'.heap[g]? = some (.cells #[.int .i64 e.kind, .int .i64 e.a, .int .i64 e.b, .string ⟨e.name.toArray⟩, .slice pe e.kids.length ce, .int .i64 2, .int .i64 0, .int .i64 0, .string ⟨#[]⟩, .slice none 0 0] 25 (0, 0)) ∧ Below w6m.heap.size w6m w' := two_any 7 e ⟨2, 0, 0, [], []⟩ pe none ce 0 w6m
    go_wp2_with (first | (refine wpList_store_row rfl 29 _ _ rfl _ _ rfl rfl _ _ na6 (maskSize _) (by simp [mv_size]) (mv_all _) ?_) | (refine wpList_load_row rfl 25 _ rfl _ rfl _ _ _ _ nA exprType5 rfl (by kernel_rfl) ?_))
    clear na6 hwa6 hwm6
    refine t7.mono ?_
    rintro r wt7 ⟨g7, rfl, hg7, bt7⟩
    have ht7 := hm6.trans (bt7.mono hm6.size)
    have d7 : Calls Tryz.prog 9 #[.slice pv us.length cv, .agg #[.int .i64 7, .int .i64 0, .int .i64 0, .string ⟨#[]⟩, .slice (some ⟨g7, 0, none⟩) 2 2], .int .i64 day] wt7 (OutOf l (twoE 7 e ⟨2, 0, 0, [], []⟩) l.length day wt7) := HOF.out (twoE 7 e ⟨2, 0, 0, [], []⟩) (some ⟨g7, 0, none⟩) 2 wt7 ht7 (ruleIn_two (nm' := zzn) (e' := ⟨2, 0, 0, [], []⟩) (pe' := none) (ce' := 0) 7 (HEA.out.below ht7) ⟨by show zzn.length ≤ _; decide, by show ([] : List UInt8).length ≤ _; decide, 0, rfl, none, 0, rfl⟩ hg7)
    clear t7 hg7
    go_wp2_with fail
    refine d7.mono ?_
    rintro r w7 hout
    obtain ⟨f7, ok7, rfl, ho7, bb7⟩ := hout.flat
    have HO7 := hid5 ho7
    clear hout ho7 d7
    have hn7 := ht7.trans (bb7.mono ht7.size)
    have ba7 := (Below.refl w7.heap.size w7).alloc (Nat.le_refl _) (.cells (mv fun _ => false) 29)
    have na7 := heap_alloc_new w7 (.cells (mv fun _ => false) 29)
    have bm7 := below_setRow ba7 (Nat.le_refl _) (mv f7)
    have m7 := setRow_heap _ _ _ (mv f7) _ _ na7
    have hm7 := hn7.trans (bm7.mono hn7.size)
    have bp7 := (bt7).trans ((bb7.trans (bm7.mono bb7.size)).mono (bt7).size)
    generalize hwa7 : w7.alloc (.cells (mv fun _ => false) 29) = w7a at *
    generalize hwm7 : w7a.setRow w7.heap.size (mv f7) = w7m at *
    have nA' := (bp7.block _ (lt_of_block nA)).trans nA
    clear nA
    have nA := nA'
    clear nA'
    have m1' := (bp7.block _ (lt_of_block m1)).trans m1
    clear m1
    have m1 := m1'
    clear m1'
    have m6' := (bp7.block _ (lt_of_block m6)).trans m6
    clear m6
    have m6 := m6'
    clear m6'
    clear bb7 bm7 ba7 hn7 bp7 hm6 ht7 bt7
    have HBF := hid5 hm7
    clear HOF HEA HEB nA hm7
    cases ok6 with
    | false =>
      clear HO6 HO7 m1 m6 m7
      go_upto_region 14 with (refine wpList_store_row rfl 29 _ _ rfl _ _ rfl rfl _ _ na7 (maskSize _) (by simp [mv_size]) (mv_all _) ?_)
      refine wp_plain_JL (fun _ W => W = w7m) (fun L _ => rfl) (fun _ _ _ _ h => h) (by kernel_rfl) (by kernel_rfl) (by kernel_rfl) [(some 119, .bool false), (some 120, .bool true), (some 121, .bool true), (some 122, undef), (some 123, undef), (some 124, .bool true), (some 125, .bool true), (some 126, undef), (some 127, undef), (some 128, undef), (some 129, undef), (some 130, undef), (some 131, undef), (some 132, undef), (some 133, undef), (some 134, .bool true), (some 8, .bool true)] [(119, .bool false), (120, .bool true), (121, .bool true), (122, undef), (123, undef), (124, .bool true), (125, .bool true), (126, undef), (127, undef), (128, undef), (129, undef), (130, undef), (131, undef), (132, undef), (133, undef), (134, .bool true), (8, .bool true)] (by kernel_rfl) (by kernel_rfl) (by kernel_rfl) ?_ ?_
      · intro i' d v o' L A W2 ho hv hLi hdep hc hJ hkept hhas
        match i', ho, hv, hLi with
        | 0, ho, hv, hLi =>
          cases Option.some.inj ho
          cases Option.some.inj hv
          subst hJ
          have h16 : A.tmps[16]?.getD undef = .bool false := (gd A 16).trans (hkept 16 (by kernel_rfl))
          refine wpOp_step rfl (fun K hK => ?_)
          go_simp
          exact hK _ _ ⟨rfl, rfl⟩
        | 1, ho, hv, hLi =>
          cases Option.some.inj ho
          cases Option.some.inj hv
          subst hJ
          have h119 : A.tmps[119]?.getD undef = .bool false := (gd A 119).trans (hhas 0 119 _ rfl (hdep ⟨0, .data⟩ (by simp) rfl))
          refine wpOp_step rfl (fun K hK => ?_)
          go_simp
          exact hK _ _ ⟨rfl, rfl⟩
        | 2, ho, hv, hLi =>
          cases Option.some.inj ho
          cases Option.some.inj hv
          subst hJ
          have h120 : A.tmps[120]?.getD undef = .bool true := (gd A 120).trans (hhas 1 120 _ rfl (hdep ⟨1, .data⟩ (by simp) rfl))
          refine wpOp_step rfl (fun K hK => ?_)
          go_simp
          exact hK _ _ ⟨rfl, rfl⟩
        | 3, ho, hv, hLi =>
          cases Option.some.inj ho
          cases Option.some.inj hv
          subst hJ
          have hG : A.tmps[121]? = some (.bool true) := gdb (hhas 2 121 _ rfl (hdep ⟨2, .guard⟩ (by simp) rfl))
          refine wpOp_step rfl (fun K hK => ?_)
          go_simp
          exact hK _ _ ⟨rfl, rfl⟩
        | 4, ho, hv, hLi =>
          cases Option.some.inj ho
          cases Option.some.inj hv
          subst hJ
          have hG : A.tmps[121]? = some (.bool true) := gdb (hhas 2 121 _ rfl (hdep ⟨2, .guard⟩ (by simp) rfl))
          refine wpOp_step rfl (fun K hK => ?_)
          go_simp
          exact hK _ _ ⟨rfl, rfl⟩
        | 5, ho, hv, hLi =>
          cases Option.some.inj ho
          cases Option.some.inj hv
          subst hJ
          have h121 : A.tmps[121]?.getD undef = .bool true := (gd A 121).trans (hhas 2 121 _ rfl (hdep ⟨2, .data⟩ (by simp) rfl))
          refine wpOp_step rfl (fun K hK => ?_)
          go_simp
          exact hK _ _ ⟨rfl, rfl⟩
        | 6, ho, hv, hLi =>
          cases Option.some.inj ho
          cases Option.some.inj hv
          subst hJ
          have h124 : A.tmps[124]?.getD undef = .bool true := (gd A 124).trans (hhas 5 124 _ rfl (hdep ⟨5, .data⟩ (by simp) rfl))
          refine wpOp_step rfl (fun K hK => ?_)
          go_simp
          exact hK _ _ ⟨rfl, rfl⟩
        | 7, ho, hv, hLi =>
          cases Option.some.inj ho
          cases Option.some.inj hv
          subst hJ
          have hG : A.tmps[125]? = some (.bool true) := gdb (hhas 6 125 _ rfl (hdep ⟨6, .guard⟩ (by simp) rfl))
          refine wpOp_step rfl (fun K hK => ?_)
          go_simp
          exact hK _ _ ⟨rfl, rfl⟩
        | 8, ho, hv, hLi =>
          cases Option.some.inj ho
          cases Option.some.inj hv
          subst hJ
          have hG : A.tmps[125]? = some (.bool true) := gdb (hhas 6 125 _ rfl (hdep ⟨6, .guard⟩ (by simp) rfl))
          refine wpOp_step rfl (fun K hK => ?_)
          go_simp
          exact hK _ _ ⟨rfl, rfl⟩
        | 9, ho, hv, hLi =>
          cases Option.some.inj ho
          cases Option.some.inj hv
          subst hJ
          have hG : A.tmps[125]? = some (.bool true) := gdb (hhas 6 125 _ rfl (hdep ⟨6, .guard⟩ (by simp) rfl))
          refine wpOp_step rfl (fun K hK => ?_)
          go_simp
          exact hK _ _ ⟨rfl, rfl⟩
        | 10, ho, hv, hLi =>
          cases Option.some.inj ho
          cases Option.some.inj hv
          subst hJ
          have hG : A.tmps[125]? = some (.bool true) := gdb (hhas 6 125 _ rfl (hdep ⟨6, .guard⟩ (by simp) rfl))
          refine wpOp_step rfl (fun K hK => ?_)
          go_simp
          exact hK _ _ ⟨rfl, rfl⟩
        | 11, ho, hv, hLi =>
          cases Option.some.inj ho
          cases Option.some.inj hv
          subst hJ
          have hG : A.tmps[129]?.getD undef = undef := (gd A 129).trans (hhas 10 129 _ rfl (hdep ⟨10, .guard⟩ (by simp) rfl))
          refine wpOp_step rfl (fun K hK => ?_)
          rw [if_neg (unw7 (by rfl) (by rfl) hG)]
          exact hK _ _ ⟨rfl, rfl⟩
        | 12, ho, hv, hLi =>
          cases Option.some.inj ho
          cases Option.some.inj hv
          subst hJ
          have hG : A.tmps[129]?.getD undef = undef := (gd A 129).trans (hhas 10 129 _ rfl (hdep ⟨10, .guard⟩ (by simp) rfl))
          refine wpOp_step rfl (fun K hK => ?_)
          rw [if_neg (unw7 (by rfl) (by rfl) hG)]
          exact hK _ _ ⟨rfl, rfl⟩
        | 13, ho, hv, hLi =>
          cases Option.some.inj ho
          cases Option.some.inj hv
          subst hJ
          have hG : A.tmps[129]?.getD undef = undef := (gd A 129).trans (hhas 10 129 _ rfl (hdep ⟨10, .guard⟩ (by simp) rfl))
          refine wpOp_step rfl (fun K hK => ?_)
          rw [if_neg (unw7 (by rfl) (by rfl) hG)]
          exact hK _ _ ⟨rfl, rfl⟩
        | 14, ho, hv, hLi =>
          cases Option.some.inj ho
          cases Option.some.inj hv
          subst hJ
          have hG : A.tmps[125]? = some (.bool true) := gdb (hhas 6 125 _ rfl (hdep ⟨6, .guard⟩ (by simp) rfl))
          refine wpOp_step rfl (fun K hK => ?_)
          go_simp
          exact hK _ _ ⟨rfl, rfl⟩
        | 15, ho, hv, hLi =>
          cases Option.some.inj ho
          cases Option.some.inj hv
          subst hJ
          have h125 : A.tmps[125]?.getD undef = .bool true := (gd A 125).trans (hhas 6 125 _ rfl (hdep ⟨6, .data⟩ (by simp) rfl))
          refine wpOp_step rfl (fun K hK => ?_)
          go_simp
          exact hK _ _ ⟨rfl, rfl⟩
        | 16, ho, hv, hLi =>
          cases Option.some.inj ho
          cases Option.some.inj hv
          subst hJ
          have h134 : A.tmps[134]?.getD undef = .bool true := (gd A 134).trans (hhas 15 134 _ rfl (hdep ⟨15, .data⟩ (by simp) rfl))
          refine wpOp_step rfl (fun K hK => ?_)
          go_simp
          exact hK _ _ ⟨rfl, rfl⟩
        | kk + 17, ho, hv, hLi => simp at hv
      · intro L W5 hL hJ
        subst hJ
        simp only [putAll_cons, putAll_nil, Act.put, List.setIfInBounds_toArray, List.set_cons_succ, List.set_cons_zero]
        clear hL
        go_wp2_with fail
        go_ret
        exact ⟨rfl, HBF.out⟩
    | true =>
    cases ok7 with
    | false =>
      clear HO6 HO7 m1 m6 m7
      go_upto_region 14 with (refine wpList_store_row rfl 29 _ _ rfl _ _ rfl rfl _ _ na7 (maskSize _) (by simp [mv_size]) (mv_all _) ?_)
      refine wp_plain_JL (fun _ W => W = w7m) (fun L _ => rfl) (fun _ _ _ _ h => h) (by kernel_rfl) (by kernel_rfl) (by kernel_rfl) [(some 119, .bool true), (some 120, .bool false), (some 121, .bool false), (some 122, .bool false), (some 123, .bool true), (some 124, .bool true), (some 125, .bool true), (some 126, undef), (some 127, undef), (some 128, undef), (some 129, undef), (some 130, undef), (some 131, undef), (some 132, undef), (some 133, undef), (some 134, .bool true), (some 8, .bool true)] [(119, .bool true), (120, .bool false), (121, .bool false), (122, .bool false), (123, .bool true), (124, .bool true), (125, .bool true), (126, undef), (127, undef), (128, undef), (129, undef), (130, undef), (131, undef), (132, undef), (133, undef), (134, .bool true), (8, .bool true)] (by kernel_rfl) (by kernel_rfl) (by kernel_rfl) ?_ ?_
      · intro i' d v o' L A W2 ho hv hLi hdep hc hJ hkept hhas
        match i', ho, hv, hLi with
        | 0, ho, hv, hLi =>
          cases Option.some.inj ho
          cases Option.some.inj hv
          subst hJ
          have h16 : A.tmps[16]?.getD undef = .bool true := (gd A 16).trans (hkept 16 (by kernel_rfl))
          refine wpOp_step rfl (fun K hK => ?_)
          go_simp
          exact hK _ _ ⟨rfl, rfl⟩
        | 1, ho, hv, hLi =>
          cases Option.some.inj ho
          cases Option.some.inj hv
          subst hJ
          have h119 : A.tmps[119]?.getD undef = .bool true := (gd A 119).trans (hhas 0 119 _ rfl (hdep ⟨0, .data⟩ (by simp) rfl))
          refine wpOp_step rfl (fun K hK => ?_)
          go_simp
          exact hK _ _ ⟨rfl, rfl⟩
        | 2, ho, hv, hLi =>
          cases Option.some.inj ho
          cases Option.some.inj hv
          subst hJ
          have h120 : A.tmps[120]?.getD undef = .bool false := (gd A 120).trans (hhas 1 120 _ rfl (hdep ⟨1, .data⟩ (by simp) rfl))
          refine wpOp_step rfl (fun K hK => ?_)
          go_simp
          exact hK _ _ ⟨rfl, rfl⟩
        | 3, ho, hv, hLi =>
          cases Option.some.inj ho
          cases Option.some.inj hv
          subst hJ
          have hG : A.tmps[121]? = some (.bool false) := gdb (hhas 2 121 _ rfl (hdep ⟨2, .guard⟩ (by simp) rfl))
          have h18 : A.tmps[18]?.getD undef = .bool false := (gd A 18).trans (hkept 18 (by kernel_rfl))
          refine wpOp_step rfl (fun K hK => ?_)
          go_simp
          exact hK _ _ ⟨rfl, rfl⟩
        | 4, ho, hv, hLi =>
          cases Option.some.inj ho
          cases Option.some.inj hv
          subst hJ
          have hG : A.tmps[121]? = some (.bool false) := gdb (hhas 2 121 _ rfl (hdep ⟨2, .guard⟩ (by simp) rfl))
          have h122 : A.tmps[122]?.getD undef = .bool false := (gd A 122).trans (hhas 3 122 _ rfl (hdep ⟨3, .data⟩ (by simp) rfl))
          refine wpOp_step rfl (fun K hK => ?_)
          go_simp
          exact hK _ _ ⟨rfl, rfl⟩
        | 5, ho, hv, hLi =>
          cases Option.some.inj ho
          cases Option.some.inj hv
          subst hJ
          have h121 : A.tmps[121]?.getD undef = .bool false := (gd A 121).trans (hhas 2 121 _ rfl (hdep ⟨2, .data⟩ (by simp) rfl))
          have h123 : A.tmps[123]?.getD undef = .bool true := (gd A 123).trans (hhas 4 123 _ rfl (hdep ⟨4, .data⟩ (by simp) rfl))
          refine wpOp_step rfl (fun K hK => ?_)
          go_simp
          exact hK _ _ ⟨rfl, rfl⟩
        | 6, ho, hv, hLi =>
          cases Option.some.inj ho
          cases Option.some.inj hv
          subst hJ
          have h124 : A.tmps[124]?.getD undef = .bool true := (gd A 124).trans (hhas 5 124 _ rfl (hdep ⟨5, .data⟩ (by simp) rfl))
          refine wpOp_step rfl (fun K hK => ?_)
          go_simp
          exact hK _ _ ⟨rfl, rfl⟩
        | 7, ho, hv, hLi =>
          cases Option.some.inj ho
          cases Option.some.inj hv
          subst hJ
          have hG : A.tmps[125]? = some (.bool true) := gdb (hhas 6 125 _ rfl (hdep ⟨6, .guard⟩ (by simp) rfl))
          refine wpOp_step rfl (fun K hK => ?_)
          go_simp
          exact hK _ _ ⟨rfl, rfl⟩
        | 8, ho, hv, hLi =>
          cases Option.some.inj ho
          cases Option.some.inj hv
          subst hJ
          have hG : A.tmps[125]? = some (.bool true) := gdb (hhas 6 125 _ rfl (hdep ⟨6, .guard⟩ (by simp) rfl))
          refine wpOp_step rfl (fun K hK => ?_)
          go_simp
          exact hK _ _ ⟨rfl, rfl⟩
        | 9, ho, hv, hLi =>
          cases Option.some.inj ho
          cases Option.some.inj hv
          subst hJ
          have hG : A.tmps[125]? = some (.bool true) := gdb (hhas 6 125 _ rfl (hdep ⟨6, .guard⟩ (by simp) rfl))
          refine wpOp_step rfl (fun K hK => ?_)
          go_simp
          exact hK _ _ ⟨rfl, rfl⟩
        | 10, ho, hv, hLi =>
          cases Option.some.inj ho
          cases Option.some.inj hv
          subst hJ
          have hG : A.tmps[125]? = some (.bool true) := gdb (hhas 6 125 _ rfl (hdep ⟨6, .guard⟩ (by simp) rfl))
          refine wpOp_step rfl (fun K hK => ?_)
          go_simp
          exact hK _ _ ⟨rfl, rfl⟩
        | 11, ho, hv, hLi =>
          cases Option.some.inj ho
          cases Option.some.inj hv
          subst hJ
          have hG : A.tmps[129]?.getD undef = undef := (gd A 129).trans (hhas 10 129 _ rfl (hdep ⟨10, .guard⟩ (by simp) rfl))
          refine wpOp_step rfl (fun K hK => ?_)
          rw [if_neg (unw7 (by rfl) (by rfl) hG)]
          exact hK _ _ ⟨rfl, rfl⟩
        | 12, ho, hv, hLi =>
          cases Option.some.inj ho
          cases Option.some.inj hv
          subst hJ
          have hG : A.tmps[129]?.getD undef = undef := (gd A 129).trans (hhas 10 129 _ rfl (hdep ⟨10, .guard⟩ (by simp) rfl))
          refine wpOp_step rfl (fun K hK => ?_)
          rw [if_neg (unw7 (by rfl) (by rfl) hG)]
          exact hK _ _ ⟨rfl, rfl⟩
        | 13, ho, hv, hLi =>
          cases Option.some.inj ho
          cases Option.some.inj hv
          subst hJ
          have hG : A.tmps[129]?.getD undef = undef := (gd A 129).trans (hhas 10 129 _ rfl (hdep ⟨10, .guard⟩ (by simp) rfl))
          refine wpOp_step rfl (fun K hK => ?_)
          rw [if_neg (unw7 (by rfl) (by rfl) hG)]
          exact hK _ _ ⟨rfl, rfl⟩
        | 14, ho, hv, hLi =>
          cases Option.some.inj ho
          cases Option.some.inj hv
          subst hJ
          have hG : A.tmps[125]? = some (.bool true) := gdb (hhas 6 125 _ rfl (hdep ⟨6, .guard⟩ (by simp) rfl))
          refine wpOp_step rfl (fun K hK => ?_)
          go_simp
          exact hK _ _ ⟨rfl, rfl⟩
        | 15, ho, hv, hLi =>
          cases Option.some.inj ho
          cases Option.some.inj hv
          subst hJ
          have h125 : A.tmps[125]?.getD undef = .bool true := (gd A 125).trans (hhas 6 125 _ rfl (hdep ⟨6, .data⟩ (by simp) rfl))
          refine wpOp_step rfl (fun K hK => ?_)
          go_simp
          exact hK _ _ ⟨rfl, rfl⟩
        | 16, ho, hv, hLi =>
          cases Option.some.inj ho
          cases Option.some.inj hv
          subst hJ
          have h134 : A.tmps[134]?.getD undef = .bool true := (gd A 134).trans (hhas 15 134 _ rfl (hdep ⟨15, .data⟩ (by simp) rfl))
          refine wpOp_step rfl (fun K hK => ?_)
          go_simp
          exact hK _ _ ⟨rfl, rfl⟩
        | kk + 17, ho, hv, hLi => simp at hv
      · intro L W5 hL hJ
        subst hJ
        simp only [putAll_cons, putAll_nil, Act.put, List.setIfInBounds_toArray, List.set_cons_succ, List.set_cons_zero]
        clear hL
        go_wp2_with fail
        go_ret
        exact ⟨rfl, HBF.out⟩
    | true =>
    obtain ⟨q6, e6⟩ := HO6.out rfl
    obtain ⟨q7, e7⟩ := HO7.out rfl
    rw [of_week HQ1.out q6, ← HE1.out, if_pos (wkB_all HD0.out)] at e6
    rw [of_none q7] at e7
    clear HO6 HO7 q6 q7 HQ1 HE1 HQ4 HQ5 HR4 HR5 HD0
    subst e7
    subst e6
    have hq := fun W => eql_same f6 W
    have hq0 := fun W => eql_same (fun _ => false) W
    go_wp2_with (first | (refine wpList_store_row rfl 29 _ _ rfl _ _ rfl rfl _ _ na7 (maskSize _) (by simp [mv_size]) (mv_all _) ?_) | (refine load_g (by rfl) _ (by rfl) w6.heap.size (by rfl) f6 ?r ?_; (case r => exact m6)) | (refine load_g (by rfl) _ (by rfl) w1.heap.size (by rfl) f6 ?r ?_; (case r => exact m1)) | (refine load_g (by rfl) _ (by rfl) w7.heap.size (by rfl) (fun _ => false) ?r ?_; (case r => exact m7)))
    go_ret
    exact ⟨rfl, HBF.out⟩
end Go.Proofs.YtllcpoibnmhghaaGreatDoor
