/- What mean.All comes to. Written by genmnk.py. -/
import Derived.Test.YtgfjbcdjpkcbkaaGreatDoorDh18
import Derived.Test.YtgfjbcdjpkcbkaaGreatDoorDh05
import Derived.Test.YtgfjbcdjpkcbkaaGreatDoorDh16
import Derived.Laws.OwnMore
namespace Go.Proofs.YtgfjbcdjpkcbkaaGreatDoor
open Go.RowKit Lx Msk
def mflt (l : List Ru) (day : Int) : Int × Nat := if (chkW l).1 ≠ 0 then chkW l else if day < 0 ∨ 146097 ≤ day then (3, 0) else (0, 0)
def meanL (l : List Ru) (day : Int) : List (Nat → Bool) := if (mflt l day).1 = 0 then (List.range l.length).map (meanP l (wkB day) day) else []
def RowM (w : World) (v : Value) (fs : List (Nat → Bool)) : Prop := ∃ p c, v = .slice p fs.length c ∧ (fs.length ≤ 40 ∧ fs.length ≤ c) ∧ ∀ (i : Nat) (f : Nat → Bool), fs[i]? = some f → ∃ g o : Nat, p = some ⟨g, o, none⟩ ∧ w.rangeAt g (o + i * 23) (mv f).toList
def OutMe (l : List Ru) (day : Int) (w : World) (e : Ending) (w' : World) : Prop := ∃ v, e = .returned (.tuple #[v, .agg #[.int .i64 (mflt l day).1, .int .i64 ((mflt l day).2 : Int)]]) ∧ RowM w' v (meanL l day) ∧ Below w.heap.size w w'
theorem rowM_nil (w : World) (p : Option Addr) (c : Nat) : RowM w (.slice p 0 c) [] := ⟨p, c, rfl, ⟨by simp, by simp⟩, fun i f hi => by simp at hi⟩
theorem rowM_of {w : World} {gm n : Nat} {F : Nat → Nat → Bool} (hn : n ≤ 40) (h : ∀ i, i < n → w.rangeAt gm (i * 23) (mv (F i)).toList) : RowM w (.slice (some ⟨gm, 0, none⟩) n n) ((List.range n).map F) := by
  refine ⟨some ⟨gm, 0, none⟩, n, by simp, ⟨by simpa using hn, by simp⟩, fun i f hi => ⟨gm, 0, rfl, ?_⟩⟩
  rw [List.getElem?_map] at hi
  cases hr : (List.range n)[i]? with
  | none => rw [hr] at hi; cases hi
  | some k =>
    rw [hr] at hi
    have hf : F k = f := Option.some.inj hi
    obtain ⟨h1, h2⟩ := List.getElem?_eq_some_iff.1 hr
    have hk : k = i := by rw [← h2]; simp
    have hin : i < n := by simpa using h1
    rw [← hf, hk, Nat.zero_add]
    exact h i hin
def zcells (n : Nat) : Array Value := madeCells (mv fun _ => false) (n * 23)
theorem zcells_at {n i j : Nat} (hi : i < n) (hj : j < 23) : (zcells n)[i * 23 + j]? = (mv fun _ => false)[j]? := by
  have h1 : i * 23 + j < n * 23 := by
    have : (i + 1) * 23 ≤ n * 23 := Nat.mul_le_mul_right 23 hi
    omega
  have h2 : (i * 23 + j) % 23 = j := by omega
  have h3 : j < (mv fun _ => false).size := by rw [mv_size]; exact hj
  simp [zcells, madeCells, h1, mv_size, h2]
  rw [Array.getElem!_eq_getD, Array.getD_eq_getD_getElem?, Array.getElem?_eq_getElem h3]
  rfl
theorem zcells_range {w : World} {g n : Nat} {t : TypeId} (h : w.heap[g]? = some (.cells (zcells n) t (0, 0))) {i : Nat} (hi : i < n) : w.rangeAt g (i * 23) (mv fun _ => false).toList := fun j v hv => by
  have hj : j < 23 := by
    have := (List.getElem?_eq_some_iff.1 hv).1
    rw [Array.length_toList, mv_size] at this
    exact this
  rw [cell_of_row _ _ _ _ _ _ h, zcells_at hi hj, ← Array.getElem?_toList]
  exact hv
theorem maskInfo6 : (Tryz.prog.info? 43).map (fun i => (i.zero, i.size, i.bytes)) = some (some (.agg #[.int .u64 0, .int .u64 0, .int .u64 0, .int .u64 0, .int .u64 0, .int .u64 0, .int .u64 0, .int .u64 0, .int .u64 0, .int .u64 0, .int .u64 0, .int .u64 0, .int .u64 0, .int .u64 0, .int .u64 0, .int .u64 0, .int .u64 0, .int .u64 0, .int .u64 0, .int .u64 0, .int .u64 0, .int .u64 0, .int .u64 0]), 23, 184) := by kernel_rfl
theorem masksType6 : Tryz.prog.underlying 34 = some (.slice 43) := by kernel_rfl
theorem make_masks (n : Nat) (hn : n ≤ 1000) (w : World) : (Instr.makeSlice 34 (.int .i64 (n : Int)) (.int .i64 (n : Int))).run Tryz.prog w = .ok (.slice (some ⟨w.heap.size, 0, none⟩) n n) (w.alloc (.cells (zcells n) 43)) := by
  obtain ⟨i, hi, hzz⟩ := Option.map_eq_some_iff.1 maskInfo6
  simp only [Prod.mk.injEq] at hzz
  obtain ⟨hz, hs, hb⟩ := hzz
  have hr := run_make (P := Tryz.prog) w 34 43 i _ masksType6 hi hz .i64 .i64 n n (by omega) (Int.le_refl _) (by rw [hb]; omega) (by omega)
  rw [hs] at hr
  have e : (Value.agg #[.int .u64 0, .int .u64 0, .int .u64 0, .int .u64 0, .int .u64 0, .int .u64 0, .int .u64 0, .int .u64 0, .int .u64 0, .int .u64 0, .int .u64 0, .int .u64 0, .int .u64 0, .int .u64 0, .int .u64 0, .int .u64 0, .int .u64 0, .int .u64 0, .int .u64 0, .int .u64 0, .int .u64 0, .int .u64 0, .int .u64 0]).cells = mv fun _ => false := mv_lit
  rw [e] at hr
  simpa [zcells] using hr
def asp (B n : Nat) (day : Int) (sl : Value) (l : List Ru) (i : Nat) (v : Value) (W : World) : Prop := match i with
  | 0 => v = .int .i64 day
  | 3 => ∃ mb, v = .map (some mb) ∧ MapN W mb l
  | 5 => v = .int .i64 (n : Int)
  | 6 => ∃ gk : Nat, v = .slice (some ⟨gk, 0, none⟩) n n ∧ B ≤ gk ∧ W.heap[gk]? = some (.cells (bcells n fun _ => false) 4 (0, 0))
  | 8 => v = .int .i64 (n : Int)
  | 9 => ∃ gm : Nat, v = .slice (some ⟨gm, 0, none⟩) n n ∧ B ≤ gm ∧ W.heap[gm]? = some (.cells (zcells n) 43 (0, 0))
  | 10 => ∃ mb gk gm : Nat, v = .agg #[.int .i64 day, sl, .map (some mb), .slice (some ⟨gk, 0, none⟩) n n, .slice (some ⟨gm, 0, none⟩) n n] ∧ MapN W mb l ∧ B ≤ gk ∧ W.heap[gk]? = some (.cells (bcells n fun _ => false) 4 (0, 0)) ∧ B ≤ gm ∧ W.heap[gm]? = some (.cells (zcells n) 43 (0, 0))
  | 11 => ∃ g : Nat, v = .pointer (some ⟨g, 0, none⟩) ∧ B ≤ g ∧ W.heap[g]? = some (.cells #[.int .i64 0, .slice none 0 0, .map none, .slice none 0 0, .slice none 0 0] 64 (0, 0))
  | _ => v = sl
theorem asp_mono {B n : Nat} {day : Int} {sl : Value} {l : List Ru} {W W' : World} (hb : Below W.heap.size W W') (i : Nat) (v : Value) (h : asp B n day sl l i v W) : asp B n day sl l i v W' := by
  unfold asp at *
  split at h
  · exact h
  · obtain ⟨mb, h1, h2⟩ := h
    exact ⟨mb, h1, h2.later (hb.block _ (lt_of_map h2))⟩
  · exact h
  · obtain ⟨gk, h1, h2, h3⟩ := h
    exact ⟨gk, h1, h2, (hb.block _ (lt_of_block h3)).trans h3⟩
  · exact h
  · obtain ⟨gk, h1, h2, h3⟩ := h
    exact ⟨gk, h1, h2, (hb.block _ (lt_of_block h3)).trans h3⟩
  · obtain ⟨mb, gk, gm, h1, h2, h3, h4, h5, h6⟩ := h
    exact ⟨mb, gk, gm, h1, h2.later (hb.block _ (lt_of_map h2)), h3, (hb.block _ (lt_of_block h4)).trans h4, h5, (hb.block _ (lt_of_block h6)).trans h6⟩
  · obtain ⟨gk, h1, h2, h3⟩ := h
    exact ⟨gk, h1, h2, (hb.block _ (lt_of_block h3)).trans h3⟩
  · exact h
theorem MD.begin {w W : World} {n g gk gm mb : Nat} {day : Int} {sl : Value} {l : List Ru} {V : Nat → Nat → Bool} {old : Array Value} (hJ : Below w.heap.size w W) (hM : MapN W mb l) (b7 : w.heap.size ≤ g) (k7 : W.heap[g]? = some (.cells old 64 (0, 0)))
    (b28 : w.heap.size ≤ gk) (k28 : W.heap[gk]? = some (.cells (bcells n fun _ => false) 4 (0, 0))) (b31 : w.heap.size ≤ gm) (k31 : W.heap[gm]? = some (.cells (zcells n) 43 (0, 0))) :
    MI ⟨w, n, g, gk, gm, mb, day, sl, l, V⟩ (fun _ => false) (W.setRow g #[.int .i64 day, sl, .map (some mb), .slice (some ⟨gk, 0, none⟩) n n, .slice (some ⟨gm, 0, none⟩) n n]) := by
  have n1 : g ≠ gk := fun e => by subst e; rw [k7] at k28; cases k28
  have n2 : g ≠ gm := fun e => by subst e; rw [k7] at k31; cases k31
  have n3 : gk ≠ gm := fun e => by
    subst e
    rw [k28] at k31
    injection k31 with e1
    injection e1 with _ e2
    exact absurd e2 (by decide)
  obtain ⟨es, c, hm, _⟩ := id hM
  have n4 : mb ≠ gk := fun e => by subst e; rw [hm] at k28; cases k28
  have n5 : mb ≠ gm := fun e => by subst e; rw [hm] at k31; cases k31
  have n6 : mb ≠ g := fun e => by subst e; rw [hm] at k7; cases k7
  have ho : ∀ q, q ≠ g → (W.setRow g #[.int .i64 day, sl, .map (some mb), .slice (some ⟨gk, 0, none⟩) n n, .slice (some ⟨gm, 0, none⟩) n n]).heap[q]? = W.heap[q]? := fun q hq => setRow_other _ _ _ _ hq
  refine ⟨fun _ _ => false, ⟨below_setRow hJ b7 _, setRow_heap _ _ _ _ _ _ k7, (ho _ (fun e => n1 e.symm)).trans k28, fun i hi => ?_, ⟨_, (ho _ (fun e => n2 e.symm)).trans k31⟩, hM.later (ho _ n6), ⟨b7, b28, b31⟩, n1, n2, n3, n4, n5⟩, fun _ _ h => by cases h⟩
  exact zcells_range ((ho _ (fun e => n2 e.symm)).trans k31) hi
theorem mall_post {R : Ending → World → Prop} {a : Act} {w : World} (g : Nat) (v : Value) (er at_ : Int) (hd : a.defers = []) (h2 : a.tmps.getD 4 undef = v) (h3 : a.tmps.getD 5 undef = .pointer (some ⟨g, 0, none⟩))
    (hg : w.heap[g]? = some (.cells #[.int .i64 er, .int .i64 at_] 26 (0, 0))) (hR : R (.returned (.tuple #[v, .agg #[.int .i64 er, .int .i64 at_]])) w) : bodyPost Tryz.prog Tryz.f8 R .ret a w := by
  refine bodyPost_ret (v := .tuple #[v, .agg #[.int .i64 er, .int .i64 at_]]) ?_ hd hR
  have h2' : a.tmps[4]?.getD undef = v := by simpa using h2
  have h3' : a.tmps[5]?.getD undef = .pointer (some ⟨g, 0, none⟩) := by simpa using h3
  have hv := run_loadVar_row (P := Tryz.prog) w g 26 26 _ _ _ hg faultType rfl (by kernel_rfl)
  simp [results, Tryz.results8, h2', h3', asAddr, hv]
set_option maxRecDepth 100000 in
set_option maxHeartbeats 4000000 in
theorem mall_any (us : List (Ru × Value)) (v : Value) (day : Int) (w : World) (h : InR w v us) : Calls Tryz.prog 8 #[v, .int .i64 day] w (OutMe (us.map (fun p => p.1)) day w) := by
  obtain ⟨l, hl⟩ : ∃ l, us.map (fun p => p.1) = l := ⟨_, rfl⟩
  obtain ⟨n, hn⟩ : ∃ n, us.length = n := ⟨_, rfl⟩
  have hll : l.length = n := by rw [← hl, List.length_map, hn]
  obtain ⟨pv, cv, rfl⟩ := h.form
  have bA := (Below.refl w.heap.size w).alloc (Nat.le_refl _) (.cells #[.int .i64 0, .int .i64 0] 26)
  have n1 := heap_alloc_new w (.cells #[.int .i64 0, .int .i64 0] 26)
  generalize hwA : w.alloc (.cells #[.int .i64 0, .int .i64 0] 26) = wA at *
  have cW := chk_any us _ wA (h.below bA)
  rw [hl] at cW
  rw [hl, hn]
  have HL := hid5 hl
  have HLN := hid5 hn
  have HLL := hid5 hll
  have HI0 := hid5 h
  rw [hn] at cW
  clear hl hll h hn
  go_enter Tryz.func8, Tryz.ntmps8
  go_wp2_with fail
  refine cW.mono ?_
  rintro r w1 ⟨rfl, hb1⟩
  have m2 := (hb1.block _ (lt_of_block n1)).trans n1
  have hb1w := bA.trans (hb1.mono bA.size)
  clear cW n1 hb1 bA hwA
  by_cases h0 : (chkW l).1 = 0
  · obtain ⟨hw0, _⟩ := chk_lk2 h0
    have h40 := (wrongR_oke hw0).1
    rw [HLL.out] at h40
    have H0 := hid5 h0
    rw [h0]
    generalize (((chkW l).2 : Nat) : Int) = at0 at *
    have bC := (Below.refl w1.heap.size w1).alloc (Nat.le_refl _) (.cells #[.int .i64 0, .int .i64 at0] 26)
    have HBw := hid5 (hb1w.trans (bC.mono hb1w.size))
    have HR := hid5 ((bC.block _ (lt_of_block m2)).trans m2)
    have m3 := heap_alloc_new w1 (.cells #[.int .i64 0, .int .i64 at0] 26)
    have Hn40 := hid5 h40
    have hI40 : (n : Int) ≤ 40 := by omega
    clear bC hb1w m2 h0 h40 hw0
    generalize hw2 : w1.alloc (.cells #[.int .i64 0, .int .i64 at0] 26) = wB at *
    have HI := hid5 (HI0.out.below HBw.out)
    have z0 := (cell_of_row _ _ 0 _ _ _ m3).trans rfl
    by_cases hd : day < 0 ∨ 146097 ≤ day
    · have HF : Hid (mflt l day = (3, 0)) := by
        show _ = _
        unfold mflt
        rw [if_neg (by simpa using H0.out), if_pos hd]
      have HO : Hid (∀ cs, OutMe l day w (.returned (.tuple #[.slice none 0 0, .agg #[.int .i64 3, .int .i64 0]])) (wB.setRow w.heap.size cs)) := fun cs => by
        have hML : meanL l day = [] := by
          unfold meanL
          rw [HF.out]
          rfl
        refine ⟨_, by rw [HF.out]; rfl, ?_, below_setRow HBw.out (Nat.le_refl _) _⟩
        rw [hML]
        exact rowM_nil _ _ _
      have n9 := HR.out
      by_cases hd0 : day < 0
      · clear hd
        go_wp2_with (refine wpList_store_row rfl 26 _ _ rfl _ _ rfl rfl _ _ n9 (by kernel_rfl) (by simp) (by simp [Value.oneCell']) ?_)
        exact mall_post w.heap.size _ 3 0 rfl rfl rfl (setRow_heap _ _ _ _ _ _ n9) (HO.out _)
      · have hd1 : 146097 ≤ day := by omega
        clear hd
        go_wp2_with (refine wpList_store_row rfl 26 _ _ rfl _ _ rfl rfl _ _ n9 (by kernel_rfl) (by simp) (by simp [Value.oneCell']) ?_)
        exact mall_post w.heap.size _ 3 0 rfl rfl rfl (setRow_heap _ _ _ _ _ _ n9) (HO.out _)
    · have HF : Hid (mflt l day = (0, 0)) := by
        show _ = _
        unfold mflt
        rw [if_neg (by simpa using H0.out), if_neg hd]
      have HML : Hid (meanL l day = (List.range n).map (meanP l (wkB day) day)) := by
        show _ = _
        unfold meanL
        rw [HF.out, HLL.out]
        rfl
      have hd0 : ¬ day < 0 := fun e => hd (.inl e)
      have hd1 : ¬ 146097 ≤ day := fun e => hd (.inr e)
      have Hall : Hid (∀ (g gk gm mb i : Nat), i < n → RuleC ⟨wB, n, g, gk, gm, mb, day, .slice pv n cv, l, meanP l (wkB day) day⟩ (i : Int) (meanP l (wkB day) day i)) := fun g gk gm mb i hi => by
        have hin := HI.out
        rw [HLN.out] at hin
        exact mrule_all (D := ⟨wB, n, g, gk, gm, mb, day, .slice pv n cv, l, meanP l (wkB day) day⟩) hin HL.out HLN.out H0.out (by show 0 ≤ day; omega) (by show day < 146097; omega) (fun _ => rfl) (muR l i + 1) i hi (by show muR l i < muR l i + 1; omega)
      have Hmb := hid5 (run_make_row' (P := Tryz.prog) 60 4 (.bool false) 1 boolsType boolInfo rfl .i64 .i64 n (by omega) (by omega))
      rw [bcells_none] at Hmb
      have Hmm := hid5 (make_masks n (by omega))
      clear hd
      go_wp2_with fail
      clear z0 m3 hw2
      refine wp_region_lastP (Below wB.heap.size wB) (asp wB.heap.size n day (.slice pv n cv) l) ((Below.refl _ _).drew) (fun W W' hb j u h => asp_mono hb j u h) (by kernel_rfl) (by kernel_rfl) (by kernel_rfl) (by kernel_rfl) 12 (by kernel_rfl) (by kernel_rfl) [22, 23, 24, 25, 26, 27, 28, 29, 30, 31, 32, 7] (by kernel_rfl) (by kernel_rfl) ?_ ?_
      · intro i' s o' L A W2 ho hs hdep hJ hkept hhas
        match i', ho, hs with
        | 0, ho, hs =>
          cases Option.some.inj ho
          cases Option.some.inj hs
          have h1 : A.tmps[1]?.getD undef = .int .i64 day := (gd A 1).trans (hkept 1 (by kernel_rfl))
          refine wpOp_step rfl (fun K hK => ?_)
          go_simp
          exact hK _ _ ⟨_, rfl, rfl, hJ, Below.refl _ _⟩
        | 1, ho, hs =>
          cases Option.some.inj ho
          cases Option.some.inj hs
          have h0 : A.tmps[0]?.getD undef = .slice pv n cv := (gd A 0).trans (hkept 0 (by kernel_rfl))
          refine wpOp_step rfl (fun K hK => ?_)
          go_simp
          exact hK _ _ ⟨_, rfl, rfl, hJ, Below.refl _ _⟩
        | 2, ho, hs =>
          cases Option.some.inj ho
          cases Option.some.inj hs
          have h0 : A.tmps[0]?.getD undef = .slice pv n cv := (gd A 0).trans (hkept 0 (by kernel_rfl))
          refine wpOp_step rfl (fun K hK => ?_)
          go_simp
          exact hK _ _ ⟨_, rfl, rfl, hJ, Below.refl _ _⟩
        | 3, ho, hs =>
          cases Option.some.inj ho
          cases Option.some.inj hs
          have h24 : A.tmps[24]?.getD undef = .slice pv n cv := (gd A 24).trans (hhas 2 24 rfl (hdep ⟨2, .data⟩ (by simp) rfl))
          have cN := numbers_any us _ W2 (HI.out.below hJ)
          rw [HLN.out] at cN
          refine wpOp_step rfl (fun K hK => ?_)
          go_simp
          refine cN.mono ?_
          rintro e' W' ⟨mb, rfl, _, hM, hb'⟩
          rw [HL.out] at hM
          exact hK _ _ ⟨_, rfl, ⟨mb, rfl, hM⟩, hJ.trans (hb'.mono hJ.size), hb'⟩
        | 4, ho, hs =>
          cases Option.some.inj ho
          cases Option.some.inj hs
          have h0 : A.tmps[0]?.getD undef = .slice pv n cv := (gd A 0).trans (hkept 0 (by kernel_rfl))
          refine wpOp_step rfl (fun K hK => ?_)
          go_simp
          exact hK _ _ ⟨_, rfl, rfl, hJ, Below.refl _ _⟩
        | 5, ho, hs =>
          cases Option.some.inj ho
          cases Option.some.inj hs
          have h26 : A.tmps[26]?.getD undef = .slice pv n cv := (gd A 26).trans (hhas 4 26 rfl (hdep ⟨4, .data⟩ (by simp) rfl))
          refine wpOp_step rfl (fun K hK => ?_)
          go_simp
          exact hK _ _ ⟨_, rfl, rfl, hJ, Below.refl _ _⟩
        | 6, ho, hs =>
          cases Option.some.inj ho
          cases Option.some.inj hs
          have h27 : A.tmps[27]?.getD undef = .int .i64 (n : Int) := (gd A 27).trans (hhas 5 27 rfl (hdep ⟨5, .data⟩ (by simp) rfl))
          have hsz := hJ.size
          have hmk := Hmb.out W2
          have hb := (Below.refl W2.heap.size W2).alloc (Nat.le_refl _) (.cells (bcells n fun _ => false) 4)
          have hnew := heap_alloc_new W2 (.cells (bcells n fun _ => false) 4)
          refine wpOp_step rfl (fun K hK => ?_)
          go_simp
          exact hK _ _ ⟨_, rfl, ⟨_, rfl, hsz, hnew⟩, hJ.trans (hb.mono hJ.size), hb⟩
        | 7, ho, hs =>
          cases Option.some.inj ho
          cases Option.some.inj hs
          have h0 : A.tmps[0]?.getD undef = .slice pv n cv := (gd A 0).trans (hkept 0 (by kernel_rfl))
          refine wpOp_step rfl (fun K hK => ?_)
          go_simp
          exact hK _ _ ⟨_, rfl, rfl, hJ, Below.refl _ _⟩
        | 8, ho, hs =>
          cases Option.some.inj ho
          cases Option.some.inj hs
          have h29 : A.tmps[29]?.getD undef = .slice pv n cv := (gd A 29).trans (hhas 7 29 rfl (hdep ⟨7, .data⟩ (by simp) rfl))
          refine wpOp_step rfl (fun K hK => ?_)
          go_simp
          exact hK _ _ ⟨_, rfl, rfl, hJ, Below.refl _ _⟩
        | 9, ho, hs =>
          cases Option.some.inj ho
          cases Option.some.inj hs
          have h30 : A.tmps[30]?.getD undef = .int .i64 (n : Int) := (gd A 30).trans (hhas 8 30 rfl (hdep ⟨8, .data⟩ (by simp) rfl))
          have hsz := hJ.size
          have hmk := Hmm.out W2
          have hb := (Below.refl W2.heap.size W2).alloc (Nat.le_refl _) (.cells (zcells n) 43)
          have hnew := heap_alloc_new W2 (.cells (zcells n) 43)
          refine wpOp_step rfl (fun K hK => ?_)
          go_simp
          exact hK _ _ ⟨_, rfl, ⟨_, rfl, hsz, hnew⟩, hJ.trans (hb.mono hJ.size), hb⟩
        | 10, ho, hs =>
          cases Option.some.inj ho
          cases Option.some.inj hs
          have h22 : A.tmps[22]?.getD undef = .int .i64 day := (gd A 22).trans (hhas 0 22 rfl (hdep ⟨0, .data⟩ (by simp) rfl))
          have h23 : A.tmps[23]?.getD undef = .slice pv n cv := (gd A 23).trans (hhas 1 23 rfl (hdep ⟨1, .data⟩ (by simp) rfl))
          obtain ⟨mb, e25, hM⟩ := hhas 3 25 rfl (hdep ⟨3, .data⟩ (by simp) rfl)
          obtain ⟨gk, e28, b28, k28⟩ := hhas 6 28 rfl (hdep ⟨6, .data⟩ (by simp) rfl)
          obtain ⟨gm, e31, b31, k31⟩ := hhas 9 31 rfl (hdep ⟨9, .data⟩ (by simp) rfl)
          have h25 : A.tmps[25]?.getD undef = .map (some mb) := (gd A 25).trans e25
          have h28 : A.tmps[28]?.getD undef = .slice (some ⟨gk, 0, none⟩) n n := (gd A 28).trans e28
          have h31 : A.tmps[31]?.getD undef = .slice (some ⟨gm, 0, none⟩) n n := (gd A 31).trans e31
          refine wpOp_step rfl (fun K hK => ?_)
          go_simp
          exact hK _ _ ⟨_, rfl, ⟨mb, gk, gm, rfl, hM, b28, k28, b31, k31⟩, hJ, Below.refl _ _⟩
        | 11, ho, hs =>
          cases Option.some.inj ho
          cases Option.some.inj hs
          have hsz := hJ.size
          have hb := (Below.refl W2.heap.size W2).alloc (Nat.le_refl _) (.cells #[.int .i64 0, .slice none 0 0, .map none, .slice none 0 0, .slice none 0 0] 64)
          have hnew := heap_alloc_new W2 (.cells #[.int .i64 0, .slice none 0 0, .map none, .slice none 0 0, .slice none 0 0] 64)
          refine wpOp_step rfl (fun K hK => ?_)
          go_simp
          exact hK _ _ ⟨_, rfl, ⟨_, rfl, hsz, hnew⟩, hJ.trans (hb.mono hJ.size), hb⟩
        | kk + 12, ho, hs => simp at hs
      · intro o' W2 A ho hJ hhas hkept hput
        obtain ⟨mb, e25, _⟩ := hhas 3 25 rfl
        obtain ⟨gk, e28, _, _⟩ := hhas 6 28 rfl
        obtain ⟨gm, e31, _, _⟩ := hhas 9 31 rfl
        obtain ⟨mb1, gk1, gm1, e32, hM, b28, k28, b31, k31⟩ := hhas 10 32 rfl
        obtain ⟨g, e7, b7, k7⟩ := hhas 11 7 rfl
        have hA : A = putAll [(22, .int .i64 day), (23, .slice pv n cv), (24, .slice pv n cv), (25, .map (some mb)), (26, .slice pv n cv), (27, .int .i64 (n : Int)), (28, .slice (some ⟨gk, 0, none⟩) n n), (29, .slice pv n cv), (30, .int .i64 (n : Int)), (31, .slice (some ⟨gm, 0, none⟩) n n), (32, .agg #[.int .i64 day, .slice pv n cv, .map (some mb1), .slice (some ⟨gk1, 0, none⟩) n n, .slice (some ⟨gm1, 0, none⟩) n n]), (7, .pointer (some ⟨g, 0, none⟩))] _ := hput _ (by kernel_rfl) (fun j s v hj => match j, hj with
          | 0, hj => by cases Option.some.inj hj; exact hhas 0 22 rfl
          | 1, hj => by cases Option.some.inj hj; exact hhas 1 23 rfl
          | 2, hj => by cases Option.some.inj hj; exact hhas 2 24 rfl
          | 3, hj => by cases Option.some.inj hj; exact e25
          | 4, hj => by cases Option.some.inj hj; exact hhas 4 26 rfl
          | 5, hj => by cases Option.some.inj hj; exact hhas 5 27 rfl
          | 6, hj => by cases Option.some.inj hj; exact e28
          | 7, hj => by cases Option.some.inj hj; exact hhas 7 29 rfl
          | 8, hj => by cases Option.some.inj hj; exact hhas 8 30 rfl
          | 9, hj => by cases Option.some.inj hj; exact e31
          | 10, hj => by cases Option.some.inj hj; exact e32
          | 11, hj => by cases Option.some.inj hj; exact e7
          | kk + 12, hj => by simp at hj)
        cases Option.some.inj ho
        have hx : A.eval (.tmp 7) = .pointer (some ⟨g, 0, none⟩) := e7
        have hy : A.eval (.tmp 32) = .agg #[.int .i64 day, .slice pv n cv, .map (some mb1), .slice (some ⟨gk1, 0, none⟩) n n, .slice (some ⟨gm1, 0, none⟩) n n] := e32
        have hst := MD.begin (day := day) (sl := .slice pv n cv) (V := meanP l (wkB day) day) hJ hM b7 k7 b28 k28 b31 k31
        refine wpOp_step rfl (fun K hK => ?_)
        show Oper.wp _ _ _ _ _ _
        refine wp_store_row 64 _ _ rfl _ _ hx hy _ _ k7 (by kernel_rfl) (by simp) (by simp [Value.oneCell']) ?_
        refine hK _ _ ⟨⟨undef, rfl⟩, ?_⟩
        change Exit.then _ _ Exit.normal A _
        subst hA
        simp only [putAll_cons, putAll_nil, Act.put, List.setIfInBounds_toArray, List.set_cons_succ, List.set_cons_zero]
        clear hK hx hy hput hhas hkept e25 e28 e31 e32 e7 k7 k28 k31 hM
        generalize W2.setRow g #[.int .i64 day, .slice pv n cv, .map (some mb1), .slice (some ⟨gk1, 0, none⟩) n n, .slice (some ⟨gm1, 0, none⟩) n n] = W5 at *
        clear hJ
        have cR := Hall.out g gk1 gm1 mb1
        have HC := hid5 cR
        clear cR Hall
        go_wp2_with fail
        go_loopw [8, 35] (fun _ t wr => ∃ j : Nat, t = .int .i64 (j : Int) ∧ j ≤ n ∧ ∃ K, MI ⟨wB, n, g, gk1, gm1, mb1, day, .slice pv n cv, l, meanP l (wkB day) day⟩ K wr ∧ ∀ k, k < j → K k = true) (fun _ t _ => n - (intOf t).toNat)
        case atStart => exact ⟨0, rfl, by omega, _, hst, fun k hk => by omega⟩
        case round =>
          obtain ⟨j, rfl, hj, K, hM, hall⟩ := hrel
          have hj0 : (0 : Int) ≤ (j : Int) := by omega
          have HA := hid5 hall
          clear hall hst
          by_cases hlt : j < n
          · have hlt' : (j : Int) < (n : Int) := by omega
            have cJ := HC.out j hlt K wr hM
            go_wp2_with fail
            refine cJ.mono ?_
            rintro r W6 ⟨rfl, ⟨K', hM', hle, hKj⟩, _⟩
            have HN : Hid (∃ K, MI ⟨wB, n, g, gk1, gm1, mb1, day, .slice pv n cv, l, meanP l (wkB day) day⟩ K W6 ∧ ∀ k, k < j + 1 → K k = true) := ⟨K', hM', fun k hk => by
              by_cases e : k = j
              · subst e
                simpa using hKj
              · exact hle k (HA.out k (by omega))⟩
            clear cJ hM hM' hle hKj HA
            go_wp2_with fail
            go_roundw
            case rel => exact ⟨j + 1, by go_num, by omega, HN.out⟩
            case measure => simp [intOf]; omega
          · have ej : j = n := by omega
            have hlt' : ¬ (j : Int) < (n : Int) := by omega
            have k4 := (cell_of_row _ _ 4 _ _ _ hM.blk).trans rfl
            have hbw := hM.bel
            have n9 := (hbw.block _ (lt_of_block HR.out)).trans HR.out
            have HO : Hid (∀ cs, OutMe l day w (.returned (.tuple #[.slice (some ⟨gm1, 0, none⟩) n n, .agg #[.int .i64 0, .int .i64 0]])) (wr.setRow w.heap.size cs)) := fun cs => by
              obtain ⟨M, h1, h2⟩ := hM
              have hb9 := below_setRow (HBw.out.trans (hbw.mono HBw.out.size)) (Nat.le_refl w.heap.size) cs
              refine ⟨_, by rw [HF.out]; rfl, ?_, hb9⟩
              rw [HML.out]
              refine rowM_of Hn40.out (fun i hi => ?_)
              have h3 := h2 i hi (HA.out i (by omega))
              have h4 := MSt.meant h1 i hi
              rw [h3] at h4
              intro q v hv
              rw [← h4 q v hv]
              exact World.cell?_of_block (setRow_other _ _ _ _ (by have := (MSt.lo h1).2.2; have := HBw.out.size; have := lt_of_block HR.out; dsimp only at *; omega))
            clear HA hM HC
            go_wp2_with (refine wpList_store_row rfl 26 _ _ rfl _ _ rfl rfl _ _ n9 (by kernel_rfl) (by simp) (by simp [Value.oneCell']) ?_)
            exact mall_post w.heap.size _ 0 0 rfl rfl rfl (setRow_heap _ _ _ _ _ _ n9) (HO.out _)
  · have H0 := hid5 h0
    have HF : Hid (mflt l day = chkW l) := by
      show _ = _
      unfold mflt
      rw [if_pos h0]
    have hne : ((chkW l).1 != 0) = true := by simpa using h0
    have bC := (Below.refl w1.heap.size w1).alloc (Nat.le_refl _) (.cells #[.int .i64 (chkW l).1, .int .i64 ((chkW l).2 : Int)] 26)
    have HBw := hid5 (hb1w.trans (bC.mono hb1w.size))
    have n9 := (bC.block _ (lt_of_block m2)).trans m2
    have m3 := heap_alloc_new w1 (.cells #[.int .i64 (chkW l).1, .int .i64 ((chkW l).2 : Int)] 26)
    clear bC hb1w m2 h0
    generalize hw2 : w1.alloc (.cells #[.int .i64 (chkW l).1, .int .i64 ((chkW l).2 : Int)] 26) = wB at *
    have HO : Hid (∀ W, Below w.heap.size w W → OutMe l day w (.returned (.tuple #[.slice none 0 0, .agg #[.int .i64 (chkW l).1, .int .i64 ((chkW l).2 : Int)]])) W) := fun W hW => by
      have hML : meanL l day = [] := by
        unfold meanL
        rw [HF.out, if_neg H0.out]
      refine ⟨_, by rw [HF.out], ?_, hW⟩
      rw [hML]
      exact rowM_nil _ _ _
    have z0 := (cell_of_row _ _ 0 _ _ _ m3).trans rfl
    have z1 := (cell_of_row _ _ 1 _ _ _ m3).trans rfl
    have y0 := (cell_of_row _ _ 0 _ _ _ n9).trans rfl
    have y1 := (cell_of_row _ _ 1 _ _ _ n9).trans rfl
    have x0 := frozen_of_row _ _ 0 _ _ n9
    have x1 := frozen_of_row _ _ 1 _ _ n9
    have hmm := heap_setCell_same _ _ 1 _ _ (.int .i64 ((chkW l).2 : Int)) (heap_setCell_same _ _ 0 _ _ (.int .i64 (chkW l).1) n9)
    have HBB := hid5 ((HBw.out.setCell (p := ⟨w.heap.size, 0, none⟩) (Nat.le_refl _) (.int .i64 (chkW l).1)).setCell (p := ⟨w.heap.size, 1, none⟩) (Nat.le_refl _) (.int .i64 ((chkW l).2 : Int)))
    have HMM := hid5 hmm
    clear hmm n9 m3
    clear HF H0
    generalize (chkW l).1 = er at *
    generalize (((chkW l).2 : Nat) : Int) = at0 at *
    go_wp2_with fail
    go_region
    go_wp2_with fail
    exact mall_post w.heap.size _ er at0 rfl rfl rfl HMM.out (HO.out _ (below_drewN HBB.out 1))
end Go.Proofs.YtgfjbcdjpkcbkaaGreatDoor

/- Rules that came in, appended: an operation of a region that draws its order; and a rule put behind rules: what is said while it goes on. Written by genmm.py. -/
namespace Go.Proofs.YtgfjbcdjpkcbkaaGreatDoor
open Go.RowKit Lx
theorem wp_append_in {w : World} {o : Oper} {a : Act} {K : Act → World → Prop} {Q : Exit → Act → World → Prop} (s x : Operand)
    (ho : o.op = .call { callee := .builtin .append, args := #[s, x], argTypes := #[22, 22] }) (base : Nat) (i : TypeInfo) (hi : Tryz.prog.info? 33 = some i) (hz : i.zero = some (.agg #[.string ⟨#[]⟩, .int .i64 0, .int .i64 0, .int .i64 0, .string ⟨#[]⟩, .slice none 0 0])) (hsize : i.size = 6) (hby : i.bytes = 80)
    (v : Value) (n : Nat) (xs : List Value) (hs : a.eval s = v) (hown : w.ownsRow base 33 6 v n xs) (us : List (Ru × Value)) (pv : Option Addr) (cv : Nat) (hx : a.eval x = .slice pv us.length cv) (hin : InR w (.slice pv us.length cv) us) (hp : pv = none → cv = 0)
    (h63 : n + us.length ≤ maxLen) (hbytes : (n + us.length) * 80 ≤ 140737488355328) (hbase : base ≤ w.heap.size)
    (h : ∀ v' w', w'.ownsRow base 33 6 v' (n + us.length) (xs ++ flatR us) → w.grownBy w' v.ownBlock → K (a.put o.dst v') w') : o.wp Tryz.prog a w K Q := by
  have hf := flatR_oneC us fun p hp => by
    obtain ⟨_, _, d, hd⟩ := hin.all p hp
    obtain ⟨q, c, e⟩ := hd.form
    exact ⟨q, _, c, e⟩
  have hc := hin.cells
  cases pv with
  | none =>
    have e0 : us = [] := by
      cases us with
      | nil => rfl
      | cons p us =>
        obtain ⟨_, _, e, _⟩ := hc 0 p rfl
        cases e
    subst e0
    rw [hp rfl] at hx
    have hx' : a.eval x = .slice none 0 0 := hx
    have hrun := run_append_owned_none (P := Tryz.prog) (w := w) base 22 o.type 33 i 6 rulesType hi v n xs hown
    unfold Oper.wp
    simp [execOp, ho, resolve, invoke, builtin, hs, hx', hrun, Result.andThen]
    exact h v w (by rw [flatR, List.append_nil]; exact hown) ⟨rfl, rfl, rfl, Nat.le_refl _, fun _ _ _ => rfl⟩
  | some ad =>
    refine wp_append_own w s x 22 ho base 33 i _ 6 80 rulesType hi hz hsize hby rfl (by decide) v n xs hs hown ad us.length cv (flatR us) hx (flatR_len us) (fun j u hj => ?_) hf h63 hbytes hbase fun v' w' h2 h3 _ => h v' w' h2 h3
    cases us with
    | nil => simp [flatR] at hj
    | cons p0 us =>
      obtain ⟨g, o', e, _⟩ := hc 0 p0 rfl
      obtain rfl := Option.some.inj e
      have t := flatR_cells (p0 :: us) o' (fun q p hq => by
        obtain ⟨g', o'', e', hh⟩ := hc q p hq
        cases e'
        exact hh) j u hj
      by_cases hj0 : j = 0
      · subst hj0
        simpa [Addr.add] using t
      · simpa [Addr.add, hj0] using t
end Go.Proofs.YtgfjbcdjpkcbkaaGreatDoor

/- A rule put behind rules: what is said while it goes on. Written by genmm.py. -/
namespace Go.Proofs.YtgfjbcdjpkcbkaaGreatDoor
open Go.RowKit Lx
section
variable {B : Nat} {us us2 : List (Ru × Value)} {LV : Value} {day : Int} {nm : List UInt8} {exr rowu : Array Value} {er at0 : Int} {fs : List (Nat → Bool)} {L L' : Nat → Bool} {W W' : World}
theorem RowM.later {w w' : World} {v : Value} {fs : List (Nat → Bool)} (h : RowM w v fs) (hb : Below w.heap.size w w') : RowM w' v fs := by
  obtain ⟨p, c, h1, h2, h3⟩ := h
  refine ⟨p, c, h1, h2, fun i f hi => ?_⟩
  obtain ⟨g, o, e, hr⟩ := h3 i f hi
  exact ⟨g, o, e, range_later hr hb⟩
end
theorem inR_more {w W : World} {B : Nat} {us us2 : List (Ru × Value)} {p : Ru × Value} {lv v : Value} (hus : us ++ [p] = us2) (h : InR w lv us) (hp : RuleIn w p) (hb : Below w.heap.size w W) (ho : W.ownsRow B 33 6 v us2.length (flatR us2)) (hl : us2.length < 9223372036854775808) : InR W v us2 := by
  refine ⟨rrow_of_owns ho hl, hl, fun q hq => ?_⟩
  rw [← hus, List.mem_append, List.mem_singleton] at hq
  rcases hq with hq | rfl
  · exact (h.below hb).all q hq
  · exact hp.below hb
end Go.Proofs.YtgfjbcdjpkcbkaaGreatDoor

/- A rule put behind rules, as 'of' does it: what is said while it goes on. Written by genof.py. -/
namespace Go.Proofs.YtgfjbcdjpkcbkaaGreatDoor
open Go.RowKit Lx
section
variable {B : Nat} {us us2 : List (Ru × Value)} {LV : Value} {day : Int} {exr rowu : Array Value} {er at0 : Int} {fs : List (Nat → Bool)} {L L' : Nat → Bool} {W W' : World}
def osq (B : Nat) (us us2 : List (Ru × Value)) (LV : Value) (day : Int) (exr rowu : Array Value) (er at0 : Int) (fs : List (Nat → Bool)) (L : Nat → Bool) (i : Nat) (v : Value) (W : World) : Prop := match i with
  | 0 => L 2 = false → ∃ g : Nat, v = .slice (some ⟨g, 0, none⟩) 0 0 ∧ W.heap[g]? = some (.cells #[] 33 (0, 0)) ∧ B ≤ g
  | 1 => v = LV
  | 2 => L 6 = false → W.ownsRow B 33 6 v us.length (flatR us)
  | 3 => v = .agg exr
  | 4 => v = .agg rowu
  | 5 => L 6 = false → ∃ g : Nat, v = .slice (some ⟨g, 0, none⟩) 1 1 ∧ W.heap[g]? = some (.cells rowu 33 (0, 0))
  | 6 => W.ownsRow B 33 6 v us2.length (flatR us2)
  | 7 => v = .int .i64 day
  | 8 => ∃ vm, v = .tuple #[vm, .agg #[.int .i64 er, .int .i64 at0]] ∧ RowM W vm fs
  | 9 => ∃ vm, v = .tuple #[vm, .agg #[.int .i64 er, .int .i64 at0]] ∧ RowM W vm fs
  | 11 => v = .agg #[.int .i64 er, .int .i64 at0]
  | 12 => ∃ g : Nat, v = .pointer (some ⟨g, 0, none⟩) ∧ B ≤ g ∧ W.heap[g]? = some (.cells #[.int .i64 0, .int .i64 0] 26 (0, 0))
  | _ => RowM W v fs
theorem osq_below (hL : ∀ k, L' k = false → L k = false) (hb : Below W.heap.size W W') (j : Nat) (u : Value) (h : osq B us us2 LV day exr rowu er at0 fs L j u W) : osq B us us2 LV day exr rowu er at0 fs L' j u W' := by
  unfold osq at *
  split at h
  · intro h2
    obtain ⟨g, e, hh, hB⟩ := h (hL _ h2)
    exact ⟨g, e, (hb.block _ (lt_of_block hh)).trans hh, hB⟩
  · exact h
  · intro h2
    exact owns_below (h (hL _ h2)) hb
  · exact h
  · exact h
  · intro h2
    obtain ⟨g, e, hh⟩ := h (hL _ h2)
    exact ⟨g, e, (hb.block _ (lt_of_block hh)).trans hh⟩
  · exact owns_below h hb
  · exact h
  · obtain ⟨vm, e, hr⟩ := h
    exact ⟨vm, e, hr.later hb⟩
  · obtain ⟨vm, e, hr⟩ := h
    exact ⟨vm, e, hr.later hb⟩
  · exact h
  · obtain ⟨g, e, hB, hh⟩ := h
    exact ⟨g, e, hB, (hb.block _ (lt_of_block hh)).trans hh⟩
  · exact h.later hb
theorem osq_grown {blk : Option Nat} (hg : W.grownBy W' blk) (hrule : ∀ q, blk = some q → ∃ cur, W.heap[q]? = some (.cells cur 33 (0, 0))) {j : Nat} (h0 : j = 0 → L' 2 = true) (h2 : j = 2 → L' 6 = true) (h5 : j = 5 → L' 6 = true ∨ (L' 6 = false → L 6 = false) ∧ ∀ q, blk = some q → W.heap[q]? ≠ some (.cells rowu 33 (0, 0)))
    (hj : j ≠ 6 ∧ j ≠ 8 ∧ j ≠ 9 ∧ j ≠ 10 ∧ j < 13) (u : Value) (h : osq B us us2 LV day exr rowu er at0 fs L j u W) : osq B us us2 LV day exr rowu er at0 fs L' j u W' := by
  obtain ⟨n7, n9, n10, n11, n14⟩ := hj
  have hkeep : ∀ (q : Nat) (o : Obj), W.heap[q]? = some o → (∀ cur, o ≠ .cells cur 33 (0, 0)) → W'.heap[q]? = some o := fun q o hq hne => by
    refine (hg.block q (lt_of_block hq) (fun e => ?_)).trans hq
    obtain ⟨cur, hc⟩ := hrule q e.symm
    rw [hq] at hc
    exact hne cur (Option.some.inj hc)
  match j, h0, h2, h5, n7, n9, n10, n11, n14, h with
  | 0, h0, _, _, _, _, _, _, _, _ => intro e; rw [h0 rfl] at e; cases e
  | 1, _, _, _, _, _, _, _, _, h => exact h
  | 2, _, h2, _, _, _, _, _, _, _ => intro e; rw [h2 rfl] at e; cases e
  | 3, _, _, _, _, _, _, _, _, h => exact h
  | 4, _, _, _, _, _, _, _, _, h => exact h
  | 5, _, _, h5, _, _, _, _, _, h =>
    intro e
    rcases h5 rfl with h7 | ⟨h7, hne⟩
    · rw [h7] at e; cases e
    · obtain ⟨g, e1, hh⟩ := h (h7 e)
      exact ⟨g, e1, (hg.block g (lt_of_block hh) (fun e2 => hne g e2.symm hh)).trans hh⟩
  | 7, _, _, _, _, _, _, _, _, h => exact h
  | 11, _, _, _, _, _, _, _, _, h => exact h
  | 12, _, _, _, _, _, _, _, _, h =>
    obtain ⟨g, e, hB, hh⟩ := h
    refine ⟨g, e, hB, hkeep g _ hh fun cur e2 => ?_⟩
    injection e2 with _ e3
    exact absurd e3 (by decide)
  | 6, _, _, _, n, _, _, _, _, _ => exact absurd rfl n
  | 8, _, _, _, _, n, _, _, _, _ => exact absurd rfl n
  | 9, _, _, _, _, _, n, _, _, _ => exact absurd rfl n
  | 10, _, _, _, _, _, _, n, _, _ => exact absurd rfl n
  | j + 13, _, _, _, _, _, _, _, n, _ => omega
end
end Go.Proofs.YtgfjbcdjpkcbkaaGreatDoor

/- The text that the laws of mean ask of first, and what its rules mean: plain. -/
namespace Go.Proofs.YtgfjbcdjpkcbkaaGreatDoor
open Go.RowKit Lx Msk
def a6S : List UInt8 := [114, 117, 108, 101, 32, 97, 32, 61, 32, 119, 101, 101, 107, 108, 121, 32, 115, 97, 116, 58, 32, 48, 57, 58, 48, 48, 45, 49, 48, 58, 48, 48, 59, 32, 114, 117, 108, 101, 32, 98, 32, 61, 32, 97, 32, 115, 104, 105, 102, 116, 32, 54, 48, 59]
def a6X : Ex := ⟨4, 32, 0, [], [⟨3, 540, 600, [], []⟩]⟩
def a6Y : Ex := ⟨9, 60, 0, [], [xN 97]⟩
def a6L : List Ru := [([97], a6X), ([98], a6Y)]
def a6T : List Tk := ((iterN a6S 17).getD ([], 0)).1
theorem a6_iter : iterN a6S 17 = some (a6T, 54) := by kernel_rfl
theorem a6_rules : rulesR a6S.length (a6T.length + 1) [] a6T = .ok a6L := by kernel_rfl
theorem a6_wrong : wrongR a6L = (0, 0) := by
  have s1 : (shapeP a6X 1 0).1 = 0 := by
    simp only [a6X, shapeP_eq, shapeL_cons, shapeL_nil]
    decide
  have s2 : (shapeP a6Y 1 0).1 = 0 := by
    simp only [a6Y, xN, shapeP_eq, shapeL_cons, shapeL_nil]
    decide
  unfold wrongR a6L wrongL ruleP
  rw [s1]
  unfold wrongL ruleP
  rw [s2]
  decide
theorem a6_spk0 : spkR a6L ([97], a6X) = [] := by
  have : nms a6X = [] := by simp [a6X, nms_eq, nmsL]
  unfold spkR
  dsimp only
  rw [this]
  decide
theorem a6_spk1 : spkR a6L ([98], a6Y) = [0] := by
  have : nms a6Y = [[97]] := by simp [a6Y, xN, nms_eq, nmsL]
  unfold spkR
  dsimp only
  rw [this]
  decide
theorem a6_lead : leadS a6L = fun i => ([[], [0]] : List (List Nat)).getD i [] := by
  funext i
  match i with
  | 0 => exact (leadS_at rfl).trans (by rw [a6_spk0]; rfl)
  | 1 => exact (leadS_at rfl).trans (by rw [a6_spk1]; rfl)
  | i + 2 => rfl
theorem a6_chk : chkW a6L = (0, 0) := by
  refine chk_d (by rw [a6_wrong]) ?_ ?_ ?_
  · intro i hi
    match i, hi with
    | 0, _ => decide
    | 1, _ => decide
    | i + 2, hi => exact absurd hi (by show ¬ (i + 2 < 2); omega)
  · intro i hi
    match i, hi with
    | 0, _ => show decide (-1 ∈ spkR a6L ([97], a6X)) = false; rw [a6_spk0]; decide
    | 1, _ => show decide (-1 ∈ spkR a6L ([98], a6Y)) = false; rw [a6_spk1]; decide
    | i + 2, hi => exact absurd hi (by show ¬ (i + 2 < 2); omega)
  · intro i hi
    unfold lk3
    rw [a6_lead]
    match i, hi with
    | 0, _ => decide
    | 1, _ => decide
    | i + 2, hi => exact absurd hi (by show ¬ (i + 2 < 2); omega)
def g6 : Nat → Bool := fun i => (decide ((540 : Int) ≤ (i : Int)) && decide ((i : Int) < 600)) && decide (i < 1440)
theorem a6_m0 : meanP a6L (wkB 0) 0 0 = g6 := by
  rw [meanP_eq (u := ([97], a6X)) (by rw [a6_chk]) rfl]
  unfold a6X
  rw [valE_eq]
  show valK (wkB 0 32) 0 4 32 0 _ [valE (wkB 0) 0 _ ⟨3, 540, 600, [], []⟩] = g6
  rw [valK_4, if_pos (by decide +kernel), valE_eq]
  rfl
theorem a6_y (wk : Int → Bool) (day : Int) (env : List UInt8 → Nat → Bool) : valE wk day env a6Y = shf (env [97]) 60 := by
  have e1 : valE wk day env (xN 97) = env [97] := by
    unfold xN
    rw [valE_eq]
    rfl
  unfold a6Y
  rw [valE_eq]
  show shf (valE wk day env (xN 97)) 60 = _
  rw [e1]
theorem a6_m1 : meanP a6L (wkB 0) 0 1 = shf g6 60 := by
  rw [meanP_eq (u := ([98], a6Y)) (by rw [a6_chk]) rfl, a6_y]
  rw [show (atP5 a6L [97]).toNat = 0 by decide, a6_m0]
theorem a6_flt : mflt a6L 0 = (0, 0) := by
  unfold mflt
  rw [a6_chk]
  decide
theorem a6_mean : meanL a6L 0 = [g6, shf g6 60] := by
  unfold meanL
  rw [a6_flt, if_pos rfl]
  show [meanP a6L (wkB 0) 0 0, meanP a6L (wkB 0) 0 1] = _
  rw [a6_m0, a6_m1]
end Go.Proofs.YtgfjbcdjpkcbkaaGreatDoor

/- What the laws' own question of mean comes to: true. -/
namespace Go.Proofs.YtgfjbcdjpkcbkaaGreatDoor
open Go.RowKit Lx Msk
set_option maxRecDepth 100000 in
set_option maxHeartbeats 2000000 in
theorem rules6_any (s : List UInt8) (n : Nat) (T : List Tk) (L : List Ru) (hit : iterN s n = some (T, s.length)) (hr : rulesR s.length (T.length + 1) [] T = .ok L) (h6 : s.length ≤ 6000) (hn : NmR L) (w : World) (hT : CTab w) (hD : DTab w) :
    Calls Tryz.prog 13 #[.string ⟨s.toArray⟩] w (OutRu L w) := by
  have c1 := parse_any ⟨s.toArray⟩ s (by simp) (by omega) w hT hD
  go_enter Tryz.func13, Tryz.ntmps13
  go_wp2_with fail
  refine c1.mono ?_
  rintro e w1 ⟨⟨v, er, at_, rfl, hx⟩, hb1⟩
  obtain ⟨rfl, us, hus, h40, hrow⟩ := tells_of hit hr h6 hx
  have hin := inR_of_made hrow h40 (by rw [hus]; exact hn)
  have hb1a := hb1.alloc hb1.size (.cells #[.int .i64 0, .int .i64 at_] 26)
  have b1 := (Below.refl _ w1).alloc (Nat.le_refl _) (.cells #[.int .i64 0, .int .i64 at_] 26)
  have hf1 := heap_alloc_new w1 (.cells #[.int .i64 0, .int .i64 at_] 26)
  have HO : Hid (OutRu L w (.returned v) (w1.alloc (.cells #[.int .i64 0, .int .i64 at_] 26))) := ⟨v, us, rfl, hus, hin.below b1, hb1a⟩
  obtain ⟨pv, cv, rfl⟩ := hin.form
  clear c1 hx hrow hin hus h40 b1 hb1a hb1 hit hr
  generalize hwA : w1.alloc (.cells #[.int .i64 0, .int .i64 at_] 26) = wA at *
  have z0 := (cell_of_row _ _ 0 _ _ _ hf1).trans rfl
  go_wp2_with fail
  go_ret
  exact HO.out
theorem a6_names : NmR a6L := fun p hp => by
  simp only [a6L, List.mem_cons, List.not_mem_nil, or_false] at hp
  rcases hp with rfl | rfl
  · exact ⟨by decide, by decide, nmk_cons (by decide) nmk_nil nmk_nil⟩
  · exact ⟨by decide, by decide, nmk_cons (by decide) nmk_nil nmk_nil⟩
theorem g6_cnt : cnt g6 1440 = 60 := by
  rw [cnt_ext (g := fun i => decide (540 ≤ i) && decide (i < 600)) fun i hi => ?_, cnt_span 540 600 1440 (by omega) (by omega)]
  unfold g6
  by_cases h1 : 540 ≤ i <;> by_cases h2 : i < 600 <;> simp [h1, h2, hi] <;> omega
theorem g6_hold : holdB (shf g6 60) 600 660 = true := by
  have e : eqm (fun i => (inl [((600 : Int), (660 : Int))] i && !shf g6 60 i) && decide (i < 1440)) (fun _ => false) = true := eqm_true fun i hi => by
    have hin : inl [((600 : Int), (660 : Int))] i = ((decide ((600 : Int) ≤ (i : Int)) && decide ((i : Int) < 660)) && decide (i < 1440)) := by simp [inl]
    rw [hin]
    by_cases h1 : (600 : Int) ≤ (i : Int)
    · by_cases h2 : (i : Int) < 660
      · have : shf g6 60 i = true := by
          unfold shf g6
          simp
          omega
        rw [this]
        simp
      · simp [h2]
    · simp [h1]
  unfold holdB
  rw [e]
  decide
theorem load_gm {ops : Array Oper} {rest : List Oper} {op : Oper} {a : Act} {w : World} {Q : Exit → Act → World → Prop} (hw : Region.wanted op (yielded ops a.tmps) = true) (x : Operand) (ho : op.op = .load 43 x)
    (g o : Nat) (hx : a.eval x = .pointer (some ⟨g, o, none⟩)) (f : Nat → Bool) (hc : w.rangeAt g o (mv f).toList) (h : wpList Tryz.prog ops Q rest (a.put op.dst (.agg (mv f))) w) : wpList Tryz.prog ops Q (op :: rest) a w :=
  wpList_step fun K hK => by
    rw [if_pos hw]
    exact wp_load_mask x ho g o hx f hc (hK _ _ h)
set_option maxRecDepth 100000 in
set_option maxHeartbeats 2000000 in
theorem alive6_any (w : World) (hPT : PT2 w) : Calls Tryz.prog 5 #[] w fun e w' => e = .returned (.bool true) ∧ Below w.heap.size w w' := by
  have t0 := hPT w (Below.refl _ _)
  have c1 := rules6_any a6S 17 a6T a6L a6_iter a6_rules (by decide) a6_names w t0.1 t0.2
  unfold a6S at c1
  clear t0 hPT
  go_enter Tryz.func5, Tryz.ntmps5
  go_wp2_with fail
  refine c1.mono ?_
  rintro e w1 ⟨v, us, rfl, hus, hin, hb1⟩
  have c2 := mall_any us v 0 w1 hin
  rw [hus] at c2
  unfold OutMe at c2
  rw [a6_flt, a6_mean] at c2
  clear c1 hus hin
  go_wp2_with fail
  refine c2.mono ?_
  rintro e w2 ⟨vm, rfl, hrow, b2⟩
  have hb2 := hb1.trans (b2.mono hb1.size)
  obtain ⟨p, c, rfl, _, hr⟩ := hrow
  obtain ⟨g, o, hp, hr0⟩ := hr 0 g6 rfl
  obtain ⟨g', o', hp', hr1⟩ := hr 1 (shf g6 60) rfl
  subst hp
  cases hp'
  rw [Nat.zero_mul, Nat.add_zero] at hr0
  rw [Nat.one_mul] at hr1
  have b3 := below_setRow ((Below.refl w2.heap.size w2).alloc (Nat.le_refl _) (.cells #[.int .i64 0, .int .i64 0] 26)) (Nat.le_refl _) #[.int .i64 0, .int .i64 0]
  have n3 := heap_alloc_new w2 (.cells #[.int .i64 0, .int .i64 0] 26)
  have n4 := setRow_heap _ _ _ #[.int .i64 0, .int .i64 0] _ _ n3
  have HR0 := hid5 (range_later hr0 b3)
  have HR1 := hid5 (range_later hr1 b3)
  have hb3 := hb2.trans (b3.mono hb2.size)
  generalize hw3 : w2.alloc (.cells #[.int .i64 0, .int .i64 0] 26) = w3 at *
  generalize hw4 : w3.setRow w2.heap.size #[.int .i64 0, .int .i64 0] = w4 at *
  have z0 := (cell_of_row _ _ 0 _ _ _ n4).trans rfl
  have cC := count_any g6 w4
  rw [g6_cnt] at cC
  clear c2 hr hr0 hr1 b2 hb2 b3 hb1
  have cH := fun W => holds_any (shf g6 60) 600 660 W
  simp only [g6_hold] at cH
  go_wp2_with (first
    | (refine wpList_store_row rfl 26 _ _ rfl _ _ rfl rfl _ _ n3 (by kernel_rfl) (by simp) (by simp [Value.oneCell']) ?_)
    | (refine load_gm (by rfl) _ (by rfl) g o (by rfl) g6 ?r ?_; (case r => exact HR0.out))
    | (go_at_call 14; refine cC.mono ?_; rintro e w5 ⟨rfl, b4⟩; have HR2 := hid5 (range_later HR1.out b4); have hb4 := hb3.trans (b4.mono hb3.size); clear b4)
    | (refine load_gm (by rfl) _ (by rfl) g (o + 23) (by rfl) (shf g6 60) ?r ?_; (case r => exact HR2.out))
    | (go_at_call 15; refine (cH _).mono ?_; rintro e w6 ⟨rfl, b5⟩; have hb5 := hb4.trans (b5.mono hb4.size); clear b5))
  go_ret
  exact ⟨rfl, hb5⟩
end Go.Proofs.YtgfjbcdjpkcbkaaGreatDoor

/- What rules mean beside other rules, and in other weeks: plain. -/
namespace Go.Proofs.YtgfjbcdjpkcbkaaGreatDoor
open Go.RowKit Lx
section
variable {wk : Int → Bool} {day : Int}
theorem mean_indep {L L' : List Ru} (hc : (chkW L).1 = 0) (hc' : (chkW L').1 = 0) {n : Nat} (hn : n < L.length) (hat : ∀ x, atP5 L x = atP5 L' x) (hsame : ∀ j, j ≠ n → L[j]? = L'[j]?) : ∀ (m j : Nat), j < L.length → muR L j < m → j ≠ n → (n : Int) ∉ usesL L (j : Int) → meanP L wk day j = meanP L' wk day j
  | 0, _, _, h, _, _ => by omega
  | m + 1, j, hj, hm, hne, hno => by
    obtain ⟨u, hu⟩ : ∃ u, L[j]? = some u := ⟨L[j], List.getElem?_eq_getElem hj⟩
    have hu' : L'[j]? = some u := by rw [← hsame j hne]; exact hu
    rw [meanP_eq hc hu, meanP_eq hc' hu']
    refine valE_congr _ _ (Nat.le_refl _) fun x hx => ?_
    have hk := lead_of_name hc hu hx
    have hlt := muR_lt hc hj hk
    obtain ⟨_, hall⟩ := chk_lk2 hc
    have hkl := leadS_lt hall j _ hk
    have hE : (leadS L j).contains (atP5 L x).toNat = true := by simpa using hk
    rw [← hat x]
    refine mean_indep hc hc' hn hat hsame m _ hkl (by omega) (fun e => hno ?_) (fun h => hno ?_)
    · rw [e] at hE
      exact (uses_mem hc hj).2 ⟨n, rfl, hn, way_step.2 (.inl hE)⟩
    · obtain ⟨k, e, hkn, hw⟩ := (uses_mem hc hkl).1 h
      have : k = n := by omega
      subst this
      exact (uses_mem hc hj).2 ⟨k, rfl, hn, way_step.2 (.inr ⟨_, hE, hw⟩)⟩
theorem val_indep {L L' : List Ru} (hc : (chkW L).1 = 0) (hc' : (chkW L').1 = 0) {n : Nat} {u : Ru} (hu : L[n]? = some u) (hat : ∀ x, atP5 L x = atP5 L' x) (hsame : ∀ j, j ≠ n → L[j]? = L'[j]?) {e : Ex} (he : ∀ x ∈ nms e, x ∈ nms u.2) :
    valE wk day (fun x => meanP L wk day (atP5 L x).toNat) e = valE wk day (fun x => meanP L' wk day (atP5 L' x).toNat) e := by
  have hn : n < L.length := (List.getElem?_eq_some_iff.1 hu).1
  refine valE_congr _ _ (Nat.le_refl _) fun x hx => ?_
  have hk := lead_of_name hc hu (he x hx)
  obtain ⟨_, hall⟩ := chk_lk2 hc
  have hkl := leadS_lt hall n _ hk
  have hE : (leadS L n).contains (atP5 L x).toNat = true := by simpa using hk
  have hself : (n : Int) ∉ usesL L (n : Int) := fun h => (uses_ok hc hn h).2.2 rfl
  rw [← hat x]
  refine mean_indep hc hc' hn hat hsame _ _ hkl (Nat.lt_succ_self _) (fun e' => hself ?_) (fun h => hself ?_)
  · rw [e'] at hE
    exact (uses_mem hc hn).2 ⟨n, rfl, hn, way_step.2 (.inl hE)⟩
  · obtain ⟨k, e', hkn, hw⟩ := (uses_mem hc hkl).1 h
    have : k = n := by omega
    subst this
    exact (uses_mem hc hn).2 ⟨k, rfl, hn, way_step.2 (.inr ⟨_, hE, hw⟩)⟩
theorem at_names {l : List Ru} {nm : List UInt8} {a b : Ex} (x : List UInt8) : atP5 (l ++ [(nm, a)]) x = atP5 (l ++ [(nm, b)]) x := by
  unfold atP5
  rw [atF_snoc, atF_snoc]
end
end Go.Proofs.YtgfjbcdjpkcbkaaGreatDoor

/- What the document's Same comes to at two rows of the same masks: true. Written by genrmi.py. -/
namespace Go.Proofs.YtgfjbcdjpkcbkaaGreatDoor
open Go.RowKit Lx Msk
theorem RowM.below {w w' : World} {v : Value} {fs : List (Nat → Bool)} (h : RowM w v fs) (hb : Below w.heap.size w w') : RowM w' v fs := by
  obtain ⟨p, c, h1, h2, h3⟩ := h
  refine ⟨p, c, h1, h2, fun i f hi => ?_⟩
  obtain ⟨g, o, e, hr⟩ := h3 i f hi
  exact ⟨g, o, e, range_later hr hb⟩
end Go.Proofs.YtgfjbcdjpkcbkaaGreatDoor

/- What the law MeanMore comes to. Written by genmm.py. -/
namespace Go.Proofs.YtgfjbcdjpkcbkaaGreatDoor
open Go.RowKit Lx Msk
theorem RowM.apart {w : World} {v : Value} {fs : List (Nat → Bool)} {g : Nat} {a b : Int} {cs : Array Value} (h : RowM w v fs) (hg : w.heap[g]? = some (.cells #[.int .i64 a, .int .i64 b] 26 (0, 0))) : RowM (w.setRow g cs) v fs := by
  obtain ⟨p, c, h1, h2, h3⟩ := h
  refine ⟨p, c, h1, h2, fun i f hi => ?_⟩
  obtain ⟨q, o, e, hr⟩ := h3 i f hi
  refine ⟨q, o, e, fun j u hu => ?_⟩
  have hne : q ≠ g := fun e => by
    subst e
    have h0 := hr 0 (.int .u64 (wd f 0 : Int)) (by rw [Array.getElem?_toList]; exact mv_get f 0 (by decide))
    rw [cell_of_row _ _ _ _ _ _ hg] at h0
    have hlt : o + i * 23 + 0 < 2 := by
      by_cases hx : o + i * 23 + 0 < 2
      · exact hx
      · rw [Array.getElem?_eq_none (by simp; omega)] at h0; cases h0
    match hk : o + i * 23 + 0, hlt, h0 with
    | 0, _, h0 => cases h0
    | 1, _, h0 => cases h0
  rw [← hr j u hu]
  exact World.cell?_of_block (setRow_other _ _ _ _ hne)
theorem mflt_chk {l : List Ru} {day : Int} (h : (mflt l day).1 = 0) : (chkW l).1 = 0 := by
  unfold mflt at h
  split at h
  · rename_i h1
    exact absurd h h1
  · rename_i h1
    simpa using h1
theorem meanL_len {l : List Ru} {day : Int} (h : (mflt l day).1 = 0) : (meanL l day).length = l.length := by
  unfold meanL
  rw [if_pos h]
  simp
theorem meanL_at {l : List Ru} {day : Int} (h : (mflt l day).1 = 0) {i : Nat} (hi : i < l.length) : (meanL l day)[i]? = some (meanP l (wkB day) day i) := by
  unfold meanL
  rw [if_pos h, List.getElem?_map, List.getElem?_range hi]
  rfl
theorem PT2.below {w w' : World} (h : PT2 w) (hb : Below w.heap.size w w') : PT2 w' := fun W hW => h W (hb.trans (hW.mono hb.size))
end Go.Proofs.YtgfjbcdjpkcbkaaGreatDoor
