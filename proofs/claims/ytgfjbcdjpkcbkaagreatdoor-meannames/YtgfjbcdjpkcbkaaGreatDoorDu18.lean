/- What mean.All comes to. Written by genmnk.py. -/
import Derived.Test.YtgfjbcdjpkcbkaaGreatDoorDu17
import Derived.Test.YtgfjbcdjpkcbkaaGreatDoorDu05
import Derived.Test.YtgfjbcdjpkcbkaaGreatDoorDu15
import Derived.Laws.AppendOwn
import Derived.Test.YtgfjbcdjpkcbkaaGreatDoorDu12
import Derived.Defers
import Derived.Recover
namespace Go.Proofs.YtgfjbcdjpkcbkaaGreatDoor
open Go.RowKit Lx Msk
def mflt (l : List Ru) (day : Int) : Int × Nat := if (chkW l).1 ≠ 0 then chkW l else if day < 0 ∨ 146097 ≤ day then (3, 0) else (0, 0)
def meanL (l : List Ru) (day : Int) : List (Nat → Bool) := if (mflt l day).1 = 0 then (List.range l.length).map (meanP l (wkB day) day) else []
def RowM (w : World) (v : Value) (fs : List (Nat → Bool)) : Prop := ∃ p c, v = .slice p fs.length c ∧ (fs.length ≤ 40 ∧ fs.length ≤ c) ∧ ∀ (i : Nat) (f : Nat → Bool), fs[i]? = some f → ∃ g o : Nat, p = some ⟨g, o, none⟩ ∧ w.rangeAt g (o + i * 23) (mv f).toList
def OutMe (l : List Ru) (day : Int) (w : World) (e : Ending) (w' : World) : Prop := ∃ v, e = .returned (.tuple #[v, .agg #[.int .i64 (mflt l day).1, .int .i64 ((mflt l day).2 : Int)]]) ∧ RowM w' v (meanL l day) ∧ Below w.heap.size w w'
theorem rowM_nil (w : World) (p : Option Addr) (c : Nat) : RowM w (.slice p 0 c) [] := ⟨p, c, rfl, ⟨by simp, by simp⟩, fun i f hi => by simp at hi⟩
theorem rowM_of {w : World} {gm n : Nat} {F : Nat → Nat → Bool} (hn : n ≤ 40) (h : ∀ i, i < n → w.rangeAt gm (i * 23) (mv (F i)).toList) : RowM w (.slice (some ⟨gm, 0, none⟩) n n) ((List.range n).map F) := by
  refine ⟨some ⟨gm, 0, none⟩, n, by simp, ⟨by simpa using hn, by simp⟩, fun i f hi => ⟨gm, 0, rfl, ?_⟩⟩
  rw [List.getElem?_map] at hi
  cases hr : (List.range n)[i]? with
  | none => rw [hr] at hi; cases hi
  | some k =>
    rw [hr] at hi
    have hf : F k = f := Option.some.inj hi
    obtain ⟨h1, h2⟩ := List.getElem?_eq_some_iff.1 hr
    have hk : k = i := by rw [← h2]; simp
    have hin : i < n := by simpa using h1
    rw [← hf, hk, Nat.zero_add]
    exact h i hin
def zcells (n : Nat) : Array Value := madeCells (mv fun _ => false) (n * 23)
theorem zcells_at {n i j : Nat} (hi : i < n) (hj : j < 23) : (zcells n)[i * 23 + j]? = (mv fun _ => false)[j]? := by
  have h1 : i * 23 + j < n * 23 := by
    have : (i + 1) * 23 ≤ n * 23 := Nat.mul_le_mul_right 23 hi
    omega
  have h2 : (i * 23 + j) % 23 = j := by omega
  have h3 : j < (mv fun _ => false).size := by rw [mv_size]; exact hj
  simp [zcells, madeCells, h1, mv_size, h2]
  rw [Array.getElem!_eq_getD, Array.getD_eq_getD_getElem?, Array.getElem?_eq_getElem h3]
  rfl
theorem zcells_range {w : World} {g n : Nat} {t : TypeId} (h : w.heap[g]? = some (.cells (zcells n) t (0, 0))) {i : Nat} (hi : i < n) : w.rangeAt g (i * 23) (mv fun _ => false).toList := fun j v hv => by
  have hj : j < 23 := by
    have := (List.getElem?_eq_some_iff.1 hv).1
    rw [Array.length_toList, mv_size] at this
    exact this
  rw [cell_of_row _ _ _ _ _ _ h, zcells_at hi hj, ← Array.getElem?_toList]
  exact hv
theorem maskInfo6 : (Tryz.prog.info? 43).map (fun i => (i.zero, i.size, i.bytes)) = some (some (.agg #[.int .u64 0, .int .u64 0, .int .u64 0, .int .u64 0, .int .u64 0, .int .u64 0, .int .u64 0, .int .u64 0, .int .u64 0, .int .u64 0, .int .u64 0, .int .u64 0, .int .u64 0, .int .u64 0, .int .u64 0, .int .u64 0, .int .u64 0, .int .u64 0, .int .u64 0, .int .u64 0, .int .u64 0, .int .u64 0, .int .u64 0]), 23, 184) := by kernel_rfl
theorem masksType6 : Tryz.prog.underlying 34 = some (.slice 43) := by kernel_rfl
theorem make_masks (n : Nat) (hn : n ≤ 1000) (w : World) : (Instr.makeSlice 34 (.int .i64 (n : Int)) (.int .i64 (n : Int))).run Tryz.prog w = .ok (.slice (some ⟨w.heap.size, 0, none⟩) n n) (w.alloc (.cells (zcells n) 43)) := by
  obtain ⟨i, hi, hzz⟩ := Option.map_eq_some_iff.1 maskInfo6
  simp only [Prod.mk.injEq] at hzz
  obtain ⟨hz, hs, hb⟩ := hzz
  have hr := run_make (P := Tryz.prog) w 34 43 i _ masksType6 hi hz .i64 .i64 n n (by omega) (Int.le_refl _) (by rw [hb]; omega) (by omega)
  rw [hs] at hr
  have e : (Value.agg #[.int .u64 0, .int .u64 0, .int .u64 0, .int .u64 0, .int .u64 0, .int .u64 0, .int .u64 0, .int .u64 0, .int .u64 0, .int .u64 0, .int .u64 0, .int .u64 0, .int .u64 0, .int .u64 0, .int .u64 0, .int .u64 0, .int .u64 0, .int .u64 0, .int .u64 0, .int .u64 0, .int .u64 0, .int .u64 0, .int .u64 0]).cells = mv fun _ => false := mv_lit
  rw [e] at hr
  simpa [zcells] using hr
def asp (B n : Nat) (day : Int) (sl : Value) (l : List Ru) (i : Nat) (v : Value) (W : World) : Prop := match i with
  | 0 => v = .int .i64 day
  | 3 => ∃ mb, v = .map (some mb) ∧ MapN W mb l
  | 5 => v = .int .i64 (n : Int)
  | 6 => ∃ gk : Nat, v = .slice (some ⟨gk, 0, none⟩) n n ∧ B ≤ gk ∧ W.heap[gk]? = some (.cells (bcells n fun _ => false) 4 (0, 0))
  | 8 => v = .int .i64 (n : Int)
  | 9 => ∃ gm : Nat, v = .slice (some ⟨gm, 0, none⟩) n n ∧ B ≤ gm ∧ W.heap[gm]? = some (.cells (zcells n) 43 (0, 0))
  | 10 => ∃ mb gk gm : Nat, v = .agg #[.int .i64 day, sl, .map (some mb), .slice (some ⟨gk, 0, none⟩) n n, .slice (some ⟨gm, 0, none⟩) n n] ∧ MapN W mb l ∧ B ≤ gk ∧ W.heap[gk]? = some (.cells (bcells n fun _ => false) 4 (0, 0)) ∧ B ≤ gm ∧ W.heap[gm]? = some (.cells (zcells n) 43 (0, 0))
  | 11 => ∃ g : Nat, v = .pointer (some ⟨g, 0, none⟩) ∧ B ≤ g ∧ W.heap[g]? = some (.cells #[.int .i64 0, .slice none 0 0, .map none, .slice none 0 0, .slice none 0 0] 64 (0, 0))
  | _ => v = sl
theorem asp_mono {B n : Nat} {day : Int} {sl : Value} {l : List Ru} {W W' : World} (hb : Below W.heap.size W W') (i : Nat) (v : Value) (h : asp B n day sl l i v W) : asp B n day sl l i v W' := by
  unfold asp at *
  split at h
  · exact h
  · obtain ⟨mb, h1, h2⟩ := h
    exact ⟨mb, h1, h2.later (hb.block _ (lt_of_map h2))⟩
  · exact h
  · obtain ⟨gk, h1, h2, h3⟩ := h
    exact ⟨gk, h1, h2, (hb.block _ (lt_of_block h3)).trans h3⟩
  · exact h
  · obtain ⟨gk, h1, h2, h3⟩ := h
    exact ⟨gk, h1, h2, (hb.block _ (lt_of_block h3)).trans h3⟩
  · obtain ⟨mb, gk, gm, h1, h2, h3, h4, h5, h6⟩ := h
    exact ⟨mb, gk, gm, h1, h2.later (hb.block _ (lt_of_map h2)), h3, (hb.block _ (lt_of_block h4)).trans h4, h5, (hb.block _ (lt_of_block h6)).trans h6⟩
  · obtain ⟨gk, h1, h2, h3⟩ := h
    exact ⟨gk, h1, h2, (hb.block _ (lt_of_block h3)).trans h3⟩
  · exact h
theorem MD.begin {w W : World} {n g gk gm mb : Nat} {day : Int} {sl : Value} {l : List Ru} {V : Nat → Nat → Bool} {old : Array Value} (hJ : Below w.heap.size w W) (hM : MapN W mb l) (b7 : w.heap.size ≤ g) (k7 : W.heap[g]? = some (.cells old 64 (0, 0)))
    (b28 : w.heap.size ≤ gk) (k28 : W.heap[gk]? = some (.cells (bcells n fun _ => false) 4 (0, 0))) (b31 : w.heap.size ≤ gm) (k31 : W.heap[gm]? = some (.cells (zcells n) 43 (0, 0))) :
    MI ⟨w, n, g, gk, gm, mb, day, sl, l, V⟩ (fun _ => false) (W.setRow g #[.int .i64 day, sl, .map (some mb), .slice (some ⟨gk, 0, none⟩) n n, .slice (some ⟨gm, 0, none⟩) n n]) := by
  have n1 : g ≠ gk := fun e => by subst e; rw [k7] at k28; cases k28
  have n2 : g ≠ gm := fun e => by subst e; rw [k7] at k31; cases k31
  have n3 : gk ≠ gm := fun e => by
    subst e
    rw [k28] at k31
    injection k31 with e1
    injection e1 with _ e2
    exact absurd e2 (by decide)
  obtain ⟨es, c, hm, _⟩ := id hM
  have n4 : mb ≠ gk := fun e => by subst e; rw [hm] at k28; cases k28
  have n5 : mb ≠ gm := fun e => by subst e; rw [hm] at k31; cases k31
  have n6 : mb ≠ g := fun e => by subst e; rw [hm] at k7; cases k7
  have ho : ∀ q, q ≠ g → (W.setRow g #[.int .i64 day, sl, .map (some mb), .slice (some ⟨gk, 0, none⟩) n n, .slice (some ⟨gm, 0, none⟩) n n]).heap[q]? = W.heap[q]? := fun q hq => setRow_other _ _ _ _ hq
  refine ⟨fun _ _ => false, ⟨below_setRow hJ b7 _, setRow_heap _ _ _ _ _ _ k7, (ho _ (fun e => n1 e.symm)).trans k28, fun i hi => ?_, ⟨_, (ho _ (fun e => n2 e.symm)).trans k31⟩, hM.later (ho _ n6), ⟨b7, b28, b31⟩, n1, n2, n3, n4, n5⟩, fun _ _ h => by cases h⟩
  exact zcells_range ((ho _ (fun e => n2 e.symm)).trans k31) hi
theorem mall_post {R : Ending → World → Prop} {a : Act} {w : World} (g : Nat) (v : Value) (er at_ : Int) (hd : a.defers = []) (h2 : a.tmps.getD 4 undef = v) (h3 : a.tmps.getD 5 undef = .pointer (some ⟨g, 0, none⟩))
    (hg : w.heap[g]? = some (.cells #[.int .i64 er, .int .i64 at_] 26 (0, 0))) (hR : R (.returned (.tuple #[v, .agg #[.int .i64 er, .int .i64 at_]])) w) : bodyPost Tryz.prog Tryz.f8 R .ret a w := by
  refine bodyPost_ret (v := .tuple #[v, .agg #[.int .i64 er, .int .i64 at_]]) ?_ hd hR
  have h2' : a.tmps[4]?.getD undef = v := by simpa using h2
  have h3' : a.tmps[5]?.getD undef = .pointer (some ⟨g, 0, none⟩) := by simpa using h3
  have hv := run_loadVar_row (P := Tryz.prog) w g 26 26 _ _ _ hg faultType rfl (by kernel_rfl)
  simp [results, Tryz.results8, h2', h3', asAddr, hv]
set_option maxRecDepth 100000 in
set_option maxHeartbeats 4000000 in
theorem mall_any (us : List (Ru × Value)) (v : Value) (day : Int) (w : World) (h : InR w v us) : Calls Tryz.prog 8 #[v, .int .i64 day] w (OutMe (us.map (fun p => p.1)) day w) := by
  obtain ⟨l, hl⟩ : ∃ l, us.map (fun p => p.1) = l := ⟨_, rfl⟩
  obtain ⟨n, hn⟩ : ∃ n, us.length = n := ⟨_, rfl⟩
  have hll : l.length = n := by rw [← hl, List.length_map, hn]
  obtain ⟨pv, cv, rfl⟩ := h.form
  have bA := (Below.refl w.heap.size w).alloc (Nat.le_refl _) (.cells #[.int .i64 0, .int .i64 0] 26)
  have n1 := heap_alloc_new w (.cells #[.int .i64 0, .int .i64 0] 26)
  generalize hwA : w.alloc (.cells #[.int .i64 0, .int .i64 0] 26) = wA at *
  have cW := chk_any us _ wA (h.below bA)
  rw [hl] at cW
  rw [hl, hn]
  have HL := hid5 hl
  have HLN := hid5 hn
  have HLL := hid5 hll
  have HI0 := hid5 h
  rw [hn] at cW
  clear hl hll h hn
  go_enter Tryz.func8, Tryz.ntmps8
  go_wp2_with fail
  refine cW.mono ?_
  rintro r w1 ⟨rfl, hb1⟩
  have m2 := (hb1.block _ (lt_of_block n1)).trans n1
  have hb1w := bA.trans (hb1.mono bA.size)
  clear cW n1 hb1 bA hwA
  by_cases h0 : (chkW l).1 = 0
  · obtain ⟨hw0, _⟩ := chk_lk2 h0
    have h40 := (wrongR_oke hw0).1
    rw [HLL.out] at h40
    have H0 := hid5 h0
    rw [h0]
    generalize (((chkW l).2 : Nat) : Int) = at0 at *
    have bC := (Below.refl w1.heap.size w1).alloc (Nat.le_refl _) (.cells #[.int .i64 0, .int .i64 at0] 26)
    have HBw := hid5 (hb1w.trans (bC.mono hb1w.size))
    have HR := hid5 ((bC.block _ (lt_of_block m2)).trans m2)
    have m3 := heap_alloc_new w1 (.cells #[.int .i64 0, .int .i64 at0] 26)
    have Hn40 := hid5 h40
    have hI40 : (n : Int) ≤ 40 := by omega
    clear bC hb1w m2 h0 h40 hw0
    generalize hw2 : w1.alloc (.cells #[.int .i64 0, .int .i64 at0] 26) = wB at *
    have HI := hid5 (HI0.out.below HBw.out)
    have z0 := (cell_of_row _ _ 0 _ _ _ m3).trans rfl
    by_cases hd : day < 0 ∨ 146097 ≤ day
    · have HF : Hid (mflt l day = (3, 0)) := by
        show _ = _
        unfold mflt
        rw [if_neg (by simpa using H0.out), if_pos hd]
      have HO : Hid (∀ cs, OutMe l day w (.returned (.tuple #[.slice none 0 0, .agg #[.int .i64 3, .int .i64 0]])) (wB.setRow w.heap.size cs)) := fun cs => by
        have hML : meanL l day = [] := by
          unfold meanL
          rw [HF.out]
          rfl
        refine ⟨_, by rw [HF.out]; rfl, ?_, below_setRow HBw.out (Nat.le_refl _) _⟩
        rw [hML]
        exact rowM_nil _ _ _
      have n9 := HR.out
      by_cases hd0 : day < 0
      · clear hd
        go_wp2_with (refine wpList_store_row rfl 26 _ _ rfl _ _ rfl rfl _ _ n9 (by kernel_rfl) (by simp) (by simp [Value.oneCell']) ?_)
        exact mall_post w.heap.size _ 3 0 rfl rfl rfl (setRow_heap _ _ _ _ _ _ n9) (HO.out _)
      · have hd1 : 146097 ≤ day := by omega
        clear hd
        go_wp2_with (refine wpList_store_row rfl 26 _ _ rfl _ _ rfl rfl _ _ n9 (by kernel_rfl) (by simp) (by simp [Value.oneCell']) ?_)
        exact mall_post w.heap.size _ 3 0 rfl rfl rfl (setRow_heap _ _ _ _ _ _ n9) (HO.out _)
    · have HF : Hid (mflt l day = (0, 0)) := by
        show _ = _
        unfold mflt
        rw [if_neg (by simpa using H0.out), if_neg hd]
      have HML : Hid (meanL l day = (List.range n).map (meanP l (wkB day) day)) := by
        show _ = _
        unfold meanL
        rw [HF.out, HLL.out]
        rfl
      have hd0 : ¬ day < 0 := fun e => hd (.inl e)
      have hd1 : ¬ 146097 ≤ day := fun e => hd (.inr e)
      have Hall : Hid (∀ (g gk gm mb i : Nat), i < n → RuleC ⟨wB, n, g, gk, gm, mb, day, .slice pv n cv, l, meanP l (wkB day) day⟩ (i : Int) (meanP l (wkB day) day i)) := fun g gk gm mb i hi => by
        have hin := HI.out
        rw [HLN.out] at hin
        exact mrule_all (D := ⟨wB, n, g, gk, gm, mb, day, .slice pv n cv, l, meanP l (wkB day) day⟩) hin HL.out HLN.out H0.out (by show 0 ≤ day; omega) (by show day < 146097; omega) (fun _ => rfl) (muR l i + 1) i hi (by show muR l i < muR l i + 1; omega)
      have Hmb := hid5 (run_make_row' (P := Tryz.prog) 60 4 (.bool false) 1 boolsType boolInfo rfl .i64 .i64 n (by omega) (by omega))
      rw [bcells_none] at Hmb
      have Hmm := hid5 (make_masks n (by omega))
      clear hd
      go_wp2_with fail
      clear z0 m3 hw2
      refine wp_region_lastP (Below wB.heap.size wB) (asp wB.heap.size n day (.slice pv n cv) l) ((Below.refl _ _).drew) (fun W W' hb j u h => asp_mono hb j u h) (by kernel_rfl) (by kernel_rfl) (by kernel_rfl) (by kernel_rfl) 12 (by kernel_rfl) (by kernel_rfl) [22, 23, 24, 25, 26, 27, 28, 29, 30, 31, 32, 7] (by kernel_rfl) (by kernel_rfl) ?_ ?_
      · intro i' s o' L A W2 ho hs hdep hJ hkept hhas
        match i', ho, hs with
        | 0, ho, hs =>
          cases Option.some.inj ho
          cases Option.some.inj hs
          have h1 : A.tmps[1]?.getD undef = .int .i64 day := (gd A 1).trans (hkept 1 (by kernel_rfl))
          refine wpOp_step rfl (fun K hK => ?_)
          go_simp
          exact hK _ _ ⟨_, rfl, rfl, hJ, Below.refl _ _⟩
        | 1, ho, hs =>
          cases Option.some.inj ho
          cases Option.some.inj hs
          have h0 : A.tmps[0]?.getD undef = .slice pv n cv := (gd A 0).trans (hkept 0 (by kernel_rfl))
          refine wpOp_step rfl (fun K hK => ?_)
          go_simp
          exact hK _ _ ⟨_, rfl, rfl, hJ, Below.refl _ _⟩
        | 2, ho, hs =>
          cases Option.some.inj ho
          cases Option.some.inj hs
          have h0 : A.tmps[0]?.getD undef = .slice pv n cv := (gd A 0).trans (hkept 0 (by kernel_rfl))
          refine wpOp_step rfl (fun K hK => ?_)
          go_simp
          exact hK _ _ ⟨_, rfl, rfl, hJ, Below.refl _ _⟩
        | 3, ho, hs =>
          cases Option.some.inj ho
          cases Option.some.inj hs
          have h24 : A.tmps[24]?.getD undef = .slice pv n cv := (gd A 24).trans (hhas 2 24 rfl (hdep ⟨2, .data⟩ (by simp) rfl))
          have cN := numbers_any us _ W2 (HI.out.below hJ)
          rw [HLN.out] at cN
          refine wpOp_step rfl (fun K hK => ?_)
          go_simp
          refine cN.mono ?_
          rintro e' W' ⟨mb, rfl, _, hM, hb'⟩
          rw [HL.out] at hM
          exact hK _ _ ⟨_, rfl, ⟨mb, rfl, hM⟩, hJ.trans (hb'.mono hJ.size), hb'⟩
        | 4, ho, hs =>
          cases Option.some.inj ho
          cases Option.some.inj hs
          have h0 : A.tmps[0]?.getD undef = .slice pv n cv := (gd A 0).trans (hkept 0 (by kernel_rfl))
          refine wpOp_step rfl (fun K hK => ?_)
          go_simp
          exact hK _ _ ⟨_, rfl, rfl, hJ, Below.refl _ _⟩
        | 5, ho, hs =>
          cases Option.some.inj ho
          cases Option.some.inj hs
          have h26 : A.tmps[26]?.getD undef = .slice pv n cv := (gd A 26).trans (hhas 4 26 rfl (hdep ⟨4, .data⟩ (by simp) rfl))
          refine wpOp_step rfl (fun K hK => ?_)
          go_simp
          exact hK _ _ ⟨_, rfl, rfl, hJ, Below.refl _ _⟩
        | 6, ho, hs =>
          cases Option.some.inj ho
          cases Option.some.inj hs
          have h27 : A.tmps[27]?.getD undef = .int .i64 (n : Int) := (gd A 27).trans (hhas 5 27 rfl (hdep ⟨5, .data⟩ (by simp) rfl))
          have hsz := hJ.size
          have hmk := Hmb.out W2
          have hb := (Below.refl W2.heap.size W2).alloc (Nat.le_refl _) (.cells (bcells n fun _ => false) 4)
          have hnew := heap_alloc_new W2 (.cells (bcells n fun _ => false) 4)
          refine wpOp_step rfl (fun K hK => ?_)
          go_simp
          exact hK _ _ ⟨_, rfl, ⟨_, rfl, hsz, hnew⟩, hJ.trans (hb.mono hJ.size), hb⟩
        | 7, ho, hs =>
          cases Option.some.inj ho
          cases Option.some.inj hs
          have h0 : A.tmps[0]?.getD undef = .slice pv n cv := (gd A 0).trans (hkept 0 (by kernel_rfl))
          refine wpOp_step rfl (fun K hK => ?_)
          go_simp
          exact hK _ _ ⟨_, rfl, rfl, hJ, Below.refl _ _⟩
        | 8, ho, hs =>
          cases Option.some.inj ho
          cases Option.some.inj hs
          have h29 : A.tmps[29]?.getD undef = .slice pv n cv := (gd A 29).trans (hhas 7 29 rfl (hdep ⟨7, .data⟩ (by simp) rfl))
          refine wpOp_step rfl (fun K hK => ?_)
          go_simp
          exact hK _ _ ⟨_, rfl, rfl, hJ, Below.refl _ _⟩
        | 9, ho, hs =>
          cases Option.some.inj ho
          cases Option.some.inj hs
          have h30 : A.tmps[30]?.getD undef = .int .i64 (n : Int) := (gd A 30).trans (hhas 8 30 rfl (hdep ⟨8, .data⟩ (by simp) rfl))
          have hsz := hJ.size
          have hmk := Hmm.out W2
          have hb := (Below.refl W2.heap.size W2).alloc (Nat.le_refl _) (.cells (zcells n) 43)
          have hnew := heap_alloc_new W2 (.cells (zcells n) 43)
          refine wpOp_step rfl (fun K hK => ?_)
          go_simp
          exact hK _ _ ⟨_, rfl, ⟨_, rfl, hsz, hnew⟩, hJ.trans (hb.mono hJ.size), hb⟩
        | 10, ho, hs =>
          cases Option.some.inj ho
          cases Option.some.inj hs
          have h22 : A.tmps[22]?.getD undef = .int .i64 day := (gd A 22).trans (hhas 0 22 rfl (hdep ⟨0, .data⟩ (by simp) rfl))
          have h23 : A.tmps[23]?.getD undef = .slice pv n cv := (gd A 23).trans (hhas 1 23 rfl (hdep ⟨1, .data⟩ (by simp) rfl))
          obtain ⟨mb, e25, hM⟩ := hhas 3 25 rfl (hdep ⟨3, .data⟩ (by simp) rfl)
          obtain ⟨gk, e28, b28, k28⟩ := hhas 6 28 rfl (hdep ⟨6, .data⟩ (by simp) rfl)
          obtain ⟨gm, e31, b31, k31⟩ := hhas 9 31 rfl (hdep ⟨9, .data⟩ (by simp) rfl)
          have h25 : A.tmps[25]?.getD undef = .map (some mb) := (gd A 25).trans e25
          have h28 : A.tmps[28]?.getD undef = .slice (some ⟨gk, 0, none⟩) n n := (gd A 28).trans e28
          have h31 : A.tmps[31]?.getD undef = .slice (some ⟨gm, 0, none⟩) n n := (gd A 31).trans e31
          refine wpOp_step rfl (fun K hK => ?_)
          go_simp
          exact hK _ _ ⟨_, rfl, ⟨mb, gk, gm, rfl, hM, b28, k28, b31, k31⟩, hJ, Below.refl _ _⟩
        | 11, ho, hs =>
          cases Option.some.inj ho
          cases Option.some.inj hs
          have hsz := hJ.size
          have hb := (Below.refl W2.heap.size W2).alloc (Nat.le_refl _) (.cells #[.int .i64 0, .slice none 0 0, .map none, .slice none 0 0, .slice none 0 0] 64)
          have hnew := heap_alloc_new W2 (.cells #[.int .i64 0, .slice none 0 0, .map none, .slice none 0 0, .slice none 0 0] 64)
          refine wpOp_step rfl (fun K hK => ?_)
          go_simp
          exact hK _ _ ⟨_, rfl, ⟨_, rfl, hsz, hnew⟩, hJ.trans (hb.mono hJ.size), hb⟩
        | kk + 12, ho, hs => simp at hs
      · intro o' W2 A ho hJ hhas hkept hput
        obtain ⟨mb, e25, _⟩ := hhas 3 25 rfl
        obtain ⟨gk, e28, _, _⟩ := hhas 6 28 rfl
        obtain ⟨gm, e31, _, _⟩ := hhas 9 31 rfl
        obtain ⟨mb1, gk1, gm1, e32, hM, b28, k28, b31, k31⟩ := hhas 10 32 rfl
        obtain ⟨g, e7, b7, k7⟩ := hhas 11 7 rfl
        have hA : A = putAll [(22, .int .i64 day), (23, .slice pv n cv), (24, .slice pv n cv), (25, .map (some mb)), (26, .slice pv n cv), (27, .int .i64 (n : Int)), (28, .slice (some ⟨gk, 0, none⟩) n n), (29, .slice pv n cv), (30, .int .i64 (n : Int)), (31, .slice (some ⟨gm, 0, none⟩) n n), (32, .agg #[.int .i64 day, .slice pv n cv, .map (some mb1), .slice (some ⟨gk1, 0, none⟩) n n, .slice (some ⟨gm1, 0, none⟩) n n]), (7, .pointer (some ⟨g, 0, none⟩))] _ := hput _ (by kernel_rfl) (fun j s v hj => match j, hj with
          | 0, hj => by cases Option.some.inj hj; exact hhas 0 22 rfl
          | 1, hj => by cases Option.some.inj hj; exact hhas 1 23 rfl
          | 2, hj => by cases Option.some.inj hj; exact hhas 2 24 rfl
          | 3, hj => by cases Option.some.inj hj; exact e25
          | 4, hj => by cases Option.some.inj hj; exact hhas 4 26 rfl
          | 5, hj => by cases Option.some.inj hj; exact hhas 5 27 rfl
          | 6, hj => by cases Option.some.inj hj; exact e28
          | 7, hj => by cases Option.some.inj hj; exact hhas 7 29 rfl
          | 8, hj => by cases Option.some.inj hj; exact hhas 8 30 rfl
          | 9, hj => by cases Option.some.inj hj; exact e31
          | 10, hj => by cases Option.some.inj hj; exact e32
          | 11, hj => by cases Option.some.inj hj; exact e7
          | kk + 12, hj => by simp at hj)
        cases Option.some.inj ho
        have hx : A.eval (.tmp 7) = .pointer (some ⟨g, 0, none⟩) := e7
        have hy : A.eval (.tmp 32) = .agg #[.int .i64 day, .slice pv n cv, .map (some mb1), .slice (some ⟨gk1, 0, none⟩) n n, .slice (some ⟨gm1, 0, none⟩) n n] := e32
        have hst := MD.begin (day := day) (sl := .slice pv n cv) (V := meanP l (wkB day) day) hJ hM b7 k7 b28 k28 b31 k31
        refine wpOp_step rfl (fun K hK => ?_)
        show Oper.wp _ _ _ _ _ _
        refine wp_store_row 64 _ _ rfl _ _ hx hy _ _ k7 (by kernel_rfl) (by simp) (by simp [Value.oneCell']) ?_
        refine hK _ _ ⟨⟨undef, rfl⟩, ?_⟩
        change Exit.then _ _ Exit.normal A _
        subst hA
        simp only [putAll_cons, putAll_nil, Act.put, List.setIfInBounds_toArray, List.set_cons_succ, List.set_cons_zero]
        clear hK hx hy hput hhas hkept e25 e28 e31 e32 e7 k7 k28 k31 hM
        generalize W2.setRow g #[.int .i64 day, .slice pv n cv, .map (some mb1), .slice (some ⟨gk1, 0, none⟩) n n, .slice (some ⟨gm1, 0, none⟩) n n] = W5 at *
        clear hJ
        have cR := Hall.out g gk1 gm1 mb1
        have HC := hid5 cR
        clear cR Hall
        go_wp2_with fail
        go_loopw [8, 35] (fun _ t wr => ∃ j : Nat, t = .int .i64 (j : Int) ∧ j ≤ n ∧ ∃ K, MI ⟨wB, n, g, gk1, gm1, mb1, day, .slice pv n cv, l, meanP l (wkB day) day⟩ K wr ∧ ∀ k, k < j → K k = true) (fun _ t _ => n - (intOf t).toNat)
        case atStart => exact ⟨0, rfl, by omega, _, hst, fun k hk => by omega⟩
        case round =>
          obtain ⟨j, rfl, hj, K, hM, hall⟩ := hrel
          have hj0 : (0 : Int) ≤ (j : Int) := by omega
          have HA := hid5 hall
          clear hall hst
          by_cases hlt : j < n
          · have hlt' : (j : Int) < (n : Int) := by omega
            have cJ := HC.out j hlt K wr hM
            go_wp2_with fail
            refine cJ.mono ?_
            rintro r W6 ⟨rfl, ⟨K', hM', hle, hKj⟩, _⟩
            have HN : Hid (∃ K, MI ⟨wB, n, g, gk1, gm1, mb1, day, .slice pv n cv, l, meanP l (wkB day) day⟩ K W6 ∧ ∀ k, k < j + 1 → K k = true) := ⟨K', hM', fun k hk => by
              by_cases e : k = j
              · subst e
                simpa using hKj
              · exact hle k (HA.out k (by omega))⟩
            clear cJ hM hM' hle hKj HA
            go_wp2_with fail
            go_roundw
            case rel => exact ⟨j + 1, by go_num, by omega, HN.out⟩
            case measure => simp [intOf]; omega
          · have ej : j = n := by omega
            have hlt' : ¬ (j : Int) < (n : Int) := by omega
            have k4 := (cell_of_row _ _ 4 _ _ _ hM.blk).trans rfl
            have hbw := hM.bel
            have n9 := (hbw.block _ (lt_of_block HR.out)).trans HR.out
            have HO : Hid (∀ cs, OutMe l day w (.returned (.tuple #[.slice (some ⟨gm1, 0, none⟩) n n, .agg #[.int .i64 0, .int .i64 0]])) (wr.setRow w.heap.size cs)) := fun cs => by
              obtain ⟨M, h1, h2⟩ := hM
              have hb9 := below_setRow (HBw.out.trans (hbw.mono HBw.out.size)) (Nat.le_refl w.heap.size) cs
              refine ⟨_, by rw [HF.out]; rfl, ?_, hb9⟩
              rw [HML.out]
              refine rowM_of Hn40.out (fun i hi => ?_)
              have h3 := h2 i hi (HA.out i (by omega))
              have h4 := MSt.meant h1 i hi
              rw [h3] at h4
              intro q v hv
              rw [← h4 q v hv]
              exact World.cell?_of_block (setRow_other _ _ _ _ (by have := (MSt.lo h1).2.2; have := HBw.out.size; have := lt_of_block HR.out; dsimp only at *; omega))
            clear HA hM HC
            go_wp2_with (refine wpList_store_row rfl 26 _ _ rfl _ _ rfl rfl _ _ n9 (by kernel_rfl) (by simp) (by simp [Value.oneCell']) ?_)
            exact mall_post w.heap.size _ 0 0 rfl rfl rfl (setRow_heap _ _ _ _ _ _ n9) (HO.out _)
  · have H0 := hid5 h0
    have HF : Hid (mflt l day = chkW l) := by
      show _ = _
      unfold mflt
      rw [if_pos h0]
    have hne : ((chkW l).1 != 0) = true := by simpa using h0
    have bC := (Below.refl w1.heap.size w1).alloc (Nat.le_refl _) (.cells #[.int .i64 (chkW l).1, .int .i64 ((chkW l).2 : Int)] 26)
    have HBw := hid5 (hb1w.trans (bC.mono hb1w.size))
    have n9 := (bC.block _ (lt_of_block m2)).trans m2
    have m3 := heap_alloc_new w1 (.cells #[.int .i64 (chkW l).1, .int .i64 ((chkW l).2 : Int)] 26)
    clear bC hb1w m2 h0
    generalize hw2 : w1.alloc (.cells #[.int .i64 (chkW l).1, .int .i64 ((chkW l).2 : Int)] 26) = wB at *
    have HO : Hid (∀ W, Below w.heap.size w W → OutMe l day w (.returned (.tuple #[.slice none 0 0, .agg #[.int .i64 (chkW l).1, .int .i64 ((chkW l).2 : Int)]])) W) := fun W hW => by
      have hML : meanL l day = [] := by
        unfold meanL
        rw [HF.out, if_neg H0.out]
      refine ⟨_, by rw [HF.out], ?_, hW⟩
      rw [hML]
      exact rowM_nil _ _ _
    have z0 := (cell_of_row _ _ 0 _ _ _ m3).trans rfl
    have z1 := (cell_of_row _ _ 1 _ _ _ m3).trans rfl
    have y0 := (cell_of_row _ _ 0 _ _ _ n9).trans rfl
    have y1 := (cell_of_row _ _ 1 _ _ _ n9).trans rfl
    have x0 := frozen_of_row _ _ 0 _ _ n9
    have x1 := frozen_of_row _ _ 1 _ _ n9
    have hmm := heap_setCell_same _ _ 1 _ _ (.int .i64 ((chkW l).2 : Int)) (heap_setCell_same _ _ 0 _ _ (.int .i64 (chkW l).1) n9)
    have HBB := hid5 ((HBw.out.setCell (p := ⟨w.heap.size, 0, none⟩) (Nat.le_refl _) (.int .i64 (chkW l).1)).setCell (p := ⟨w.heap.size, 1, none⟩) (Nat.le_refl _) (.int .i64 ((chkW l).2 : Int)))
    have HMM := hid5 hmm
    clear hmm n9 m3
    clear HF H0
    generalize (chkW l).1 = er at *
    generalize (((chkW l).2 : Nat) : Int) = at0 at *
    go_wp2_with fail
    go_region
    go_wp2_with fail
    exact mall_post w.heap.size _ er at0 rfl rfl rfl HMM.out (HO.out _ (below_drewN HBB.out 1))
end Go.Proofs.YtgfjbcdjpkcbkaaGreatDoor

/- A rule that is written out in the place of its name: plain. -/
namespace Go.Proofs.YtgfjbcdjpkcbkaaGreatDoor
open Go.RowKit Lx Msk
def sbE (nm : List UInt8) (E e : Ex) : Ex := if e.kind = 10 ∧ e.name = nm then E else ⟨e.kind, e.a, e.b, e.name, e.kids.attach.map fun k => sbE nm E k.1⟩
  termination_by SizeOf.sizeOf e
  decreasing_by exact kid_lt k.2
theorem sbE_eq (nm : List UInt8) (E e : Ex) : sbE nm E e = if e.kind = 10 ∧ e.name = nm then E else ⟨e.kind, e.a, e.b, e.name, e.kids.map (sbE nm E)⟩ := by
  rw [sbE]
  have h := List.map_map (f := Subtype.val) (g := sbE nm E) (l := e.kids.attach)
  rw [List.attach_map_subtype_val] at h
  rw [h]
  rfl
def algE (e : Ex) : Bool := decide (aloneP e = 0) && e.kids.attach.all fun k => algE k.1
  termination_by SizeOf.sizeOf e
  decreasing_by exact kid_lt k.2
theorem algE_eq (e : Ex) : algE e = (decide (aloneP e = 0) && e.kids.all algE) := by
  rw [algE]
  congr 1
  have h := List.all_map (f := Subtype.val) (l := e.kids.attach) (p := algE)
  rw [List.attach_map_subtype_val] at h
  exact h.symm
theorem alg_of : ∀ (N : Nat) (e : Ex), SizeOf.sizeOf e ≤ N → OKE e → algE e = true
  | 0, e, hN, _ => by cases e; simp at hN
  | N + 1, e, hN, h => by
    rw [algE_eq, h.alone]
    simp only [decide_true, Bool.true_and, List.all_eq_true]
    exact fun k hk => alg_of N k (by have := kid_lt hk; omega) (h.kid hk)
theorem shape_alg : ∀ (N : Nat) (e : Ex) (deep n : Nat), SizeOf.sizeOf e ≤ N → algE e = true → (shapeP e deep n).1 = 0 ∨ (shapeP e deep n).1 = 4
  | 0, e, _, _, hN, _ => by cases e; simp at hN
  | N + 1, e, deep, n, hN, h => by
    rw [algE_eq, Bool.and_eq_true, decide_eq_true_eq, List.all_eq_true] at h
    rw [shapeP_eq]
    split
    · exact .inr rfl
    · rw [if_neg (by simpa using h.1)]
      have key : ∀ (ks : List Ex) (acc : Int × Nat), (∀ k ∈ ks, SizeOf.sizeOf k ≤ N ∧ algE k = true) → (acc.1 = 0 ∨ acc.1 = 4) → (shapeL ks (deep + 1) acc).1 = 0 ∨ (shapeL ks (deep + 1) acc).1 = 4 := by
        intro ks
        induction ks with
        | nil => intro acc _ ha; exact ha
        | cons k ks ih =>
          intro acc hk ha
          rw [shapeL_cons]
          refine ih _ (fun q hq => hk q (List.mem_cons_of_mem _ hq)) ?_
          split
          · exact ha
          · exact shape_alg N k _ _ (hk k List.mem_cons_self).1 (hk k List.mem_cons_self).2
      exact key e.kids (0, n + 1) (fun k hk => ⟨by have := kid_lt hk; omega, h.2 k hk⟩) (.inl rfl)
section
variable {nm : List UInt8} {E : Ex}
theorem alg_sb (hE : algE E = true) : ∀ (N : Nat) (e : Ex), SizeOf.sizeOf e ≤ N → algE e = true → algE (sbE nm E e) = true
  | 0, e, hN, _ => by cases e; simp at hN
  | N + 1, e, hN, h => by
    rw [sbE_eq]
    split
    · exact hE
    · rw [algE_eq, Bool.and_eq_true, decide_eq_true_eq, List.all_eq_true] at h
      rw [algE_eq, Bool.and_eq_true, decide_eq_true_eq, List.all_eq_true]
      refine ⟨?_, fun k hk => ?_⟩
      · have h1 := h.1
        unfold aloneP at h1 ⊢
        dsimp only
        rw [List.length_map]
        exact h1
      · obtain ⟨q, hq, rfl⟩ := List.mem_map.1 hk
        exact alg_sb hE N q (by have := kid_lt hq; omega) (h.2 q hq)
theorem nms_sb : ∀ (N : Nat) (e : Ex), SizeOf.sizeOf e ≤ N → ∀ x ∈ nms (sbE nm E e), x ∈ nms e ∨ (nm ∈ nms e ∧ x ∈ nms E)
  | 0, e, hN, _, _ => by cases e; simp at hN
  | N + 1, e, hN, x, hx => by
    rw [sbE_eq] at hx
    split at hx
    · rename_i h
      refine .inr ⟨?_, hx⟩
      rw [nms_eq, if_pos h.1, h.2]
      simp
    · rw [nms_eq] at hx
      dsimp only at hx
      rw [nms_eq]
      rcases List.mem_append.1 hx with hx | hx
      · exact .inl (List.mem_append_left _ hx)
      · unfold nmsL at hx
        rw [List.map_map] at hx
        obtain ⟨s, hs, hxs⟩ := List.mem_flatten.1 hx
        obtain ⟨k, hk, rfl⟩ := List.mem_map.1 hs
        have into : ∀ y, y ∈ nms k → y ∈ nmsL e.kids := fun y hy => List.mem_flatten.2 ⟨nms k, List.mem_map.2 ⟨k, hk, rfl⟩, hy⟩
        rcases nms_sb N k (by have := kid_lt hk; omega) x hxs with h1 | ⟨h1, h2⟩
        · exact .inl (List.mem_append_right _ (into _ h1))
        · exact .inr ⟨List.mem_append_right _ (into _ h1), h2⟩
theorem val_sb {wk : Int → Bool} {day : Int} {env : List UInt8 → Nat → Bool} (hE : valE wk day env E = env nm) : ∀ (N : Nat) (e : Ex), SizeOf.sizeOf e ≤ N → valE wk day env (sbE nm E e) = valE wk day env e
  | 0, e, hN => by cases e; simp at hN
  | N + 1, e, hN => by
    rw [sbE_eq]
    split
    · rename_i h
      rw [hE, valE_eq wk day env e, h.1, h.2]
      rfl
    · rw [valE_eq, valE_eq wk day env e]
      dsimp only
      rw [List.map_map]
      congr 1
      exact List.map_congr_left fun k hk => val_sb hE N k (by have := kid_lt hk; omega)
end
def sbL (nm : List UInt8) (E : Ex) (l : List Ru) : List Ru := l.map fun u => (u.1, sbE nm E u.2)
theorem sbL_len (nm : List UInt8) (E : Ex) (l : List Ru) : (sbL nm E l).length = l.length := by simp [sbL]
theorem sbL_at {nm : List UInt8} {E : Ex} {l : List Ru} {i : Nat} {u : Ru} (h : l[i]? = some u) : (sbL nm E l)[i]? = some (u.1, sbE nm E u.2) := by
  unfold sbL
  rw [List.getElem?_map, h]
  rfl
theorem sbL_names (nm : List UInt8) (E : Ex) (x : List UInt8) : ∀ (l : List Ru) (i : Nat), atF (sbL nm E l) i x = atF l i x
  | [], _ => rfl
  | u :: l, i => by
    show (if u.1 = x then (i : Int) else atF (sbL nm E l) (i + 1) x) = if u.1 = x then (i : Int) else atF l (i + 1) x
    rw [sbL_names nm E x l (i + 1)]
section
variable {l : List Ru} {r : Nat} {ur : Ru}
theorem sb_at (nm : List UInt8) (E : Ex) (x : List UInt8) : atP5 (sbL nm E l) x = atP5 l x := sbL_names nm E x l 0
theorem sb_lead (hc : (chkW l).1 = 0) (hr : l[r]? = some ur) {i : Nat} {u : Ru} (hu : l[i]? = some u) {x : List UInt8} (hx : x ∈ nms (sbE ur.1 ur.2 u.2)) : 0 ≤ atP5 l x ∧ (atP5 l x).toNat < l.length ∧ muR l (atP5 l x).toNat < muR l i := by
  obtain ⟨_, hno⟩ := chk_lk2 hc
  have hi : i < l.length := (List.getElem?_eq_some_iff.1 hu).1
  have hrl : r < l.length := (List.getElem?_eq_some_iff.1 hr).1
  have known : ∀ (k : Nat) (v : Ru) (y : List UInt8), l[k]? = some v → y ∈ nms v.2 → 0 ≤ atP5 l y := fun k v y hv hy => by
    have hb := atP5_bd l y
    by_cases q : 0 ≤ atP5 l y
    · exact q
    · have e : atP5 l y = -1 := by omega
      exact absurd ((spoken_mem (nms v.2) []).2 (.inr ⟨y, hy, e⟩)) (hno v (List.mem_of_getElem? hv))
  have hb := atP5_bd l x
  rcases nms_sb _ u.2 (Nat.le_refl _) x hx with h1 | ⟨h1, h2⟩
  · have k0 := known i u x hu h1
    exact ⟨k0, by omega, muR_lt hc hi (lead_of_name hc hu h1)⟩
  · have k0 := known r ur x hr h2
    have e0 : atP5 l ur.1 = (r : Int) := by
      have := (chk_all hc).1 r hrl
      unfold lk1 at this
      rw [hr] at this
      simpa using this
    have m1 := muR_lt hc hi (lead_of_name hc hu h1)
    rw [e0, Int.toNat_natCast] at m1
    have m2 := muR_lt hc hrl (lead_of_name hc hr h2)
    exact ⟨k0, by omega, by omega⟩
theorem sb_chk (hc : (chkW l).1 = 0) (hr : l[r]? = some ur) (h0 : (wrongR (sbL ur.1 ur.2 l)).1 = 0) : chkW (sbL ur.1 ur.2 l) = (0, 0) := by
  have hlead : ∀ i k, k ∈ leadS (sbL ur.1 ur.2 l) i → k < l.length ∧ muR l k < muR l i := fun i k hk => by
    cases hu : l[i]? with
    | none =>
      have : (sbL ur.1 ur.2 l)[i]? = none := by unfold sbL; rw [List.getElem?_map, hu]; rfl
      unfold leadS at hk
      rw [this] at hk
      cases hk
    | some u =>
      rw [leadS_at (sbL_at hu)] at hk
      obtain ⟨m, hm, rfl⟩ := List.mem_map.1 hk
      rcases (spoken_mem _ _).1 hm with hm | ⟨x, hx, rfl⟩
      · cases hm
      · rw [sb_at]
        exact (sb_lead hc hr hu hx).2
  refine chk_d h0 (fun i hi => ?_) (fun i hi => ?_) (fun i hi => ?_)
  · rw [sbL_len] at hi
    have hu : l[i]? = some l[i] := List.getElem?_eq_getElem hi
    have h1 := (chk_all hc).1 i hi
    unfold lk1 at h1 ⊢
    rw [sbL_at hu]
    rw [hu] at h1
    dsimp only at h1 ⊢
    rw [sb_at]
    exact h1
  · rw [sbL_len] at hi
    have hu : l[i]? = some l[i] := List.getElem?_eq_getElem hi
    unfold lk2
    rw [sbL_at hu]
    dsimp only
    refine decide_eq_false fun hm => ?_
    rcases (spoken_mem _ _).1 hm with hm | ⟨x, hx, e⟩
    · cases hm
    · rw [sb_at] at e
      have := (sb_lead hc hr hu hx).1
      omega
  · unfold lk3
    cases hq : fol (leadS (sbL ur.1 ur.2 l)) ((sbL ur.1 ur.2 l).length + 1) (fun _ => false) i i with
    | false => rfl
    | true =>
      have hw := (fol_way (n := (sbL ur.1 ur.2 l).length) (fun a k hk => by rw [sbL_len]; exact (hlead a k hk).1) (Nat.le_refl _)).1 hq
      have hdn : ∀ a b, Relation.TransGen (fun a b => (leadS (sbL ur.1 ur.2 l) a).contains b = true) a b → muR l b < muR l a := fun a b h => by
        induction h with
        | single h => exact (hlead _ _ (by simpa using h)).2
        | tail _ h ih => exact Nat.lt_trans (hlead _ _ (by simpa using h)).2 ih
      exact absurd (hdn i i hw) (Nat.lt_irrefl _)
theorem sb_mean {wk : Int → Bool} {day : Int} (hc : (chkW l).1 = 0) (hr : l[r]? = some ur) (h' : (chkW (sbL ur.1 ur.2 l)).1 = 0) : ∀ (m j : Nat), j < l.length → muR l j < m → meanP (sbL ur.1 ur.2 l) wk day j = meanP l wk day j
  | 0, _, _, h => by omega
  | m + 1, j, hj, hm => by
    have hu : l[j]? = some l[j] := List.getElem?_eq_getElem hj
    have e0 : atP5 l ur.1 = (r : Int) := by
      have := (chk_all hc).1 r (List.getElem?_eq_some_iff.1 hr).1
      unfold lk1 at this
      rw [hr] at this
      simpa using this
    rw [meanP_eq h' (sbL_at hu), meanP_eq hc hu]
    dsimp only
    rw [valE_congr (env' := fun x => meanP l wk day (atP5 l x).toNat) _ _ (Nat.le_refl _) fun x hx => by
      obtain ⟨_, k1, k2⟩ := sb_lead hc hr hu hx
      show meanP _ wk day (atP5 (sbL ur.1 ur.2 l) x).toNat = meanP l wk day (atP5 l x).toNat
      rw [sb_at]
      exact sb_mean hc hr h' m _ k1 (by omega)]
    refine val_sb ?_ _ _ (Nat.le_refl _)
    show _ = meanP l wk day (atP5 l ur.1).toNat
    rw [e0, Int.toNat_natCast, meanP_eq hc hr]
theorem sb_wrong (hc : (chkW l).1 = 0) (hr : l[r]? = some ur) : (wrongR (sbL ur.1 ur.2 l)).1 = 0 ∨ (wrongR (sbL ur.1 ur.2 l)).1 = 4 := by
  have h0 := (chk_lk2 hc).1
  have hall := right_all h0
  have hE : algE ur.2 = true := alg_of _ _ (Nat.le_refl _) (hall ur (List.mem_of_getElem? hr))
  have hl : l.length ≤ 40 := (wrong_nms h0).1
  have hw : (wrongL l 0).1 = 0 := by
    unfold wrongR at h0
    rw [if_neg (by omega)] at h0
    exact h0
  unfold wrongR
  rw [sbL_len, if_neg (by omega)]
  have key : ∀ (q : List Ru) (i : Nat), (∀ u ∈ q, u ∈ l) → (wrongL q i).1 = 0 → (wrongL (sbL ur.1 ur.2 q) i).1 = 0 ∨ (wrongL (sbL ur.1 ur.2 q) i).1 = 4 := by
    intro q
    induction q with
    | nil => intro i _ h; exact .inl rfl
    | cons u q ih =>
      intro i hm h
      have hu : ruleP u = 0 ∧ (wrongL q (i + 1)).1 = 0 := by
        unfold wrongL at h
        by_cases h1 : ruleP u ≠ 0
        · rw [if_pos h1] at h
          exact absurd h h1
        · rw [if_neg h1] at h
          exact ⟨by simpa using h1, h⟩
      have hnm : Go.Proofs.YtgfjbcdjpkcbkaaGreatDoor.namedL u.1 = true := by
        have := hu.1
        unfold ruleP at this
        split at this
        · cases this
        · rename_i q; simpa using q
      show (wrongL ((u.1, sbE ur.1 ur.2 u.2) :: sbL ur.1 ur.2 q) i).1 = 0 ∨ (wrongL ((u.1, sbE ur.1 ur.2 u.2) :: sbL ur.1 ur.2 q) i).1 = 4
      unfold wrongL
      have hp : ruleP (u.1, sbE ur.1 ur.2 u.2) = 0 ∨ ruleP (u.1, sbE ur.1 ur.2 u.2) = 4 := by
        unfold ruleP
        rw [if_neg (by rw [hnm]; decide)]
        exact shape_alg _ _ 1 0 (Nat.le_refl _) (alg_sb hE _ _ (Nat.le_refl _) (alg_of _ _ (Nat.le_refl _) (hall u (hm u List.mem_cons_self))))
      rcases hp with hp | hp
      · rw [if_neg (by simpa using hp)]
        exact ih (i + 1) (fun v hv => hm v (List.mem_cons_of_mem _ hv)) hu.2
      · rw [if_pos (by rw [hp]; decide)]
        exact .inr hp
  exact key l 0 (fun _ h => h) hw
theorem sb_all (hc : (chkW l).1 = 0) (hr : l[r]? = some ur) (day : Int) : (mflt (sbL ur.1 ur.2 l) day).1 = 4 ∨ (mflt (sbL ur.1 ur.2 l) day = mflt l day ∧ meanL (sbL ur.1 ur.2 l) day = meanL l day) := by
  rcases sb_wrong hc hr with h | h
  · right
    have hk := sb_chk hc hr h
    have e1 : mflt (sbL ur.1 ur.2 l) day = mflt l day := by
      unfold mflt
      rw [hk, if_neg (by decide)]
      rw [if_neg (show ¬ (chkW l).1 ≠ 0 by rw [hc]; decide)]
    refine ⟨e1, ?_⟩
    unfold meanL
    rw [e1, sbL_len]
    split
    · refine List.map_congr_left fun j hj => ?_
      exact sb_mean hc hr (by rw [hk]) _ j (by simpa using hj) (Nat.lt_succ_self _)
    · rfl
  · left
    unfold mflt
    have e : chkW (sbL ur.1 ur.2 l) = wrongR (sbL ur.1 ur.2 l) := by
      unfold chkW
      rw [if_pos (by rw [h]; decide)]
    rw [e, if_pos (by rw [h]; decide), h]
end
end Go.Proofs.YtgfjbcdjpkcbkaaGreatDoor

/- One more in a row of one's own: at the same place, or in new memory. -/
namespace Go.Proofs.YtgfjbcdjpkcbkaaGreatDoor
open Go Go.RowKit
theorem wp_append_fresh {P : Program} {o : Oper} {a : Act} {w : World} {K : Act → World → Prop} {Q : Exit → Act → World → Prop} (s x : Operand) (t : TypeId)
    (ho : o.op = .call { callee := .builtin .append, args := #[s, x], argTypes := #[t, t] })
    (base : Nat) (e : TypeId) (i : TypeInfo) (z : Value) (size bytes : Nat) (ht : P.underlying t = some (.slice e)) (hi : P.info? e = some i) (hz : i.zero = some z)
    (hsize : i.size = size) (hby : i.bytes = bytes) (hzs : z.cells.size = size) (hsz : 0 < size)
    (v : Value) (n : Nat) (xs : List Value) (hs : a.eval s = v) (hown : w.ownsRow base e size v n xs)
    (ad : Addr) (c : Nat) (news : List Value) (hx : a.eval x = .slice (some ad) 1 c) (hl : news.length = 1 * size) (hnews : ∀ j u, news[j]? = some u → w.cell? (ad.add j) = some u) (h1 : ∀ u ∈ news, u.oneCell' = true)
    (h63 : n + 1 ≤ maxLen) (hbytes : (n + 1) * bytes ≤ 140737488355328) (hbase : base ≤ w.heap.size)
    (h : ∀ v' w', w'.ownsRow base e size v' (n + 1) (xs ++ news) → w.grownBy w' v.ownBlock → (v'.ownBlock = v.ownBlock ∨ ∃ g, v'.ownBlock = some g ∧ w.heap.size ≤ g) → K (a.put o.dst v') w') : o.wp P a w K Q := by
  obtain ⟨v', w', hr, h2, h3, _⟩ := run_append_own (P := P) w base t o.type e i z size bytes ht hi hz hsize hby hzs hsz v n xs hown ad 1 c news hl hnews h1 h63 hbytes hbase
  have hfr : v'.ownBlock = v.ownBlock ∨ ∃ g, v'.ownBlock = some g ∧ w.heap.size ≤ g := by
    subst hsize
    subst hby
    have hsmall : n + 1 ≤ 9223372036854775807 := by simp only [maxLen] at h63; omega
    rcases hown.2 with ⟨rfl, rfl⟩ | ⟨g, cap, cur, rfl, hbg, hg, hnc, hcm, hcs, htake⟩
    · have hr' := run_append_nil (P := P) w t o.type e i z ht hi hz ad 1 c news hl hnews (by omega) (by omega) (by have hb := hbytes; simp only [Nat.zero_add] at hb; omega)
      rw [hr] at hr'
      injection hr' with e1 _
      exact .inr ⟨w.heap.size, by rw [e1]; rfl, Nat.le_refl _⟩
    · by_cases hroom : n + 1 ≤ cap
      · have hfit : n * i.size + news.length ≤ cur.size := by rw [hl, hcs, ← Nat.add_mul]; exact Nat.mul_le_mul_right _ hroom
        have hr' := run_append_room (P := P) w t o.type e i ht hi g n cap cur hg ad 1 c news hl hnews h1 hroom hfit
        rw [hr] at hr'
        injection hr' with e1 _
        exact .inl (by rw [e1]; rfl)
      · have holds : ∀ j u, xs[j]? = some u → w.cell? ((⟨g, 0, none⟩ : Addr).add j) = some u := hown.cells (g := g) rfl
        have hr' := run_append_grow (P := P) w t o.type e i z ht hi hz ⟨g, 0, none⟩ n cap xs hown.1 holds ad 1 c news hl hnews (by omega) (by omega) (growslice_fits (by omega) hbytes)
        rw [hr] at hr'
        injection hr' with e1 _
        exact .inr ⟨w.heap.size, by rw [e1]; rfl, Nat.le_refl _⟩
  unfold Oper.wp execOp
  simp only [ho, resolve, invoke, builtin, Sem.run_bind, Sem.run_pure, Result.andThen_ok, List.map_toArray, List.map_cons, List.map_nil, hs, hx, hr]
  exact h v' w' h2 h3 hfr
end Go.Proofs.YtgfjbcdjpkcbkaaGreatDoor

/- What parse.Parse comes to: the deferred call. -/
namespace Go.Proofs.YtgfjbcdjpkcbkaaGreatDoor
open Go.RowKit Lx
set_option maxRecDepth 100000 in
theorem catch_idle (p q : Option Addr) (w : World) :
    CallsD Tryz.prog 37 #[.pointer p, .pointer q] .returning w fun e u' w' => e = .returned (.tuple #[]) ∧ u' = .returning ∧ w' = w := by
  refine callsD_of_wpS Tryz.func37 rfl fun c₀ cs hu => ?_
  apply wpS_seq
  apply wpS_region
  simp [wpOpsS, go_sem, recoverD, hu, Tryz.ntmps37, Exit.thenS]
  refine wpS_of_wp ?_
  change Code.wp _ _ _ { tmps := #[.pointer p, .pointer q, .nilIface, .nilIface, undef, undef, undef, undef, undef], defers := [] } w
  go_wp2_with fail
  cases c₀
  simp_all [bodyPostS, results, Tryz.results37]
theorem assertThrown (c0 c1 : Value) (w : World) : (Instr.typeAssert (.iface 85 (.agg #[c0, c1])) 20 85 false).run Tryz.prog w = .ok (.agg #[c0, c1]) w := by
  unfold Instr.typeAssert
  simp [go_sem]
theorem fieldThrown (c0 c1 : Value) (w : World) : (Instr.field 85 (.agg #[c0, c1]) 0).run Tryz.prog w = .ok (.agg #[c0, c1]) w := by
  unfold Instr.field
  simp [go_sem, asAgg]
attribute [local go_sem] assertThrown fieldThrown
def caught (p q : Nat) (er at_ : Int) (w : World) : World := ((w.setCell ⟨p, 0, none⟩ (.slice none 0 0)).setCell ⟨q, 0, none⟩ (.int .i64 er)).setCell ⟨q, 1, none⟩ (.int .i64 at_)
set_option maxRecDepth 100000 in
set_option maxHeartbeats 1000000 in
theorem catch_thrown (p q : Nat) (hpq : p ≠ q) (c0 c1 c2 : Value) (er at_ : Int) (w : World) (hp : w.heap[p]? = some (.cells #[c0] 22 (0, 0))) (hq : w.heap[q]? = some (.cells #[c1, c2] 26 (0, 0))) :
    CallsD Tryz.prog 37 #[.pointer (some ⟨p, 0, none⟩), .pointer (some ⟨q, 0, none⟩)] (.panicking [{ v := .iface 85 (.agg #[.int .i64 er, .int .i64 at_]), recovered := false }]) w fun e u' w' =>
      e = .returned (.tuple #[]) ∧ u' = .panicking [{ v := .iface 85 (.agg #[.int .i64 er, .int .i64 at_]), recovered := true }] ∧ ∃ k, w' = (caught p q er at_ w).drewN k := by
  have kp := (cell_of_row _ _ 0 _ _ _ hp).trans rfl
  have kq0 := (cell_of_row _ _ 0 _ _ _ hq).trans rfl
  have kq1 := (cell_of_row _ _ 1 _ _ _ hq).trans rfl
  have yp := frozen_of_row _ _ 0 _ _ hp
  have yq0 := frozen_of_row _ _ 0 _ _ hq
  have yq1 := frozen_of_row _ _ 1 _ _ hq
  refine callsD_of_wpS Tryz.func37 rfl fun c₀ cs hu => ?_
  apply wpS_seq
  apply wpS_region
  simp [wpOpsS, go_sem, recoverD, hu, Tryz.ntmps37, Exit.thenS]
  refine wpS_of_wp ?_
  change Code.wp _ _ _ { tmps := #[.pointer (some ⟨p, 0, none⟩), .pointer (some ⟨q, 0, none⟩), .iface 85 (.agg #[.int .i64 er, .int .i64 at_]), .iface 85 (.agg #[.int .i64 er, .int .i64 at_]), undef, undef, undef, undef, undef], defers := [] } w
  go_wp2_with fail
  go_region
  show bodyPostS _ _ _ _ _ _ _ _ _
  simp [bodyPostS, results, Tryz.results37]
  exact ⟨1, rfl⟩
end Go.Proofs.YtgfjbcdjpkcbkaaGreatDoor
