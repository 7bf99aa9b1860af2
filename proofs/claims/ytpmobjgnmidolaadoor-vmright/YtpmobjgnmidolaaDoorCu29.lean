/- What mean.All comes to. Written by genmnk.py. -/
import Derived.Test.YtpmobjgnmidolaaDoorCu28
import Derived.Test.YtpmobjgnmidolaaDoorCu10
import Derived.Test.YtpmobjgnmidolaaDoorCu26
import Derived.Test.YtpmobjgnmidolaaDoorCu11
import Derived.Test.YtpmobjgnmidolaaDoorCu09
import Derived.Test.YtpmobjgnmidolaaDoorCu22
import Derived.Test.YtpmobjgnmidolaaDoorCu06
namespace Go.Proofs.YtpmobjgnmidolaaDoor
open Go.RowKit Lx Msk

/-- What is wrong with rules, or with the day. -/
def mflt (l : List Ru) (day : Int) : Int × Nat := if (chkW l).1 ≠ 0 then chkW l else if day < 0 ∨ 146097 ≤ day then (3, 0) else (0, 0)
/-- What rules mean, one by one. -/
def meanL (l : List Ru) (day : Int) : List (Nat → Bool) := if (mflt l day).1 = 0 then (List.range l.length).map (meanP l (wkB day) day) else []
/-- A row of masks. -/
def RowM (w : World) (v : Value) (fs : List (Nat → Bool)) : Prop := ∃ p c, v = .slice p fs.length c ∧ (fs.length ≤ 40 ∧ fs.length ≤ c) ∧ ∀ (i : Nat) (f : Nat → Bool), fs[i]? = some f → ∃ g o : Nat, p = some ⟨g, o, none⟩ ∧ w.rangeAt g (o + i * 23) (mv f).toList
def OutMe (l : List Ru) (day : Int) (w : World) (e : Ending) (w' : World) : Prop := ∃ v, e = .returned (.tuple #[v, .agg #[.int .i64 (mflt l day).1, .int .i64 ((mflt l day).2 : Int)]]) ∧ RowM w' v (meanL l day) ∧ Below w.heap.size w w'
theorem rowM_nil (w : World) (p : Option Addr) (c : Nat) : RowM w (.slice p 0 c) [] := ⟨p, c, rfl, ⟨by simp, by simp⟩, fun i f hi => by simp at hi⟩
theorem rowM_of {w : World} {gm n : Nat} {F : Nat → Nat → Bool} (hn : n ≤ 40) (h : ∀ i, i < n → w.rangeAt gm (i * 23) (mv (F i)).toList) : RowM w (.slice (some ⟨gm, 0, none⟩) n n) ((List.range n).map F) := by
  refine ⟨some ⟨gm, 0, none⟩, n, by simp, ⟨by simpa using hn, by simp⟩, fun i f hi => ⟨gm, 0, rfl, ?_⟩⟩
  rw [List.getElem?_map] at hi
  cases hr : (List.range n)[i]? with
  | none => rw [hr] at hi; cases hi
  | some k =>
    rw [hr] at hi
    have hf : F k = f := Option.some.inj hi
    obtain ⟨h1, h2⟩ := List.getElem?_eq_some_iff.1 hr
    have hk : k = i := by rw [← h2]; simp
    have hin : i < n := by simpa using h1
    rw [← hf, hk, Nat.zero_add]
    exact h i hin
/-- The cells of so many empty masks. -/
def zcells (n : Nat) : Array Value := madeCells (mv fun _ => false) (n * 23)
theorem zcells_at {n i j : Nat} (hi : i < n) (hj : j < 23) : (zcells n)[i * 23 + j]? = (mv fun _ => false)[j]? := by
  have h1 : i * 23 + j < n * 23 := by
    have : (i + 1) * 23 ≤ n * 23 := Nat.mul_le_mul_right 23 hi
    omega
  have h2 : (i * 23 + j) % 23 = j := by omega
  have h3 : j < (mv fun _ => false).size := by rw [mv_size]; exact hj
  simp [zcells, madeCells, h1, mv_size, h2]
  rw [Array.getElem!_eq_getD, Array.getD_eq_getD_getElem?, Array.getElem?_eq_getElem h3]
  rfl
theorem zcells_range {w : World} {g n : Nat} {t : TypeId} (h : w.heap[g]? = some (.cells (zcells n) t (0, 0))) {i : Nat} (hi : i < n) : w.rangeAt g (i * 23) (mv fun _ => false).toList := fun j v hv => by
  have hj : j < 23 := by
    have := (List.getElem?_eq_some_iff.1 hv).1
    rw [Array.length_toList, mv_size] at this
    exact this
  rw [cell_of_row _ _ _ _ _ _ h, zcells_at hi hj, ← Array.getElem?_toList]
  exact hv
theorem maskInfo6 : (Tryd.prog.info? 37).map (fun i => (i.zero, i.size, i.bytes)) = some (some (.agg #[.int .u64 0, .int .u64 0, .int .u64 0, .int .u64 0, .int .u64 0, .int .u64 0, .int .u64 0, .int .u64 0, .int .u64 0, .int .u64 0, .int .u64 0, .int .u64 0, .int .u64 0, .int .u64 0, .int .u64 0, .int .u64 0, .int .u64 0, .int .u64 0, .int .u64 0, .int .u64 0, .int .u64 0, .int .u64 0, .int .u64 0]), 23, 184) := by kernel_rfl
theorem masksType6 : Tryd.prog.underlying 32 = some (.slice 37) := by kernel_rfl
theorem make_masks (n : Nat) (hn : n ≤ 1000) (w : World) : (Instr.makeSlice 32 (.int .i64 (n : Int)) (.int .i64 (n : Int))).run Tryd.prog w = .ok (.slice (some ⟨w.heap.size, 0, none⟩) n n) (w.alloc (.cells (zcells n) 37)) := by
  obtain ⟨i, hi, hzz⟩ := Option.map_eq_some_iff.1 maskInfo6
  simp only [Prod.mk.injEq] at hzz
  obtain ⟨hz, hs, hb⟩ := hzz
  have hr := run_make (P := Tryd.prog) w 32 37 i _ masksType6 hi hz .i64 .i64 n n (by omega) (Int.le_refl _) (by rw [hb]; omega) (by omega)
  rw [hs] at hr
  have e : (Value.agg #[.int .u64 0, .int .u64 0, .int .u64 0, .int .u64 0, .int .u64 0, .int .u64 0, .int .u64 0, .int .u64 0, .int .u64 0, .int .u64 0, .int .u64 0, .int .u64 0, .int .u64 0, .int .u64 0, .int .u64 0, .int .u64 0, .int .u64 0, .int .u64 0, .int .u64 0, .int .u64 0, .int .u64 0, .int .u64 0, .int .u64 0]).cells = mv fun _ => false := mv_lit
  rw [e] at hr
  simpa [zcells] using hr
/-- What each operation yields. -/
def asp (B n : Nat) (day : Int) (sl : Value) (l : List Ru) (i : Nat) (v : Value) (W : World) : Prop := match i with
  | 0 => v = .int .i64 day
  | 3 => ∃ mb, v = .map (some mb) ∧ MapN W mb l
  | 5 => v = .int .i64 (n : Int)
  | 6 => ∃ gk : Nat, v = .slice (some ⟨gk, 0, none⟩) n n ∧ B ≤ gk ∧ W.heap[gk]? = some (.cells (bcells n fun _ => false) 4 (0, 0))
  | 8 => v = .int .i64 (n : Int)
  | 9 => ∃ gm : Nat, v = .slice (some ⟨gm, 0, none⟩) n n ∧ B ≤ gm ∧ W.heap[gm]? = some (.cells (zcells n) 37 (0, 0))
  | 10 => ∃ mb gk gm : Nat, v = .agg #[.int .i64 day, sl, .map (some mb), .slice (some ⟨gk, 0, none⟩) n n, .slice (some ⟨gm, 0, none⟩) n n] ∧ MapN W mb l ∧ B ≤ gk ∧ W.heap[gk]? = some (.cells (bcells n fun _ => false) 4 (0, 0)) ∧ B ≤ gm ∧ W.heap[gm]? = some (.cells (zcells n) 37 (0, 0))
  | 11 => ∃ g : Nat, v = .pointer (some ⟨g, 0, none⟩) ∧ B ≤ g ∧ W.heap[g]? = some (.cells #[.int .i64 0, .slice none 0 0, .map none, .slice none 0 0, .slice none 0 0] 71 (0, 0))
  | _ => v = sl
theorem asp_mono {B n : Nat} {day : Int} {sl : Value} {l : List Ru} {W W' : World} (hb : Below W.heap.size W W') (i : Nat) (v : Value) (h : asp B n day sl l i v W) : asp B n day sl l i v W' := by
  unfold asp at *
  split at h
  · exact h
  · obtain ⟨mb, h1, h2⟩ := h
    exact ⟨mb, h1, h2.later (hb.block _ (lt_of_map h2))⟩
  · exact h
  · obtain ⟨gk, h1, h2, h3⟩ := h
    exact ⟨gk, h1, h2, (hb.block _ (lt_of_block h3)).trans h3⟩
  · exact h
  · obtain ⟨gk, h1, h2, h3⟩ := h
    exact ⟨gk, h1, h2, (hb.block _ (lt_of_block h3)).trans h3⟩
  · obtain ⟨mb, gk, gm, h1, h2, h3, h4, h5, h6⟩ := h
    exact ⟨mb, gk, gm, h1, h2.later (hb.block _ (lt_of_map h2)), h3, (hb.block _ (lt_of_block h4)).trans h4, h5, (hb.block _ (lt_of_block h6)).trans h6⟩
  · obtain ⟨gk, h1, h2, h3⟩ := h
    exact ⟨gk, h1, h2, (hb.block _ (lt_of_block h3)).trans h3⟩
  · exact h
/-- The day begins: nothing is known. -/
theorem MD.begin {w W : World} {n g gk gm mb : Nat} {day : Int} {sl : Value} {l : List Ru} {V : Nat → Nat → Bool} {old : Array Value} (hJ : Below w.heap.size w W) (hM : MapN W mb l) (b7 : w.heap.size ≤ g) (k7 : W.heap[g]? = some (.cells old 71 (0, 0)))
    (b28 : w.heap.size ≤ gk) (k28 : W.heap[gk]? = some (.cells (bcells n fun _ => false) 4 (0, 0))) (b31 : w.heap.size ≤ gm) (k31 : W.heap[gm]? = some (.cells (zcells n) 37 (0, 0))) :
    MI ⟨w, n, g, gk, gm, mb, day, sl, l, V⟩ (fun _ => false) (W.setRow g #[.int .i64 day, sl, .map (some mb), .slice (some ⟨gk, 0, none⟩) n n, .slice (some ⟨gm, 0, none⟩) n n]) := by
  have n1 : g ≠ gk := fun e => by subst e; rw [k7] at k28; cases k28
  have n2 : g ≠ gm := fun e => by subst e; rw [k7] at k31; cases k31
  have n3 : gk ≠ gm := fun e => by
    subst e
    rw [k28] at k31
    injection k31 with e1
    injection e1 with _ e2
    exact absurd e2 (by decide)
  obtain ⟨es, c, hm, _⟩ := id hM
  have n4 : mb ≠ gk := fun e => by subst e; rw [hm] at k28; cases k28
  have n5 : mb ≠ gm := fun e => by subst e; rw [hm] at k31; cases k31
  have n6 : mb ≠ g := fun e => by subst e; rw [hm] at k7; cases k7
  have ho : ∀ q, q ≠ g → (W.setRow g #[.int .i64 day, sl, .map (some mb), .slice (some ⟨gk, 0, none⟩) n n, .slice (some ⟨gm, 0, none⟩) n n]).heap[q]? = W.heap[q]? := fun q hq => setRow_other _ _ _ _ hq
  refine ⟨fun _ _ => false, ⟨below_setRow hJ b7 _, setRow_heap _ _ _ _ _ _ k7, (ho _ (fun e => n1 e.symm)).trans k28, fun i hi => ?_, ⟨_, (ho _ (fun e => n2 e.symm)).trans k31⟩, hM.later (ho _ n6), ⟨b7, b28, b31⟩, n1, n2, n3, n4, n5⟩, fun _ _ h => by cases h⟩
  exact zcells_range ((ho _ (fun e => n2 e.symm)).trans k31) hi
theorem mall_post {R : Ending → World → Prop} {a : Act} {w : World} (g : Nat) (v : Value) (er at_ : Int) (hd : a.defers = []) (h2 : a.tmps.getD 4 undef = v) (h3 : a.tmps.getD 5 undef = .pointer (some ⟨g, 0, none⟩))
    (hg : w.heap[g]? = some (.cells #[.int .i64 er, .int .i64 at_] 26 (0, 0))) (hR : R (.returned (.tuple #[v, .agg #[.int .i64 er, .int .i64 at_]])) w) : bodyPost Tryd.prog Tryd.f10 R .ret a w := by
  refine bodyPost_ret (v := .tuple #[v, .agg #[.int .i64 er, .int .i64 at_]]) ?_ hd hR
  have h2' : a.tmps[4]?.getD undef = v := by simpa using h2
  have h3' : a.tmps[5]?.getD undef = .pointer (some ⟨g, 0, none⟩) := by simpa using h3
  have hv := run_loadVar_row (P := Tryd.prog) w g 26 26 _ _ _ hg faultType rfl (by kernel_rfl)
  simp [results, Tryd.results10, h2', h3', asAddr, hv]
set_option maxRecDepth 100000 in
set_option maxHeartbeats 4000000 in
theorem mall_any (us : List (Ru × Value)) (v : Value) (day : Int) (w : World) (h : InR w v us) : Calls Tryd.prog 10 #[v, .int .i64 day] w (OutMe (us.map (fun p => p.1)) day w) := by
  obtain ⟨l, hl⟩ : ∃ l, us.map (fun p => p.1) = l := ⟨_, rfl⟩
  obtain ⟨n, hn⟩ : ∃ n, us.length = n := ⟨_, rfl⟩
  have hll : l.length = n := by rw [← hl, List.length_map, hn]
  obtain ⟨pv, cv, rfl⟩ := h.form
  have bA := (Below.refl w.heap.size w).alloc (Nat.le_refl _) (.cells #[.int .i64 0, .int .i64 0] 26)
  have n1 := heap_alloc_new w (.cells #[.int .i64 0, .int .i64 0] 26)
  generalize hwA : w.alloc (.cells #[.int .i64 0, .int .i64 0] 26) = wA at *
  have cW := chk_any us _ wA (h.below bA)
  rw [hl] at cW
  rw [hl, hn]
  have HL := hid5 hl
  have HLN := hid5 hn
  have HLL := hid5 hll
  have HI0 := hid5 h
  rw [hn] at cW
  clear hl hll h hn
  go_enter Tryd.func10, Tryd.ntmps10
  go_wp2_with fail
  refine cW.mono ?_
  rintro r w1 ⟨rfl, hb1⟩
  have m2 := (hb1.block _ (lt_of_block n1)).trans n1
  have hb1w := bA.trans (hb1.mono bA.size)
  clear cW n1 hb1 bA hwA
  by_cases h0 : (chkW l).1 = 0
  · obtain ⟨hw0, _⟩ := chk_lk2 h0
    have h40 := (wrongR_oke hw0).1
    rw [HLL.out] at h40
    have H0 := hid5 h0
    rw [h0]
    generalize (((chkW l).2 : Nat) : Int) = at0 at *
    have bC := (Below.refl w1.heap.size w1).alloc (Nat.le_refl _) (.cells #[.int .i64 0, .int .i64 at0] 26)
    have HBw := hid5 (hb1w.trans (bC.mono hb1w.size))
    have HR := hid5 ((bC.block _ (lt_of_block m2)).trans m2)
    have m3 := heap_alloc_new w1 (.cells #[.int .i64 0, .int .i64 at0] 26)
    have Hn40 := hid5 h40
    have hI40 : (n : Int) ≤ 40 := by omega
    clear bC hb1w m2 h0 h40 hw0
    generalize hw2 : w1.alloc (.cells #[.int .i64 0, .int .i64 at0] 26) = wB at *
    have HI := hid5 (HI0.out.below HBw.out)
    have z0 := (cell_of_row _ _ 0 _ _ _ m3).trans rfl
    by_cases hd : day < 0 ∨ 146097 ≤ day
    · have HF : Hid (mflt l day = (3, 0)) := by
        show _ = _
        unfold mflt
        rw [if_neg (by simpa using H0.out), if_pos hd]
      have HO : Hid (∀ cs, OutMe l day w (.returned (.tuple #[.slice none 0 0, .agg #[.int .i64 3, .int .i64 0]])) (wB.setRow w.heap.size cs)) := fun cs => by
        have hML : meanL l day = [] := by
          unfold meanL
          rw [HF.out]
          rfl
        refine ⟨_, by rw [HF.out]; rfl, ?_, below_setRow HBw.out (Nat.le_refl _) _⟩
        rw [hML]
        exact rowM_nil _ _ _
      have n9 := HR.out
      by_cases hd0 : day < 0
      · clear hd
        go_wp2_with (refine wpList_store_row rfl 26 _ _ rfl _ _ rfl rfl _ _ n9 (by kernel_rfl) (by simp) (by simp [Value.oneCell']) ?_)
        exact mall_post w.heap.size _ 3 0 rfl rfl rfl (setRow_heap _ _ _ _ _ _ n9) (HO.out _)
      · have hd1 : 146097 ≤ day := by omega
        clear hd
        go_wp2_with (refine wpList_store_row rfl 26 _ _ rfl _ _ rfl rfl _ _ n9 (by kernel_rfl) (by simp) (by simp [Value.oneCell']) ?_)
        exact mall_post w.heap.size _ 3 0 rfl rfl rfl (setRow_heap _ _ _ _ _ _ n9) (HO.out _)
    · have HF : Hid (mflt l day = (0, 0)) := by
        show _ = _
        unfold mflt
        rw [if_neg (by simpa using H0.out), if_neg hd]
      have HML : Hid (meanL l day = (List.range n).map (meanP l (wkB day) day)) := by
        show _ = _
        unfold meanL
        rw [HF.out, HLL.out]
        rfl
      have hd0 : ¬ day < 0 := fun e => hd (.inl e)
      have hd1 : ¬ 146097 ≤ day := fun e => hd (.inr e)
      have Hall : Hid (∀ (g gk gm mb i : Nat), i < n → RuleC ⟨wB, n, g, gk, gm, mb, day, .slice pv n cv, l, meanP l (wkB day) day⟩ (i : Int) (meanP l (wkB day) day i)) := fun g gk gm mb i hi => by
        have hin := HI.out
        rw [HLN.out] at hin
        exact mrule_all (D := ⟨wB, n, g, gk, gm, mb, day, .slice pv n cv, l, meanP l (wkB day) day⟩) hin HL.out HLN.out H0.out (by show 0 ≤ day; omega) (by show day < 146097; omega) (fun _ => rfl) (muR l i + 1) i hi (by show muR l i < muR l i + 1; omega)
      have Hmb := hid5 (run_make_row' (P := Tryd.prog) 61 4 (.bool false) 1 boolsType boolInfo rfl .i64 .i64 n (by omega) (by omega))
      rw [bcells_none] at Hmb
      have Hmm := hid5 (make_masks n (by omega))
      clear hd
      go_wp2_with fail
      clear z0 m3 hw2
      refine wp_region_lastP (Below wB.heap.size wB) (asp wB.heap.size n day (.slice pv n cv) l) ((Below.refl _ _).drew) (fun W W' hb j u h => asp_mono hb j u h) (by kernel_rfl) (by kernel_rfl) (by kernel_rfl) (by kernel_rfl) 12 (by kernel_rfl) (by kernel_rfl) [22, 23, 24, 25, 26, 27, 28, 29, 30, 31, 32, 7] (by kernel_rfl) (by kernel_rfl) ?_ ?_
      · intro i' s o' L A W2 ho hs hdep hJ hkept hhas
        match i', ho, hs with
        | 0, ho, hs =>
          cases Option.some.inj ho
          cases Option.some.inj hs
          have h1 : A.tmps[1]?.getD undef = .int .i64 day := (gd A 1).trans (hkept 1 (by kernel_rfl))
          refine wpOp_step rfl (fun K hK => ?_)
          go_simp
          exact hK _ _ ⟨_, rfl, rfl, hJ, Below.refl _ _⟩
        | 1, ho, hs =>
          cases Option.some.inj ho
          cases Option.some.inj hs
          have h0 : A.tmps[0]?.getD undef = .slice pv n cv := (gd A 0).trans (hkept 0 (by kernel_rfl))
          refine wpOp_step rfl (fun K hK => ?_)
          go_simp
          exact hK _ _ ⟨_, rfl, rfl, hJ, Below.refl _ _⟩
        | 2, ho, hs =>
          cases Option.some.inj ho
          cases Option.some.inj hs
          have h0 : A.tmps[0]?.getD undef = .slice pv n cv := (gd A 0).trans (hkept 0 (by kernel_rfl))
          refine wpOp_step rfl (fun K hK => ?_)
          go_simp
          exact hK _ _ ⟨_, rfl, rfl, hJ, Below.refl _ _⟩
        | 3, ho, hs =>
          cases Option.some.inj ho
          cases Option.some.inj hs
          have h24 : A.tmps[24]?.getD undef = .slice pv n cv := (gd A 24).trans (hhas 2 24 rfl (hdep ⟨2, .data⟩ (by simp) rfl))
          have cN := numbers_any us _ W2 (HI.out.below hJ)
          rw [HLN.out] at cN
          refine wpOp_step rfl (fun K hK => ?_)
          go_simp
          refine cN.mono ?_
          rintro e' W' ⟨mb, rfl, _, hM, hb'⟩
          rw [HL.out] at hM
          exact hK _ _ ⟨_, rfl, ⟨mb, rfl, hM⟩, hJ.trans (hb'.mono hJ.size), hb'⟩
        | 4, ho, hs =>
          cases Option.some.inj ho
          cases Option.some.inj hs
          have h0 : A.tmps[0]?.getD undef = .slice pv n cv := (gd A 0).trans (hkept 0 (by kernel_rfl))
          refine wpOp_step rfl (fun K hK => ?_)
          go_simp
          exact hK _ _ ⟨_, rfl, rfl, hJ, Below.refl _ _⟩
        | 5, ho, hs =>
          cases Option.some.inj ho
          cases Option.some.inj hs
          have h26 : A.tmps[26]?.getD undef = .slice pv n cv := (gd A 26).trans (hhas 4 26 rfl (hdep ⟨4, .data⟩ (by simp) rfl))
          refine wpOp_step rfl (fun K hK => ?_)
          go_simp
          exact hK _ _ ⟨_, rfl, rfl, hJ, Below.refl _ _⟩
        | 6, ho, hs =>
          cases Option.some.inj ho
          cases Option.some.inj hs
          have h27 : A.tmps[27]?.getD undef = .int .i64 (n : Int) := (gd A 27).trans (hhas 5 27 rfl (hdep ⟨5, .data⟩ (by simp) rfl))
          have hsz := hJ.size
          have hmk := Hmb.out W2
          have hb := (Below.refl W2.heap.size W2).alloc (Nat.le_refl _) (.cells (bcells n fun _ => false) 4)
          have hnew := heap_alloc_new W2 (.cells (bcells n fun _ => false) 4)
          refine wpOp_step rfl (fun K hK => ?_)
          go_simp
          exact hK _ _ ⟨_, rfl, ⟨_, rfl, hsz, hnew⟩, hJ.trans (hb.mono hJ.size), hb⟩
        | 7, ho, hs =>
          cases Option.some.inj ho
          cases Option.some.inj hs
          have h0 : A.tmps[0]?.getD undef = .slice pv n cv := (gd A 0).trans (hkept 0 (by kernel_rfl))
          refine wpOp_step rfl (fun K hK => ?_)
          go_simp
          exact hK _ _ ⟨_, rfl, rfl, hJ, Below.refl _ _⟩
        | 8, ho, hs =>
          cases Option.some.inj ho
          cases Option.some.inj hs
          have h29 : A.tmps[29]?.getD undef = .slice pv n cv := (gd A 29).trans (hhas 7 29 rfl (hdep ⟨7, .data⟩ (by simp) rfl))
          refine wpOp_step rfl (fun K hK => ?_)
          go_simp
          exact hK _ _ ⟨_, rfl, rfl, hJ, Below.refl _ _⟩
        | 9, ho, hs =>
          cases Option.some.inj ho
          cases Option.some.inj hs
          have h30 : A.tmps[30]?.getD undef = .int .i64 (n : Int) := (gd A 30).trans (hhas 8 30 rfl (hdep ⟨8, .data⟩ (by simp) rfl))
          have hsz := hJ.size
          have hmk := Hmm.out W2
          have hb := (Below.refl W2.heap.size W2).alloc (Nat.le_refl _) (.cells (zcells n) 37)
          have hnew := heap_alloc_new W2 (.cells (zcells n) 37)
          refine wpOp_step rfl (fun K hK => ?_)
          go_simp
          exact hK _ _ ⟨_, rfl, ⟨_, rfl, hsz, hnew⟩, hJ.trans (hb.mono hJ.size), hb⟩
        | 10, ho, hs =>
          cases Option.some.inj ho
          cases Option.some.inj hs
          have h22 : A.tmps[22]?.getD undef = .int .i64 day := (gd A 22).trans (hhas 0 22 rfl (hdep ⟨0, .data⟩ (by simp) rfl))
          have h23 : A.tmps[23]?.getD undef = .slice pv n cv := (gd A 23).trans (hhas 1 23 rfl (hdep ⟨1, .data⟩ (by simp) rfl))
          obtain ⟨mb, e25, hM⟩ := hhas 3 25 rfl (hdep ⟨3, .data⟩ (by simp) rfl)
          obtain ⟨gk, e28, b28, k28⟩ := hhas 6 28 rfl (hdep ⟨6, .data⟩ (by simp) rfl)
          obtain ⟨gm, e31, b31, k31⟩ := hhas 9 31 rfl (hdep ⟨9, .data⟩ (by simp) rfl)
          have h25 : A.tmps[25]?.getD undef = .map (some mb) := (gd A 25).trans e25
          have h28 : A.tmps[28]?.getD undef = .slice (some ⟨gk, 0, none⟩) n n := (gd A 28).trans e28
          have h31 : A.tmps[31]?.getD undef = .slice (some ⟨gm, 0, none⟩) n n := (gd A 31).trans e31
          refine wpOp_step rfl (fun K hK => ?_)
          go_simp
          exact hK _ _ ⟨_, rfl, ⟨mb, gk, gm, rfl, hM, b28, k28, b31, k31⟩, hJ, Below.refl _ _⟩
        | 11, ho, hs =>
          cases Option.some.inj ho
          cases Option.some.inj hs
          have hsz := hJ.size
          have hb := (Below.refl W2.heap.size W2).alloc (Nat.le_refl _) (.cells #[.int .i64 0, .slice none 0 0, .map none, .slice none 0 0, .slice none 0 0] 71)
          have hnew := heap_alloc_new W2 (.cells #[.int .i64 0, .slice none 0 0, .map none, .slice none 0 0, .slice none 0 0] 71)
          refine wpOp_step rfl (fun K hK => ?_)
          go_simp
          exact hK _ _ ⟨_, rfl, ⟨_, rfl, hsz, hnew⟩, hJ.trans (hb.mono hJ.size), hb⟩
        | kk + 12, ho, hs => simp at hs
      · intro o' W2 A ho hJ hhas hkept hput
        obtain ⟨mb, e25, _⟩ := hhas 3 25 rfl
        obtain ⟨gk, e28, _, _⟩ := hhas 6 28 rfl
        obtain ⟨gm, e31, _, _⟩ := hhas 9 31 rfl
        obtain ⟨mb1, gk1, gm1, e32, hM, b28, k28, b31, k31⟩ := hhas 10 32 rfl
        obtain ⟨g, e7, b7, k7⟩ := hhas 11 7 rfl
        have hA : A = putAll [(22, .int .i64 day), (23, .slice pv n cv), (24, .slice pv n cv), (25, .map (some mb)), (26, .slice pv n cv), (27, .int .i64 (n : Int)), (28, .slice (some ⟨gk, 0, none⟩) n n), (29, .slice pv n cv), (30, .int .i64 (n : Int)), (31, .slice (some ⟨gm, 0, none⟩) n n), (32, .agg #[.int .i64 day, .slice pv n cv, .map (some mb1), .slice (some ⟨gk1, 0, none⟩) n n, .slice (some ⟨gm1, 0, none⟩) n n]), (7, .pointer (some ⟨g, 0, none⟩))] _ := hput _ (by kernel_rfl) (fun j s v hj => match j, hj with
          | 0, hj => by cases Option.some.inj hj; exact hhas 0 22 rfl
          | 1, hj => by cases Option.some.inj hj; exact hhas 1 23 rfl
          | 2, hj => by cases Option.some.inj hj; exact hhas 2 24 rfl
          | 3, hj => by cases Option.some.inj hj; exact e25
          | 4, hj => by cases Option.some.inj hj; exact hhas 4 26 rfl
          | 5, hj => by cases Option.some.inj hj; exact hhas 5 27 rfl
          | 6, hj => by cases Option.some.inj hj; exact e28
          | 7, hj => by cases Option.some.inj hj; exact hhas 7 29 rfl
          | 8, hj => by cases Option.some.inj hj; exact hhas 8 30 rfl
          | 9, hj => by cases Option.some.inj hj; exact e31
          | 10, hj => by cases Option.some.inj hj; exact e32
          | 11, hj => by cases Option.some.inj hj; exact e7
          | kk + 12, hj => by simp at hj)
        cases Option.some.inj ho
        have hx : A.eval (.tmp 7) = .pointer (some ⟨g, 0, none⟩) := e7
        have hy : A.eval (.tmp 32) = .agg #[.int .i64 day, .slice pv n cv, .map (some mb1), .slice (some ⟨gk1, 0, none⟩) n n, .slice (some ⟨gm1, 0, none⟩) n n] := e32
        have hst := MD.begin (day := day) (sl := .slice pv n cv) (V := meanP l (wkB day) day) hJ hM b7 k7 b28 k28 b31 k31
        refine wpOp_step rfl (fun K hK => ?_)
        show Oper.wp _ _ _ _ _ _
        refine wp_store_row 71 _ _ rfl _ _ hx hy _ _ k7 (by kernel_rfl) (by simp) (by simp [Value.oneCell']) ?_
        refine hK _ _ ⟨⟨undef, rfl⟩, ?_⟩
        change Exit.then _ _ Exit.normal A _
        subst hA
        simp only [putAll_cons, putAll_nil, Act.put, List.setIfInBounds_toArray, List.set_cons_succ, List.set_cons_zero]
        clear hK hx hy hput hhas hkept e25 e28 e31 e32 e7 k7 k28 k31 hM
        generalize W2.setRow g #[.int .i64 day, .slice pv n cv, .map (some mb1), .slice (some ⟨gk1, 0, none⟩) n n, .slice (some ⟨gm1, 0, none⟩) n n] = W5 at *
        clear hJ
        have cR := Hall.out g gk1 gm1 mb1
        have HC := hid5 cR
        clear cR Hall
        go_wp2_with fail
        go_loopw [8, 35] (fun _ t wr => ∃ j : Nat, t = .int .i64 (j : Int) ∧ j ≤ n ∧ ∃ K, MI ⟨wB, n, g, gk1, gm1, mb1, day, .slice pv n cv, l, meanP l (wkB day) day⟩ K wr ∧ ∀ k, k < j → K k = true) (fun _ t _ => n - (intOf t).toNat)
        case atStart => exact ⟨0, rfl, by omega, _, hst, fun k hk => by omega⟩
        case round =>
          obtain ⟨j, rfl, hj, K, hM, hall⟩ := hrel
          have hj0 : (0 : Int) ≤ (j : Int) := by omega
          have HA := hid5 hall
          clear hall hst
          by_cases hlt : j < n
          · have hlt' : (j : Int) < (n : Int) := by omega
            have cJ := HC.out j hlt K wr hM
            go_wp2_with fail
            refine cJ.mono ?_
            rintro r W6 ⟨rfl, ⟨K', hM', hle, hKj⟩, _⟩
            have HN : Hid (∃ K, MI ⟨wB, n, g, gk1, gm1, mb1, day, .slice pv n cv, l, meanP l (wkB day) day⟩ K W6 ∧ ∀ k, k < j + 1 → K k = true) := ⟨K', hM', fun k hk => by
              by_cases e : k = j
              · subst e
                simpa using hKj
              · exact hle k (HA.out k (by omega))⟩
            clear cJ hM hM' hle hKj HA
            go_wp2_with fail
            go_roundw
            case rel => exact ⟨j + 1, by go_num, by omega, HN.out⟩
            case measure => simp [intOf]; omega
          · have ej : j = n := by omega
            have hlt' : ¬ (j : Int) < (n : Int) := by omega
            have k4 := (cell_of_row _ _ 4 _ _ _ hM.blk).trans rfl
            have hbw := hM.bel
            have n9 := (hbw.block _ (lt_of_block HR.out)).trans HR.out
            have HO : Hid (∀ cs, OutMe l day w (.returned (.tuple #[.slice (some ⟨gm1, 0, none⟩) n n, .agg #[.int .i64 0, .int .i64 0]])) (wr.setRow w.heap.size cs)) := fun cs => by
              obtain ⟨M, h1, h2⟩ := hM
              have hb9 := below_setRow (HBw.out.trans (hbw.mono HBw.out.size)) (Nat.le_refl w.heap.size) cs
              refine ⟨_, by rw [HF.out]; rfl, ?_, hb9⟩
              rw [HML.out]
              refine rowM_of Hn40.out (fun i hi => ?_)
              have h3 := h2 i hi (HA.out i (by omega))
              have h4 := MSt.meant h1 i hi
              rw [h3] at h4
              intro q v hv
              rw [← h4 q v hv]
              exact World.cell?_of_block (setRow_other _ _ _ _ (by have := (MSt.lo h1).2.2; have := HBw.out.size; have := lt_of_block HR.out; dsimp only at *; omega))
            clear HA hM HC
            go_wp2_with (refine wpList_store_row rfl 26 _ _ rfl _ _ rfl rfl _ _ n9 (by kernel_rfl) (by simp) (by simp [Value.oneCell']) ?_)
            exact mall_post w.heap.size _ 0 0 rfl rfl rfl (setRow_heap _ _ _ _ _ _ n9) (HO.out _)
  · have H0 := hid5 h0
    have HF : Hid (mflt l day = chkW l) := by
      show _ = _
      unfold mflt
      rw [if_pos h0]
    have hne : ((chkW l).1 != 0) = true := by simpa using h0
    have bC := (Below.refl w1.heap.size w1).alloc (Nat.le_refl _) (.cells #[.int .i64 (chkW l).1, .int .i64 ((chkW l).2 : Int)] 26)
    have HBw := hid5 (hb1w.trans (bC.mono hb1w.size))
    have n9 := (bC.block _ (lt_of_block m2)).trans m2
    have m3 := heap_alloc_new w1 (.cells #[.int .i64 (chkW l).1, .int .i64 ((chkW l).2 : Int)] 26)
    clear bC hb1w m2 h0
    generalize hw2 : w1.alloc (.cells #[.int .i64 (chkW l).1, .int .i64 ((chkW l).2 : Int)] 26) = wB at *
    have HO : Hid (∀ W, Below w.heap.size w W → OutMe l day w (.returned (.tuple #[.slice none 0 0, .agg #[.int .i64 (chkW l).1, .int .i64 ((chkW l).2 : Int)]])) W) := fun W hW => by
      have hML : meanL l day = [] := by
        unfold meanL
        rw [HF.out, if_neg H0.out]
      refine ⟨_, by rw [HF.out], ?_, hW⟩
      rw [hML]
      exact rowM_nil _ _ _
    have z0 := (cell_of_row _ _ 0 _ _ _ m3).trans rfl
    have z1 := (cell_of_row _ _ 1 _ _ _ m3).trans rfl
    have y0 := (cell_of_row _ _ 0 _ _ _ n9).trans rfl
    have y1 := (cell_of_row _ _ 1 _ _ _ n9).trans rfl
    have x0 := frozen_of_row _ _ 0 _ _ n9
    have x1 := frozen_of_row _ _ 1 _ _ n9
    have hmm := heap_setCell_same _ _ 1 _ _ (.int .i64 ((chkW l).2 : Int)) (heap_setCell_same _ _ 0 _ _ (.int .i64 (chkW l).1) n9)
    have HBB := hid5 ((HBw.out.setCell (p := ⟨w.heap.size, 0, none⟩) (Nat.le_refl _) (.int .i64 (chkW l).1)).setCell (p := ⟨w.heap.size, 1, none⟩) (Nat.le_refl _) (.int .i64 ((chkW l).2 : Int)))
    have HMM := hid5 hmm
    clear hmm n9 m3
    clear HF H0
    generalize (chkW l).1 = er at *
    generalize (((chkW l).2 : Nat) : Int) = at0 at *
    go_wp2_with fail
    go_region
    go_wp2_with fail
    exact mall_post w.heap.size _ er at0 rfl rfl rfl HMM.out (HO.out _ (below_drewN HBB.out 1))
end Go.Proofs.YtpmobjgnmidolaaDoor

/- What code.meaning comes to: what a steady expression means. -/
namespace Go.Proofs.YtpmobjgnmidolaaDoor
open Go.RowKit Lx Vx Msk

theorem std_nms : ∀ (N : Nat) (e : Ex), SizeOf.sizeOf e ≤ N → stdE e = true → nms e = []
  | 0, e, hN, _ => by cases e; simp at hN
  | N + 1, e, hN, h => by
    rw [nms_eq, if_neg (stdE_kind h).2.2, List.nil_append]
    unfold nmsL
    rw [List.flatten_eq_nil_iff]
    intro x hx
    obtain ⟨k, hk, rfl⟩ := List.mem_map.1 hx
    exact std_nms N k (by have := kid_lt hk; omega) (stdE_kid h hk)
/-- What is right so deep, so many being counted, is right less deep, with fewer. -/
theorem shape_less : ∀ (N : Nat) (e : Ex) (deep n deep' n' : Nat), SizeOf.sizeOf e ≤ N → deep' ≤ deep → n' ≤ n → (shapeP e deep n).1 = 0 → (shapeP e deep' n').1 = 0
  | 0, e, _, _, _, _, hN, _, _, _ => by cases e; simp at hN
  | N + 1, e, deep, n, deep', n', hN, hd, hn, h => by
    have h0 := h
    rw [shapeP_eq] at h ⊢
    by_cases h1 : 600 < n + 1 ∨ 40 < deep
    · rw [if_pos h1] at h; cases h
    · rw [if_neg h1] at h
      rw [if_neg (by omega)]
      by_cases h2 : aloneP e ≠ 0
      · rw [if_pos h2] at h; exact absurd h h2
      · rw [if_neg h2] at h ⊢
        have key : ∀ (ks : List Ex) (m m' : Nat), (∀ k ∈ ks, SizeOf.sizeOf k ≤ N) → m' ≤ m → (shapeL ks (deep + 1) (0, m)).1 = 0 → (shapeL ks (deep' + 1) (0, m')).1 = 0 := by
          intro ks
          induction ks with
          | nil => intro m m' _ _ _; rfl
          | cons k ks ih =>
            intro m m' hks hm hz
            rw [shapeL_cons] at hz ⊢
            rw [if_neg (by simp)] at hz ⊢
            have hz1 : (shapeP k (deep + 1) m).1 = 0 := by
              by_cases hq : (shapeP k (deep + 1) m).1 = 0
              · exact hq
              · rw [shapeL_bad hq] at hz; exact absurd hz hq
            have hz2 := shape_less N k (deep + 1) m (deep' + 1) m' (hks k List.mem_cons_self) (by omega) hm hz1
            obtain ⟨a1, _⟩ := shape_nod _ k (deep + 1) m (Nat.le_refl _) hz1
            obtain ⟨a2, _⟩ := shape_nod _ k (deep' + 1) m' (Nat.le_refl _) hz2
            rw [show shapeP k (deep + 1) m = (0, m + nodE k) from Prod.ext hz1 a1] at hz
            rw [show shapeP k (deep' + 1) m' = (0, m' + nodE k) from Prod.ext hz2 a2]
            exact ih _ _ (fun k' hk' => hks k' (List.mem_cons_of_mem _ hk')) (by omega) hz
        exact key e.kids (n + 1) (n' + 1) (fun k hk => by have := kid_lt hk; omega) (by omega) h
/-- It is right by itself. -/
def Rt (e : Ex) : Prop := (shapeP e 1 0).1 = 0
theorem Rt.ok {e : Ex} (h : Rt e) : OKE e := ⟨1, 0, h⟩
theorem Rt.kid {e k : Ex} (h : Rt e) (hk : k ∈ e.kids) : Rt k := by
  unfold Rt at h
  rw [shapeP_eq, if_neg (by omega)] at h
  by_cases h2 : aloneP e ≠ 0
  · rw [if_pos h2] at h; exact absurd h h2
  · rw [if_neg h2] at h
    have key : ∀ (ks : List Ex) (m : Nat), (shapeL ks 2 (0, m)).1 = 0 → ∀ k ∈ ks, Rt k := by
      intro ks
      induction ks with
      | nil => intro m _ k hk; cases hk
      | cons k' ks ih =>
        intro m hz k hk
        rw [shapeL_cons, if_neg (by simp)] at hz
        have hz1 : (shapeP k' 2 m).1 = 0 := by
          by_cases hq : (shapeP k' 2 m).1 = 0
          · exact hq
          · rw [shapeL_bad hq] at hz; exact absurd hz hq
        rcases List.mem_cons.1 hk with rfl | hk
        · exact shape_less _ k 2 m 1 0 (Nat.le_refl _) (by omega) (Nat.zero_le _) hz1
        · obtain ⟨a1, _⟩ := shape_nod _ k' 2 m (Nat.le_refl _) hz1
          rw [show shapeP k' 2 m = (0, m + nodE k') from Prod.ext hz1 a1] at hz
          exact ih _ hz k hk
    exact key e.kids 1 h k hk
theorem Rt.nod {e : Ex} (h : Rt e) : nodE e ≤ 600 := by
  have := (shape_nod _ e 1 0 (Nat.le_refl _) h).2
  omega
/-- A rule that is steady is right, alone. -/
theorem one_chk {e : Ex} (h : Rt e) (hs : stdE e = true) : chkW [([97], e)] = (0, 0) := by
  have hn : nms e = [] := std_nms _ e (Nat.le_refl _) hs
  have hsp : spkR [([97], e)] ([97], e) = [] := by
    unfold spkR
    rw [show nms (([97], e) : Ru).2 = [] from hn]
    rfl
  have hi : ∀ {i : Nat}, i < [(([97], e) : Ru)].length → i = 0 := fun hi => by simp at hi; exact hi
  refine chk_d ?_ (fun i' h' => ?_) (fun i' h' => ?_) (fun i' h' => ?_)
  · unfold wrongR
    rw [if_neg (by simp)]
    have hr : ruleP ([97], e) = 0 := by
      unfold ruleP
      rw [if_neg (show ¬ Go.Proofs.YtpmobjgnmidolaaDoor.namedL [97] = false by decide)]
      exact h
    unfold wrongL
    rw [if_neg (by simpa using hr)]
    rfl
  · rw [hi h']
    simp [lk1, atP5, atF]
  · rw [hi h']
    show decide (-1 ∈ spkR _ _) = false
    rw [hsp]
    rfl
  · rw [hi h']
    have hl : leadS [([97], e)] 0 = [] := by
      unfold leadS
      show natsOf (spkR _ _) = []
      rw [hsp]
      rfl
    unfold lk3
    rw [show [(([97], e) : Ru)].length + 1 = 1 + 1 from rfl, fol, hl]
    rfl
theorem one_mean {e : Ex} (h : Rt e) (hs : stdE e = true) : mflt [([97], e)] 0 = (0, 0) ∧ meanL [([97], e)] 0 = [mnE e] := by
  have hc := one_chk h hs
  have hm : mflt [([97], e)] 0 = (0, 0) := by
    unfold mflt
    rw [hc, if_neg (by simp), if_neg (by omega)]
  refine ⟨hm, ?_⟩
  unfold meanL
  rw [hm, if_pos rfl]
  show [meanP _ _ _ 0] = _
  rw [meanP_eq (by rw [hc]) (show [(([97], e) : Ru)][0]? = some ([97], e) from rfl)]
  rw [stdE_val (show stdE (([97], e) : Ru).2 = true from hs)]
/-- The rule in memory. -/
theorem inR_one {w : World} {g : Nat} {e : Ex} {sl : Value} {d : Nat} (h : w.heap[g]? = some (.cells #[.string ⟨#[97]⟩, .int .i64 e.kind, .int .i64 e.a, .int .i64 e.b, .string ⟨e.name.toArray⟩, sl] 52 (0, 0))) (hn : e.name.length ≤ 9223372036854775807) (hk : KidsB (fun k => k < w.heap.size) d w sl e.kids) : InR w (.slice (some ⟨g, 0, none⟩) 1 1) [(([97], e), sl)] := by
  refine ⟨.inr ⟨g, 0, 1, rfl, by simp, fun j p hj => ?_⟩, by simp, fun p hp => ?_⟩
  · match j, hj with
    | 0, hj =>
      cases Option.some.inj hj
      exact ⟨(cell_of_row _ _ 0 _ _ _ h).trans rfl, (cell_of_row _ _ 1 _ _ _ h).trans rfl, (cell_of_row _ _ 2 _ _ _ h).trans rfl, (cell_of_row _ _ 3 _ _ _ h).trans rfl, (cell_of_row _ _ 4 _ _ _ h).trans rfl, (cell_of_row _ _ 5 _ _ _ h).trans rfl⟩
    | j + 1, hj => simp at hj
  · rw [List.mem_singleton] at hp
    subst hp
    exact ⟨by simp, hn, d, hk⟩
set_option maxRecDepth 100000 in
set_option maxHeartbeats 2000000 in
theorem meaning_any (d : Nat) (e : Ex) (sl : Value) (w : World) (hr : Rt e) (hs : stdE e = true) (hn : e.name.length ≤ 9223372036854775807) (hk : KidsB (fun k => k < w.heap.size) d w sl e.kids) :
    Calls Tryd.prog 46 #[exV e sl] w fun r w' => r = .returned (.agg (mv (mnE e))) ∧ Below w.heap.size w w' := by
  obtain ⟨p, c, hsl⟩ := hk.form
  subst hsl
  unfold exV
  have hz := mv_lit
  have bA := (Below.refl w.heap.size w).alloc (Nat.le_refl _) (.cells #[.int .i64 e.kind, .int .i64 e.a, .int .i64 e.b, .string ⟨e.name.toArray⟩, .slice p e.kids.length c] 50)
  have nA := heap_alloc_new w (.cells #[.int .i64 e.kind, .int .i64 e.a, .int .i64 e.b, .string ⟨e.name.toArray⟩, .slice p e.kids.length c] 50)
  generalize hwA : w.alloc (.cells #[.int .i64 e.kind, .int .i64 e.a, .int .i64 e.b, .string ⟨e.name.toArray⟩, .slice p e.kids.length c] 50) = wA at *
  have bB := (Below.refl wA.heap.size wA).alloc (Nat.le_refl _) (.cells (mv fun _ => false) 37)
  have nB := heap_alloc_new wA (.cells (mv fun _ => false) 37)
  have nA1 := (bB.block _ (lt_of_block nA)).trans nA
  obtain ⟨gB, hgB⟩ : ∃ q, wA.heap.size = q := ⟨_, rfl⟩
  generalize hwB : wA.alloc (.cells (mv fun _ => false) 37) = wB at *
  rw [hgB] at nB
  have bC := (Below.refl wB.heap.size wB).alloc (Nat.le_refl _) (.cells #[.string ⟨#[97]⟩, .int .i64 e.kind, .int .i64 e.a, .int .i64 e.b, .string ⟨e.name.toArray⟩, .slice p e.kids.length c] 52)
  have nC := heap_alloc_new wB (.cells #[.string ⟨#[97]⟩, .int .i64 e.kind, .int .i64 e.a, .int .i64 e.b, .string ⟨e.name.toArray⟩, .slice p e.kids.length c] 52)
  generalize hwC : wB.alloc (.cells #[.string ⟨#[97]⟩, .int .i64 e.kind, .int .i64 e.a, .int .i64 e.b, .string ⟨e.name.toArray⟩, .slice p e.kids.length c] 52) = wC at *
  have bAC : Below w.heap.size w wC := bA.trans ((bB.trans (bC.mono bB.size)).mono bA.size)
  have nB2 := (bC.block _ (lt_of_block nB)).trans nB
  have hlow : w.heap.size ≤ gB := by rw [← hgB]; exact bA.size
  have hin := inR_one (d := d) nC hn ((hk.kept fun g _ hl => bAC.block g hl).mono fun g hg => Nat.lt_of_lt_of_le hg bAC.size)
  have cM := mall_any _ _ 0 wC hin
  obtain ⟨e1, e2⟩ := one_mean hr hs
  unfold OutMe at cM
  simp only [List.map_cons, List.map_nil] at cM
  rw [e1, e2] at cM
  clear hin hk e1 e2 bA bB bC nA nC
  go_enter Tryd.func46, Tryd.ntmps46
  go_wp2_with (first
    | (refine wpList_load_row rfl 50 _ rfl _ rfl _ _ _ _ nA1 exprType rfl (by kernel_rfl) ?_))
  refine cM.mono ?_
  rintro r w3 ⟨v3, rfl, hrow, b3⟩
  obtain ⟨p3, c3, hv3, hb3, hrg⟩ := hrow
  subst hv3
  obtain ⟨g3, o3, hp3, hr3⟩ := hrg 0 (mnE e) rfl
  subst hp3
  have hbw := bAC.trans (b3.mono bAC.size)
  have nB3 := (b3.block _ (lt_of_block nB2)).trans nB2
  simp only [Nat.zero_mul, Nat.add_zero] at hr3
  have hl1 : [mnE e].length = 1 := rfl
  rw [hl1]
  generalize hz0 : ((0 : Nat) : Int) = iz
  have hz1 : iz = 0 := hz0.symm.trans rfl
  subst hz1
  clear hz0
  -- the fault
  have bD := (Below.refl w3.heap.size w3).alloc (Nat.le_refl _) (.cells #[.int .i64 0, .int .i64 0] 26)
  have nD := heap_alloc_new w3 (.cells #[.int .i64 0, .int .i64 0] 26)
  have nB4 := (bD.block _ (lt_of_block nB3)).trans nB3
  have hr4 : (w3.alloc (.cells #[.int .i64 0, .int .i64 0] 26)).rangeAt g3 o3 (mv (mnE e)).toList := World.rangeAt_alloc hr3 _
  have hbx := hbw.trans (bD.mono hbw.size)
  generalize hwD : w3.alloc (.cells #[.int .i64 0, .int .i64 0] 26) = wD at *
  have bE := below_setRow (Below.refl w3.heap.size wD) (Nat.le_refl _) #[.int .i64 0, .int .i64 0]
  have hgl := lt_of_block nB3
  have nB4e := (bE.block _ hgl).trans nB4
  have hr5 : (wD.setRow w3.heap.size #[.int .i64 0, .int .i64 0]).rangeAt g3 o3 (mv (mnE e)).toList := fun j u hj => (bE.cell (block_lt_of_cell (hr3 j u hj))).trans (hr4 j u hj)
  have hbe := hbx.trans (bE.mono (Nat.le_trans hbw.size (Nat.le_refl _)))
  generalize hwE : wD.setRow w3.heap.size #[.int .i64 0, .int .i64 0] = wE at *
  have nB5 := setRow_heap _ _ _ (mv (mnE e)) _ _ nB4e
  have hbz := below_setRow hbe hlow (mv (mnE e))
  clear cM hbw hbx bAC b3 bD nB2 nB3 hr3 hrg bE hr4 nB4 hbe
  go_wp2_with (first
    | (refine wpList_store_row rfl 26 _ _ rfl _ _ rfl rfl _ _ nD (by kernel_rfl) (by simp) (by simp [Value.oneCell']) ?_; rw [hwE])
    | (refine wpList_loadM rfl _ rfl g3 o3 rfl (mnE e) hr5 ?_)
    | (refine wpList_store_row rfl 37 _ _ rfl _ _ rfl rfl _ _ nB4e (maskSize _) (by simp [mv_size]) (mv_all _) ?_))
  refine bodyPost_ret (v := .agg (mv (mnE e))) ?_ rfl ⟨rfl, hbz⟩
  exact results_cell_row rfl _ _ gB _ _ _ _ rfl nB5 maskType rfl (maskSize _)
end Go.Proofs.YtpmobjgnmidolaaDoor

/- The writer, with the spans that its instructions point to; what it comes to. -/
namespace Go.Proofs.YtpmobjgnmidolaaDoor
open Go.RowKit Lx Vx Msk

/-- Spans in memory, at a block's head. -/
def SpIn (w : World) (v : Value) (l : List (Int × Int)) : Prop := (l = [] ∧ ∃ p c, v = .slice p 0 c) ∨ ∃ (g c : Nat) (cur : Array Value), v = .slice (some ⟨g, 0, none⟩) l.length c ∧ l.length < 9223372036854775808 ∧ w.heap[g]? = some (.cells cur 110 (0, 0)) ∧ cur.toList.take (l.length * 2) = flat l
theorem SpIn.nil (w : World) (p : Option Addr) (c : Nat) : SpIn w (.slice p 0 c) [] := .inl ⟨rfl, p, c, rfl⟩
theorem SpIn.form {w : World} {v : Value} {l : List (Int × Int)} (h : SpIn w v l) : ∃ p n c, v = .slice p n c := by
  rcases h with ⟨_, p, c, e⟩ | ⟨g, c, cur, e, _⟩
  · exact ⟨p, 0, c, e⟩
  · exact ⟨_, _, c, e⟩
theorem SpIn.of_own {w : World} {base : Nat} {v : Value} {l : List (Int × Int)} (h : w.ownsRow base 110 2 v l.length (flat l)) : SpIn w v l := by
  rcases h.2 with ⟨e, e2⟩ | ⟨g, cap, cur, e, hb, hg, hn, hc, hs, hx⟩
  · exact .inl ⟨List.eq_nil_of_length_eq_zero e2, none, 0, by rw [e]⟩
  · exact .inr ⟨g, cap, cur, e, by unfold maxLen at hc; omega, hg, hx⟩
/-- What a writer at gm leaves as it is: all but its own cells and rows of instructions. -/
def Fr (gm : Nat) (w w' : World) : Prop := ∀ (q : Nat) (c : Array Value) (T : TypeId), w.heap[q]? = some (.cells c T (0, 0)) → T ≠ 66 → q ≠ gm → w'.heap[q]? = some (.cells c T (0, 0))
theorem Fr.trans {gm : Nat} {w w' w'' : World} (h : Fr gm w w') (h' : Fr gm w' w'') : Fr gm w w'' := fun q c T hq hT hne => h' q c T (h q c T hq hT hne) hT hne
theorem Fr.below {gm : Nat} {w w' : World} (hb : Below w.heap.size w w') : Fr gm w w' := fun _ _ _ hq _ _ => (hb.block _ (lt_of_block hq)).trans hq
theorem SpIn.fr {gm : Nat} {w w' : World} {v : Value} {l : List (Int × Int)} (h : SpIn w v l) {cw : Array Value} (hg : w.heap[gm]? = some (.cells cw 54 (0, 0))) (hf : Fr gm w w') : SpIn w' v l := by
  rcases h with h | ⟨g, c, cur, e, hl, hb, hx⟩
  · exact .inl h
  · refine .inr ⟨g, c, cur, e, hl, hf g _ _ hb (by decide) (fun q => ?_), hx⟩
    subst q
    rw [hg] at hb
    injection hb with hb
    injection hb with _ h2 _
    exact absurd h2 (by decide)
theorem SpIn.below {w w' : World} {v : Value} {l : List (Int × Int)} (h : SpIn w v l) (hb : Below w.heap.size w w') : SpIn w' v l := by
  rcases h with h | ⟨g, c, cur, e, hl, hg, hx⟩
  · exact .inl h
  · exact .inr ⟨g, c, cur, e, hl, (hb.block _ (lt_of_block hg)).trans hg, hx⟩
structure WOk (w0 : World) (gm : Nat) (mp : Value) (S : List (In × Value)) (W : World) : Prop where
  st : WSt w0 gm mp S W
  sp : ∀ u ∈ S, SpIn W u.2 u.1.sp
theorem WOk.below {w0 W W' : World} {gm : Nat} {mp : Value} {S : List (In × Value)} (h : WOk w0 gm mp S W) (hb : Below W.heap.size W W') : WOk w0 gm mp S W' :=
  ⟨h.st.below hb, fun u hu => (h.sp u hu).below hb⟩
/-- What is written comes to. -/
def OutX (w0 : World) (gm : Nat) (mp : Value) (S : List (In × Value)) (c : List In) (W : World) (r : Ending) (W' : World) : Prop := r = .returned (.tuple #[]) ∧ ∃ S', S'.map (fun u => u.1) = c ∧ WOk w0 gm mp (S ++ S') W' ∧ Fr2 gm W W'
/-- What is of another type stays. -/
theorem Fr2.fr {w0 W W' : World} {gm : Nat} {mp : Value} {S : List (In × Value)} (h : WSt w0 gm mp S W) (hf : Fr2 gm W W') : Fr gm W W' := fun q c T hq hT hne => by
  obtain ⟨_, _, sv, hg, own⟩ := h
  refine (hf.blk q (lt_of_block hq) hne ?_).trans hq
  rw [rowB_at hg]
  exact fun e => own_neI own hq hT e.symm
theorem wput_ok {w0 W : World} {gm : Nat} {mp : Value} {S : List (In × Value)} (h : WOk w0 gm mp S W) (x : In) (v : Value) (hv : SpIn W v x.sp) (hS : S.length ≤ 1000) :
    Calls Tryd.prog 44 #[.pointer (some ⟨gm, 0, none⟩), .agg #[.int .i64 x.op, .int .i64 x.a, .int .i64 x.b, .int .i64 x.to, v]] W fun e W' => e = .returned (.tuple #[]) ∧ WOk w0 gm mp (S ++ [(x, v)]) W' ∧ Fr2 gm W W' := by
  obtain ⟨_, _, sv, hg, _⟩ := id h.st
  refine (wput_any w0 gm mp S (x, v) W h.st hS hv.form).mono fun e W' ⟨he, h1, h2, h3⟩ => ⟨he, ⟨h1, fun u hu => ?_⟩, h3⟩
  rcases List.mem_append.1 hu with hu | hu
  · exact (h.sp u hu).fr hg h2
  · rw [List.mem_singleton] at hu
    subst hu
    exact hv.fr hg h2
/-- The contract of an expression. -/
def ExprC (w0 : World) (gm : Nat) (mp : Value) (l : List Ru) (k : Ex) (sk : Value) : Prop := ∀ (S : List (In × Value)) (W : World), WOk w0 gm mp S W → S.length + nodE k ≤ 700 → Calls Tryd.prog 15 #[.pointer (some ⟨gm, 0, none⟩), exV k sk] W (OutX w0 gm mp S (codeE (atP5 l) k S.length) W)
theorem flatI_append (S S' : List (In × Value)) : flatI (S ++ S') = flatI S ++ flatI S' := by unfold flatI; rw [List.flatMap_append]
theorem flatI_set (S S' : List (In × Value)) (x : In) (v : Value) (t : Int) : (flatI (S ++ ((x, v) :: S'))).set (S.length * 5 + 3) (.int .i64 t) = flatI (S ++ (({ x with to := t }, v) :: S')) := by
  rw [flatI_append, flatI_append, List.set_append_right _ _ (by rw [flatI_len]; omega), flatI_len, Nat.add_sub_cancel_left]
  rfl
/-- Where a guard leads is written. -/
theorem own_to {W : World} {base g n c : Nat} {S S' : List (In × Value)} {x : In} {v : Value} (t : Int) (h : W.ownsRow base 66 5 (.slice (some ⟨g, 0, none⟩) n c) n (flatI (S ++ ((x, v) :: S')))) : (W.setCell ⟨g, S.length * 5 + 3, none⟩ (.int .i64 t)).ownsRow base 66 5 (.slice (some ⟨g, 0, none⟩) n c) n (flatI (S ++ (({ x with to := t }, v) :: S'))) := by
  obtain ⟨h1, h2⟩ := h
  rcases h2 with ⟨e, _⟩ | ⟨g', cap, cur, e, hb, hg, hn, hc, hs, hx⟩
  · cases e
  · injection e with e1 _ e3
    injection e1 with e1
    injection e1 with e1 _ _
    subst e1 e3
    refine ⟨by rw [← flatI_set, List.length_set]; exact h1, .inr ⟨g, c, cur.setIfInBounds (S.length * 5 + 3) (.int .i64 t), rfl, hb, heap_setCell_same W g _ _ _ _ hg, hn, hc, by rw [Array.size_setIfInBounds]; exact hs, ?_⟩⟩
    rw [Array.toList_setIfInBounds, List.take_set, hx, flatI_set]
theorem WOk.lt {w0 W : World} {gm : Nat} {mp : Value} {S : List (In × Value)} (h : WOk w0 gm mp S W) : gm < W.heap.size := by
  obtain ⟨_, _, sv, hg, _⟩ := h.st
  exact lt_of_block hg
end Go.Proofs.YtpmobjgnmidolaaDoor

/- The code of rules in memory, while it is measured. -/
namespace Go.Proofs.YtpmobjgnmidolaaDoor
open Go.RowKit Lx Vx Msk

def upI (f : Nat → Int) (i : Nat) (v : Int) : Nat → Int := fun k => if k = i then v else f k
theorem upI_at (f : Nat → Int) (i : Nat) (v : Int) : upI f i v i = v := by unfold upI; rw [if_pos rfl]
theorem upI_ne (f : Nat → Int) {i k : Nat} (v : Int) (h : k ≠ i) : upI f i v k = f k := by unfold upI; rw [if_neg h]
/-- A row of code: instructions, heights, steps. -/
def MeSt (go n : Nat) (sv : Nat → Value) (H T : Nat → Int) (w : World) : Prop := ∃ cur : Array Value, w.heap[go]? = some (.cells cur 42 (0, 0)) ∧ cur.size = n * 3 ∧ ∀ i, i < n → cur[i * 3]? = some (sv i) ∧ cur[i * 3 + 1]? = some (.int .i64 (H i)) ∧ cur[i * 3 + 2]? = some (.int .i64 (T i))
section
variable {go n : Nat} {sv : Nat → Value} {H T : Nat → Int} {w w' : World}
theorem MeSt.cells (h : MeSt go n sv H T w) {i : Nat} (hi : i < n) : w.cell? ⟨go, i * 3, none⟩ = some (sv i) ∧ w.cell? ⟨go, i * 3 + 1, none⟩ = some (.int .i64 (H i)) ∧ w.cell? ⟨go, i * 3 + 2, none⟩ = some (.int .i64 (T i)) ∧ w.frozen? ⟨go, i * 3 + 1, none⟩ = false ∧ w.frozen? ⟨go, i * 3 + 2, none⟩ = false := by
  obtain ⟨cur, hg, _, hc⟩ := h
  obtain ⟨c0, c1, c2⟩ := hc i hi
  exact ⟨(cell_of_row _ _ _ _ _ _ hg).trans c0, (cell_of_row _ _ _ _ _ _ hg).trans c1, (cell_of_row _ _ _ _ _ _ hg).trans c2, frozen_of_row _ _ _ _ _ hg, frozen_of_row _ _ _ _ _ hg⟩
theorem MeSt.lt (h : MeSt go n sv H T w) : go < w.heap.size := by
  obtain ⟨cur, hg, _⟩ := h
  exact lt_of_block hg
theorem MeSt.same (h : MeSt go n sv H T w) (e : w'.heap[go]? = w.heap[go]?) : MeSt go n sv H T w' := by
  obtain ⟨cur, hg, r⟩ := h
  exact ⟨cur, e.trans hg, r⟩
theorem MeSt.below (h : MeSt go n sv H T w) (hb : Below w.heap.size w w') : MeSt go n sv H T w' := h.same (hb.block _ h.lt)
theorem MeSt.setH (h : MeSt go n sv H T w) {i : Nat} (v : Int) (hi : i < n) : MeSt go n sv (upI H i v) T (w.setCell ⟨go, i * 3 + 1, none⟩ (.int .i64 v)) := by
  obtain ⟨cur, hg, hs, hc⟩ := h
  refine ⟨_, heap_setCell_same w go (i * 3 + 1) _ _ _ hg, by rw [Array.size_setIfInBounds]; exact hs, fun k hk => ?_⟩
  obtain ⟨c0, c1, c2⟩ := hc k hk
  refine ⟨?_, ?_, ?_⟩
  · rw [Array.getElem?_setIfInBounds_ne (by omega)]; exact c0
  · by_cases e : k = i
    · subst e
      rw [upI_at, Array.getElem?_setIfInBounds_self_of_lt (by omega)]
    · rw [upI_ne _ _ e, Array.getElem?_setIfInBounds_ne (by omega)]; exact c1
  · rw [Array.getElem?_setIfInBounds_ne (by omega)]; exact c2
theorem MeSt.setT (h : MeSt go n sv H T w) {i : Nat} (v : Int) (hi : i < n) : MeSt go n sv H (upI T i v) (w.setCell ⟨go, i * 3 + 2, none⟩ (.int .i64 v)) := by
  obtain ⟨cur, hg, hs, hc⟩ := h
  refine ⟨_, heap_setCell_same w go (i * 3 + 2) _ _ _ hg, by rw [Array.size_setIfInBounds]; exact hs, fun k hk => ?_⟩
  obtain ⟨c0, c1, c2⟩ := hc k hk
  refine ⟨?_, ?_, ?_⟩
  · rw [Array.getElem?_setIfInBounds_ne (by omega)]; exact c0
  · rw [Array.getElem?_setIfInBounds_ne (by omega)]; exact c1
  · by_cases e : k = i
    · subst e
      rw [upI_at, Array.getElem?_setIfInBounds_self_of_lt (by omega)]
    · rw [upI_ne _ _ e, Array.getElem?_setIfInBounds_ne (by omega)]; exact c2
end
theorem kept_set (w : World) (g i : Nat) (v : Value) : Kept g w (w.setCell ⟨g, i, none⟩ v) := Kept.set w g i v
/-- A rule's instructions, in a row of their own. -/
def InsQ (w : World) (v : Value) (S : List (In × Value)) : Prop := w.ownsRow 0 66 5 v S.length (flatI S)
theorem InsQ.below {w w' : World} {v : Value} {S : List (In × Value)} (h : InsQ w v S) (hb : Below w.heap.size w w') : InsQ w' v S := own_below h hb
theorem InsQ.kept {w w' : World} {v : Value} {S : List (In × Value)} {go n : Nat} {sv : Nat → Value} {H T : Nat → Int} (h : InsQ w v S) (hm : MeSt go n sv H T w) (hk : Kept go w w') : InsQ w' v S := by
  obtain ⟨cur, hg, _⟩ := hm
  exact World.ownsRow.kept h hk (.inr fun e => own_neI h hg (by decide) e.symm)
theorem InsQ.form {w : World} {v : Value} {S : List (In × Value)} (h : InsQ w v S) (h1 : 1 ≤ S.length) : ∃ g c, v = .slice (some ⟨g, 0, none⟩) S.length c ∧ ∀ (j : Nat) (u : In × Value), S[j]? = some u →
    w.cell? ⟨g, j * 5, none⟩ = some (.int .i64 u.1.op) ∧ w.cell? ⟨g, j * 5 + 1, none⟩ = some (.int .i64 u.1.a) ∧ w.cell? ⟨g, j * 5 + 2, none⟩ = some (.int .i64 u.1.b) ∧ w.cell? ⟨g, j * 5 + 3, none⟩ = some (.int .i64 u.1.to) ∧ w.cell? ⟨g, j * 5 + 4, none⟩ = some u.2 := by
  rcases h.2 with ⟨_, e⟩ | ⟨g, cap, cur, e, _, hg, _, _, _, hx⟩
  · omega
  · refine ⟨g, cap, e, fun j u hj => ?_⟩
    have hjl := (List.getElem?_eq_some_iff.1 hj).1
    have key : ∀ (i : Nat) (v : Value), i < 5 → (iv u).toList[i]? = some v → w.cell? ⟨g, j * 5 + i, none⟩ = some v := fun i v hi hv => by
      refine (cell_of_row _ _ _ _ _ _ hg).trans ?_
      have e1 : (cur.toList.take (S.length * 5))[j * 5 + i]? = (flatI S)[j * 5 + i]? := by rw [hx]
      rw [List.getElem?_take_of_lt (by omega)] at e1
      rw [← Array.getElem?_toList, e1]
      have e2 : S = S.take j ++ (u :: S.drop (j + 1)) := by
        conv => lhs; rw [← List.take_append_drop j S]
        congr 1
        rw [List.drop_eq_getElem_cons hjl, (List.getElem?_eq_some_iff.1 hj).2]
      rw [e2, flatI_append, List.getElem?_append_right (by rw [flatI_len, List.length_take]; omega), flatI_len, List.length_take, Nat.min_eq_left (by omega), Nat.add_sub_cancel_left]
      show ((iv u).toList ++ flatI (S.drop (j + 1)))[i]? = _
      rw [List.getElem?_append_left (by rw [ivl_len]; exact hi)]
      exact hv
    exact ⟨key 0 _ (by omega) rfl, key 1 _ (by omega) rfl, key 2 _ (by omega) rfl, key 3 _ (by omega) rfl, key 4 _ (by omega) rfl⟩
/-- It is measured; or it is not yet. -/
def Me (mea : Nat → Int × Int) (H T : Nat → Int) (k : Nat) : Prop := H k = (mea k).1 ∧ T k = (mea k).2
def Okm (mea : Nat → Int × Int) (H T : Nat → Int) (k : Nat) : Prop := (H k = 0 ∧ T k = 0) ∨ Me mea H T k
/-- What became of the others while one was measured. -/
def Rest (mea : Nat → Int × Int) (ρ : Nat → Nat) (n i : Nat) (H0 T0 H T : Nat → Int) : Prop := ∀ k, k < n → k ≠ i → (ρ k ≤ ρ i → Okm mea H T k ∧ (Me mea H0 T0 k → Me mea H T k)) ∧ (ρ i < ρ k → H k = H0 k ∧ T k = T0 k)
section
variable {mea : Nat → Int × Int} {ρ : Nat → Nat} {n i k0 : Nat} {H0 T0 H T H' T' : Nat → Int}
theorem Rest.refl (h : ∀ k, k < n → ρ k ≤ ρ i → Okm mea H0 T0 k) : Rest mea ρ n i H0 T0 H0 T0 := fun k hk _ => ⟨fun hr => ⟨h k hk hr, id⟩, fun _ => ⟨rfl, rfl⟩⟩
theorem Rest.setH (h : Rest mea ρ n i H0 T0 H T) (v : Int) : Rest mea ρ n i H0 T0 (upI H i v) T := fun k hk hne => by
  have := h k hk hne
  unfold Okm Me at this ⊢
  rw [upI_ne _ _ hne]
  exact this
theorem Rest.setT (h : Rest mea ρ n i H0 T0 H T) (v : Int) : Rest mea ρ n i H0 T0 H (upI T i v) := fun k hk hne => by
  have := h k hk hne
  unfold Okm Me at this ⊢
  rw [upI_ne _ _ hne]
  exact this
theorem Rest.pre (h : Rest mea ρ n i H0 T0 H T) (hr : ρ k0 < ρ i) : ∀ k, k < n → ρ k ≤ ρ k0 → Okm mea H T k := fun k hk hk0 => ((h k hk (fun e => by subst e; omega)).1 (by omega)).1
theorem Rest.call (h : Rest mea ρ n i H0 T0 H T) (hr : ρ k0 < ρ i) (hi : i < n) (hm : Me mea H' T' k0) (h' : Rest mea ρ n k0 H T H' T') : Rest mea ρ n i H0 T0 H' T' ∧ H' i = H i ∧ T' i = T i := by
  refine ⟨fun k hk hne => ⟨fun hri => ?_, fun hri => ?_⟩, (h' i hi (fun e => by subst e; omega)).2 hr⟩
  · by_cases e : k = k0
    · subst e
      exact ⟨.inr hm, fun _ => hm⟩
    · have a := (h k hk hne).1 hri
      by_cases hle : ρ k ≤ ρ k0
      · have b := (h' k hk e).1 hle
        exact ⟨b.1, fun q => b.2 (a.2 q)⟩
      · have b := (h' k hk e).2 (by omega)
        unfold Okm Me at a ⊢
        rw [b.1, b.2]
        exact a
  · have e : k ≠ k0 := fun e => by subst e; omega
    have a := (h k hk hne).2 hri
    have b := (h' k hk e).2 (by omega)
    exact ⟨b.1.trans a.1, b.2.trans a.2⟩
end
/-- What measure comes to. -/
def OutM (mea : Nat → Int × Int) (ρ : Nat → Nat) (go n : Nat) (sv : Nat → Value) (i : Nat) (H0 T0 : Nat → Int) (w : World) (r : Ending) (w' : World) : Prop := r = .returned (.agg #[sv i, .int .i64 (mea i).1, .int .i64 (mea i).2]) ∧ ∃ H' T', MeSt go n sv H' T' w' ∧ Me mea H' T' i ∧ Rest mea ρ n i H0 T0 H' T' ∧ Kept go w w'
theorem codeType7 : Tryd.prog.underlying 42 = some (.struct (Tryd.prog.fieldsOf 42)) := by kernel_rfl
end Go.Proofs.YtpmobjgnmidolaaDoor
