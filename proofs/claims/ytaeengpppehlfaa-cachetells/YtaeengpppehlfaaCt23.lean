/- The law VmBound walked. Written by genvmo.py. -/
import Derived.Test.YtaeengpppehlfaaCt14
import Derived.Test.YtaeengpppehlfaaCt19
import Derived.Laws.StructEq
import Derived.Test.YtaeengpppehlfaaCt22
import Derived.Test.YtaeengpppehlfaaCt04
import Derived.Lib.SmallJoins
import Derived.OpenShut
namespace Go.Proofs.Ytaeengpppehlfaa
open Go.RowKit Msk Vx

theorem eql_same9 (f : Nat → Bool) (w : World) : (binOp .eql 25 (.agg (mv f)) (.agg (mv f))).run Try.prog w = .ok (.bool true) w := by
  rw [eql_mask, eqm_true fun _ _ => rfl]
theorem eqi_same9 (f : Nat → Bool) (w : World) : (Op.equalIn 10000 25 (.agg (mv f)) (.agg (mv f))).run Try.prog w = .ok true w := by
  rw [eq_mask, eqm_true fun _ _ => rfl]
theorem both_self {f : M} (h : dayM f) : mv (fun i => (f i && f i) && decide (i < 1440)) = mv f := mv_ext fun i _ => by
  by_cases hi : i < 1440
  · simp [hi]
  · simp [hi, h i (by omega)]
/-- Where nothing is wrong with a run. -/
theorem runE_ok {cs : List Cd} {rule day : Int} (h : (runE cs rule day).1 = 0) : Right cs ∧ wrongV cs = (0, 0) ∧ (0 ≤ rule ∧ rule < cs.length) ∧ (0 ≤ day ∧ day < 146097) := by
  unfold runE at h
  by_cases h1 : (wrongV cs).1 = 0
  · rw [if_neg (fun e => e h1)] at h
    have hw2 : wrongV cs = (0, 0) := by
      unfold wrongV at h1 ⊢
      by_cases q1 : 40 < cs.length
      · rw [if_pos q1] at h1; simp at h1
      · rw [if_neg q1] at h1 ⊢
        by_cases q2 : (firstF (fun i => aloneE (cs.getD i cd0) cs.length) cs.length 0).1 ≠ 0
        · rw [if_pos q2] at h1; exact absurd h1 q2
        · rw [if_neg q2] at h1 ⊢
          exact (firstF_ok _ _ h1).1
    by_cases h2 : 0 ≤ rule ∧ rule < cs.length
    · rw [if_neg (fun e => e h2)] at h
      by_cases h3 : 0 ≤ day ∧ day < 146097
      · exact ⟨wrong_right h1, hw2, h2, h3⟩
      · rw [if_pos h3] at h; simp at h
    · rw [if_pos h2] at h; simp at h
  · rw [if_pos h1] at h; exact absurd h h1
set_option maxRecDepth 100000 in
set_option maxHeartbeats 4000000 in
theorem vbound_walk (cs : List Cd) (lv : Value) (rule day : Int) (w : World) (h : InV w lv cs) :
    Calls Try.prog 4 #[lv, .int .i64 rule, .int .i64 day] w fun e w' => e = .returned (.bool true) ∧ Below w.heap.size w w' := by
  have c0 := alive8_any w
  have HIN := hidv h
  obtain ⟨p, cp, elv, hlen, hcc⟩ := h.form
  have hz := mv_lit
  obtain ⟨er, her⟩ : ∃ q, (runE cs rule day).1 = q := ⟨_, rfl⟩
  obtain ⟨at_, hat⟩ : ∃ q : Int, ((runE cs rule day).2 : Int) = q := ⟨_, rfl⟩
  obtain ⟨f, hf⟩ : ∃ q, runM cs rule day = q := ⟨_, rfl⟩
  obtain ⟨n, hn⟩ : ∃ q, runN cs rule day = q := ⟨_, rfl⟩
  have HRN : Hid (∀ W, Below w.heap.size w W → Calls Try.prog 9 #[lv, .int .i64 rule, .int .i64 day] W (OutR f (n : Int) er at_ W)) := fun W hW => by
    have := vrun_any cs lv rule day W (h.below hW)
    rw [her, hat, hf, hn] at this
    exact this
  have HWR0 : Hid (er = 0 → ∀ W, Below w.heap.size w W → Calls Try.prog 11 #[lv] W fun e w' => e = .returned (.agg #[.int .i64 0, .int .i64 0]) ∧ Below W.heap.size W w') := fun e0 W hW => by
    have := vwrong_any cs lv W (h.below hW)
    rw [(runE_ok (her.trans e0)).2.1] at this
    exact this
  have HOK : Hid (er = 0 → (∃ ri : Nat, rule = (ri : Int) ∧ ri < cs.length ∧ ∃ u, cs[ri]? = some u ∧ (n : Int) ≤ u.steps) ∧ 1 ≤ n ∧ dayM f) := fun e0 => by
    obtain ⟨q1, _, q3, _⟩ := runE_ok (her.trans e0)
    have e1 : f = (evV (wkB9 day) day cs (cs.length + 1) rule.toNat).1 := by rw [← hf]; exact if_pos (her.trans e0)
    have e2 : n = (evV (wkB9 day) day cs (cs.length + 1) rule.toNat).2 := by rw [← hn]; exact if_pos (her.trans e0)
    have hr : rule.toNat < cs.length := by omega
    have hu : cs[rule.toNat]? = some cs[rule.toNat] := List.getElem?_eq_getElem hr
    have := q1.run (wk := wkB9 day) (day := day) (cs.length + 1) _ _ hu (by have := rk_le (callE cs) cs.length rule.toNat; omega)
    rw [← e2] at this
    refine ⟨⟨rule.toNat, by omega, hr, _, hu, this.2.1⟩, this.1, ?_⟩
    rw [e1]
    exact dayM_ev _ _
  have HNO : Hid (er ≠ 0 → n = 0 ∧ f = fun _ => false) := fun e0 => ⟨by rw [← hn]; exact if_neg (fun e => e0 (her.symm.trans e)), by rw [← hf]; exact if_neg (fun e => e0 (her.symm.trans e))⟩
  have HCC := hidv hcc
  clear h hcc her hat hf hn
  subst elv
  go_enter Try.func4, Try.ntmps4
  go_wp2_with fail
  refine c0.mono ?_
  rintro e w1 ⟨rfl, b1⟩
  have c1 := HRN.out w1 b1
  clear c0 HRN
  go_wp2_with fail
  refine c1.mono ?_
  rintro e w3 ⟨rfl, b3⟩
  have bb5 := b1.trans (b3.mono b1.size)
  clear c1 b3 b1
  have bA : Below w3.heap.size w3 ((w3.alloc (.cells (mv fun _ => false) 25)).alloc (.cells #[.int .i64 0, .int .i64 0] 28)) := ((Below.refl _ _).alloc (Nat.le_refl _) _).alloc (by simp) _
  have nM0 : ((w3.alloc (.cells (mv fun _ => false) 25)).alloc (.cells #[.int .i64 0, .int .i64 0] 28)).heap[w3.heap.size]? = some (.cells (mv fun _ => false) 25 (0, 0)) := by (repeat (first | refine blk_old _ _ _ (by simp only [size_alloc]; omega) ?_ | exact blk_new _ _ _ (by first | rfl | simp only [size_alloc])))
  have nF0 : ((w3.alloc (.cells (mv fun _ => false) 25)).alloc (.cells #[.int .i64 0, .int .i64 0] 28)).heap[w3.heap.size + 1]? = some (.cells #[.int .i64 0, .int .i64 0] 28 (0, 0)) := by (repeat (first | refine blk_old _ _ _ (by simp only [size_alloc]; omega) ?_ | exact blk_new _ _ _ (by first | rfl | simp only [size_alloc])))
  generalize hwA : (w3.alloc (.cells (mv fun _ => false) 25)).alloc (.cells #[.int .i64 0, .int .i64 0] 28) = wA at *
  have nM1 := setRow_heap _ _ _ (mv f) _ _ nM0
  have nF1 := (setRow_other wA w3.heap.size (w3.heap.size + 1) (mv f) (by omega)).trans nF0
  have bB := below_setRow bA (Nat.le_refl _) (mv f)
  generalize hwB : wA.setRow w3.heap.size (mv f) = wB at *
  have nM2 := (setRow_other wB (w3.heap.size + 1) w3.heap.size #[.int .i64 er, .int .i64 at_] (by omega)).trans nM1
  have nF2 := setRow_heap _ _ _ #[.int .i64 er, .int .i64 at_] _ _ nF1
  have bC := below_setRow bB (by omega : w3.heap.size ≤ w3.heap.size + 1) #[.int .i64 er, .int .i64 at_]
  generalize hwC : wB.setRow (w3.heap.size + 1) #[.int .i64 er, .int .i64 at_] = wC at *
  have zF := (cell_of_row _ _ 0 _ _ _ nF2).trans rfl
  have bb6 := bb5.trans (bC.mono bb5.size)
  clear bb5 bA bB bC nF2
  by_cases he : er = 0
  · subst he
    obtain ⟨⟨ri, rfl, hri, u, hu, hst⟩, hn1, hdf⟩ := HOK.out rfl
    obtain ⟨sv, _, g, o, hpe, _, _, e2⟩ := HCC.out ri u hu
    subst hpe
    have HWR : Hid (∀ W, Below wC.heap.size wC W → Calls Try.prog 11 #[.slice (some ⟨g, o, none⟩) cs.length cp] W fun e w' => e = .returned (.agg #[.int .i64 0, .int .i64 0]) ∧ Below W.heap.size W w') := fun W hW => HWR0.out rfl W (bb6.trans (hW.mono bb6.size))
    have HBO : Hid (∀ W, Calls Try.prog 14 #[.agg (mv f), .agg (mv f)] W fun e w' => e = .returned (.agg (mv f)) ∧ Below W.heap.size W w') := fun W => by
      have := both_any f f W
      rw [both_self hdf] at this
      exact this
    have HEQ : Hid (∀ W, (Op.equalIn 10000 25 (.agg (mv f)) (.agg (mv f))).run Try.prog W = .ok true W) := fun W => eqi_same9 f W
    have e2w := (bb6.cell (block_lt_of_cell e2)).trans e2
    have hr0 : (0 : Int) ≤ (ri : Int) := by omega
    have hr1 : (ri : Int) < (cs.length : Int) := by omega
    have hn1' : (1 : Int) ≤ (n : Int) := by omega
    obtain ⟨st, hst'⟩ : ∃ q, u.steps = q := ⟨_, rfl⟩
    rw [hst'] at e2w hst
    clear HOK HNO HCC HIN HWR0 hst' hdf e2 hu
    have e2 := e2w
    clear e2w
    go_wp2_with (first
      | (refine wpList_store_row rfl 25 _ _ rfl _ _ rfl rfl _ _ nM0 (maskSize _) (by simp [mv_size]) (mv_all _) ?_)
      | (refine wpList_store_row rfl 28 _ _ rfl _ _ rfl rfl _ _ nF1 (by kernel_rfl) (by simp) (by simp [Value.oneCell']) ?_))
    obtain ⟨rr, hrr⟩ : ∃ b, w3.heap.size = b := ⟨_, rfl⟩
    rw [hrr] at nM2
    simp only [hrr]
    clear hwA hwB hwC nM0 nF0 nM1 nF1 zF hrr
    refine wp_region_JL (fun _ W => Below wC.heap.size wC W) (fun L _ => (Below.refl _ _).drew) (by kernel_rfl) (by kernel_rfl) (by kernel_rfl) (by kernel_rfl) [(some 30, .slice (some ⟨g, o, none⟩) cs.length cp), (some 31, .agg #[.int .i64 0, .int .i64 0]), (some 32, .int .i64 0), (some 33, .bool true), (some 34, .bool true), (some 35, .int .i64 (n : Int)), (some 36, .bool true), (some 37, .bool true), (some 38, .bool true), (some 39, .int .i64 (n : Int)), (some 40, .slice (some ⟨g, o, none⟩) cs.length cp), (some 41, .int .i64 (ri : Int)), (some 42, .pointer (some ⟨g, o + ri * 3, none⟩)), (some 43, .pointer (some ⟨g, o + ri * 3 + 2, none⟩)), (some 44, .int .i64 st), (some 45, .bool true), (some 46, .bool true), (some 47, .bool true), (some 48, .agg (mv f)), (some 49, .agg (mv f)), (some 50, .agg (mv f)), (some 51, .agg (mv f)), (some 52, .bool true), (some 53, .bool true), (some 6, .bool true)] [(30, .slice (some ⟨g, o, none⟩) cs.length cp), (31, .agg #[.int .i64 0, .int .i64 0]), (32, .int .i64 0), (33, .bool true), (34, .bool true), (35, .int .i64 (n : Int)), (36, .bool true), (37, .bool true), (38, .bool true), (39, .int .i64 (n : Int)), (40, .slice (some ⟨g, o, none⟩) cs.length cp), (41, .int .i64 (ri : Int)), (42, .pointer (some ⟨g, o + ri * 3, none⟩)), (43, .pointer (some ⟨g, o + ri * 3 + 2, none⟩)), (44, .int .i64 st), (45, .bool true), (46, .bool true), (47, .bool true), (48, .agg (mv f)), (49, .agg (mv f)), (50, .agg (mv f)), (51, .agg (mv f)), (52, .bool true), (53, .bool true), (6, .bool true)] (by kernel_rfl) (by kernel_rfl) (by kernel_rfl) ?_ ?_
    · intro i' d v o' L A W2 ho hv hLi hdep hc hJ hkept hhas
      match i', ho, hv, hLi with
      | 0, ho, hv, hLi =>
        cases Option.some.inj ho
        cases Option.some.inj hv
        have h0 : A.tmps[0]?.getD undef = .slice (some ⟨g, o, none⟩) cs.length cp := (gd A 0).trans (hkept 0 (by kernel_rfl))
        refine wpOp_step rfl (fun K hK => ?_)
        go_simp
        exact hK _ _ ⟨rfl, hJ⟩
      | 1, ho, hv, hLi =>
        cases Option.some.inj ho
        cases Option.some.inj hv
        have h30 : A.tmps[30]?.getD undef = .slice (some ⟨g, o, none⟩) cs.length cp := (gd A 30).trans (hhas 0 30 _ rfl (hdep ⟨0, .data⟩ (by simp) rfl))
        refine wpOp_step rfl (fun K hK => ?_)
        go_simp
        refine (HWR.out W2 hJ).mono ?_
        rintro r' W' ⟨rfl, hb'⟩
        exact hK _ _ ⟨rfl, hJ.trans (hb'.mono hJ.size)⟩
      | 2, ho, hv, hLi =>
        cases Option.some.inj ho
        cases Option.some.inj hv
        have h31 : A.tmps[31]?.getD undef = .agg #[.int .i64 0, .int .i64 0] := (gd A 31).trans (hhas 1 31 _ rfl (hdep ⟨1, .data⟩ (by simp) rfl))
        refine wpOp_step rfl (fun K hK => ?_)
        go_simp
        exact hK _ _ ⟨rfl, hJ⟩
      | 3, ho, hv, hLi =>
        cases Option.some.inj ho
        cases Option.some.inj hv
        have h32 : A.tmps[32]?.getD undef = .int .i64 0 := (gd A 32).trans (hhas 2 32 _ rfl (hdep ⟨2, .data⟩ (by simp) rfl))
        refine wpOp_step rfl (fun K hK => ?_)
        go_simp
        exact hK _ _ ⟨rfl, hJ⟩
      | 4, ho, hv, hLi =>
        cases Option.some.inj ho
        cases Option.some.inj hv
        have h33 : A.tmps[33]?.getD undef = .bool true := (gd A 33).trans (hhas 3 33 _ rfl (hdep ⟨3, .data⟩ (by simp) rfl))
        refine wpOp_step rfl (fun K hK => ?_)
        go_simp
        exact hK _ _ ⟨rfl, hJ⟩
      | 5, ho, hv, hLi =>
        cases Option.some.inj ho
        cases Option.some.inj hv
        have hG : A.tmps[34]? = some (.bool true) := gdb (hhas 4 34 _ rfl (hdep ⟨4, .guard⟩ (by simp) rfl))
        have h8 : A.tmps[8]?.getD undef = .int .i64 (n : Int) := (gd A 8).trans (hkept 8 (by kernel_rfl))
        refine wpOp_step rfl (fun K hK => ?_)
        go_simp
        exact hK _ _ ⟨rfl, hJ⟩
      | 6, ho, hv, hLi =>
        cases Option.some.inj ho
        cases Option.some.inj hv
        have hG : A.tmps[34]? = some (.bool true) := gdb (hhas 4 34 _ rfl (hdep ⟨4, .guard⟩ (by simp) rfl))
        have h35 : A.tmps[35]?.getD undef = .int .i64 (n : Int) := (gd A 35).trans (hhas 5 35 _ rfl (hdep ⟨5, .data⟩ (by simp) rfl))
        refine wpOp_step rfl (fun K hK => ?_)
        go_simp
        exact hK _ _ ⟨rfl, hJ⟩
      | 7, ho, hv, hLi =>
        cases Option.some.inj ho
        cases Option.some.inj hv
        have h34 : A.tmps[34]?.getD undef = .bool true := (gd A 34).trans (hhas 4 34 _ rfl (hdep ⟨4, .data⟩ (by simp) rfl))
        have h36 : A.tmps[36]?.getD undef = .bool true := (gd A 36).trans (hhas 6 36 _ rfl (hdep ⟨6, .data⟩ (by simp) rfl))
        refine wpOp_step rfl (fun K hK => ?_)
        go_simp
        exact hK _ _ ⟨rfl, hJ⟩
      | 8, ho, hv, hLi =>
        cases Option.some.inj ho
        cases Option.some.inj hv
        have h37 : A.tmps[37]?.getD undef = .bool true := (gd A 37).trans (hhas 7 37 _ rfl (hdep ⟨7, .data⟩ (by simp) rfl))
        refine wpOp_step rfl (fun K hK => ?_)
        go_simp
        exact hK _ _ ⟨rfl, hJ⟩
      | 9, ho, hv, hLi =>
        cases Option.some.inj ho
        cases Option.some.inj hv
        have hG : A.tmps[38]? = some (.bool true) := gdb (hhas 8 38 _ rfl (hdep ⟨8, .guard⟩ (by simp) rfl))
        have h8 : A.tmps[8]?.getD undef = .int .i64 (n : Int) := (gd A 8).trans (hkept 8 (by kernel_rfl))
        refine wpOp_step rfl (fun K hK => ?_)
        go_simp
        exact hK _ _ ⟨rfl, hJ⟩
      | 10, ho, hv, hLi =>
        cases Option.some.inj ho
        cases Option.some.inj hv
        have hG : A.tmps[38]? = some (.bool true) := gdb (hhas 8 38 _ rfl (hdep ⟨8, .guard⟩ (by simp) rfl))
        have h0 : A.tmps[0]?.getD undef = .slice (some ⟨g, o, none⟩) cs.length cp := (gd A 0).trans (hkept 0 (by kernel_rfl))
        refine wpOp_step rfl (fun K hK => ?_)
        go_simp
        exact hK _ _ ⟨rfl, hJ⟩
      | 11, ho, hv, hLi =>
        cases Option.some.inj ho
        cases Option.some.inj hv
        have hG : A.tmps[38]? = some (.bool true) := gdb (hhas 8 38 _ rfl (hdep ⟨8, .guard⟩ (by simp) rfl))
        have h1 : A.tmps[1]?.getD undef = .int .i64 (ri : Int) := (gd A 1).trans (hkept 1 (by kernel_rfl))
        refine wpOp_step rfl (fun K hK => ?_)
        go_simp
        exact hK _ _ ⟨rfl, hJ⟩
      | 12, ho, hv, hLi =>
        cases Option.some.inj ho
        cases Option.some.inj hv
        have hG : A.tmps[38]? = some (.bool true) := gdb (hhas 8 38 _ rfl (hdep ⟨8, .guard⟩ (by simp) rfl))
        have h40 : A.tmps[40]?.getD undef = .slice (some ⟨g, o, none⟩) cs.length cp := (gd A 40).trans (hhas 10 40 _ rfl (hdep ⟨10, .data⟩ (by simp) rfl))
        have h41 : A.tmps[41]?.getD undef = .int .i64 (ri : Int) := (gd A 41).trans (hhas 11 41 _ rfl (hdep ⟨11, .data⟩ (by simp) rfl))
        refine wpOp_step rfl (fun K hK => ?_)
        go_simp
        exact hK _ _ ⟨rfl, hJ⟩
      | 13, ho, hv, hLi =>
        cases Option.some.inj ho
        cases Option.some.inj hv
        have hG : A.tmps[38]? = some (.bool true) := gdb (hhas 8 38 _ rfl (hdep ⟨8, .guard⟩ (by simp) rfl))
        have h42 : A.tmps[42]?.getD undef = .pointer (some ⟨g, o + ri * 3, none⟩) := (gd A 42).trans (hhas 12 42 _ rfl (hdep ⟨12, .data⟩ (by simp) rfl))
        have z := (hJ.cell (block_lt_of_cell e2)).trans e2
        refine wpOp_step rfl (fun K hK => ?_)
        go_simp
        exact hK _ _ ⟨rfl, hJ⟩
      | 14, ho, hv, hLi =>
        cases Option.some.inj ho
        cases Option.some.inj hv
        have hG : A.tmps[38]? = some (.bool true) := gdb (hhas 8 38 _ rfl (hdep ⟨8, .guard⟩ (by simp) rfl))
        have h43 : A.tmps[43]?.getD undef = .pointer (some ⟨g, o + ri * 3 + 2, none⟩) := (gd A 43).trans (hhas 13 43 _ rfl (hdep ⟨13, .data⟩ (by simp) rfl))
        have z := (hJ.cell (block_lt_of_cell e2)).trans e2
        refine wpOp_step rfl (fun K hK => ?_)
        go_simp
        exact hK _ _ ⟨rfl, hJ⟩
      | 15, ho, hv, hLi =>
        cases Option.some.inj ho
        cases Option.some.inj hv
        have hG : A.tmps[38]? = some (.bool true) := gdb (hhas 8 38 _ rfl (hdep ⟨8, .guard⟩ (by simp) rfl))
        have h39 : A.tmps[39]?.getD undef = .int .i64 (n : Int) := (gd A 39).trans (hhas 9 39 _ rfl (hdep ⟨9, .data⟩ (by simp) rfl))
        have h44 : A.tmps[44]?.getD undef = .int .i64 st := (gd A 44).trans (hhas 14 44 _ rfl (hdep ⟨14, .data⟩ (by simp) rfl))
        refine wpOp_step rfl (fun K hK => ?_)
        go_simp
        exact hK _ _ ⟨rfl, hJ⟩
      | 16, ho, hv, hLi =>
        cases Option.some.inj ho
        cases Option.some.inj hv
        have h38 : A.tmps[38]?.getD undef = .bool true := (gd A 38).trans (hhas 8 38 _ rfl (hdep ⟨8, .data⟩ (by simp) rfl))
        have h45 : A.tmps[45]?.getD undef = .bool true := (gd A 45).trans (hhas 15 45 _ rfl (hdep ⟨15, .data⟩ (by simp) rfl))
        refine wpOp_step rfl (fun K hK => ?_)
        go_simp
        exact hK _ _ ⟨rfl, hJ⟩
      | 17, ho, hv, hLi =>
        cases Option.some.inj ho
        cases Option.some.inj hv
        have h46 : A.tmps[46]?.getD undef = .bool true := (gd A 46).trans (hhas 16 46 _ rfl (hdep ⟨16, .data⟩ (by simp) rfl))
        refine wpOp_step rfl (fun K hK => ?_)
        go_simp
        exact hK _ _ ⟨rfl, hJ⟩
      | 18, ho, hv, hLi =>
        cases Option.some.inj ho
        cases Option.some.inj hv
        have hG : A.tmps[47]? = some (.bool true) := gdb (hhas 17 47 _ rfl (hdep ⟨17, .guard⟩ (by simp) rfl))
        have h7 : A.eval (.tmp 7) = .pointer (some ⟨rr, 0, none⟩) := hkept 7 (by kernel_rfl)
        refine wpOp_step rfl (fun K hK => ?_)
        rw [if_pos (by simp [Region.wanted, yielded, hG])]
        refine wp_load_row 25 _ rfl _ h7 _ _ _ _ ((hJ.block _ (lt_of_block nM2)).trans nM2) maskType rfl (maskSize _) ?_
        exact hK _ _ ⟨rfl, hJ⟩
      | 19, ho, hv, hLi =>
        cases Option.some.inj ho
        cases Option.some.inj hv
        have hG : A.tmps[47]? = some (.bool true) := gdb (hhas 17 47 _ rfl (hdep ⟨17, .guard⟩ (by simp) rfl))
        have h7 : A.eval (.tmp 7) = .pointer (some ⟨rr, 0, none⟩) := hkept 7 (by kernel_rfl)
        refine wpOp_step rfl (fun K hK => ?_)
        rw [if_pos (by simp [Region.wanted, yielded, hG])]
        refine wp_load_row 25 _ rfl _ h7 _ _ _ _ ((hJ.block _ (lt_of_block nM2)).trans nM2) maskType rfl (maskSize _) ?_
        exact hK _ _ ⟨rfl, hJ⟩
      | 20, ho, hv, hLi =>
        cases Option.some.inj ho
        cases Option.some.inj hv
        have hG : A.tmps[47]? = some (.bool true) := gdb (hhas 17 47 _ rfl (hdep ⟨17, .guard⟩ (by simp) rfl))
        have h48 : A.tmps[48]?.getD undef = .agg (mv f) := (gd A 48).trans (hhas 18 48 _ rfl (hdep ⟨18, .data⟩ (by simp) rfl))
        have h49 : A.tmps[49]?.getD undef = .agg (mv f) := (gd A 49).trans (hhas 19 49 _ rfl (hdep ⟨19, .data⟩ (by simp) rfl))
        refine wpOp_step rfl (fun K hK => ?_)
        go_simp
        refine (HBO.out W2).mono ?_
        rintro r' W' ⟨rfl, hb'⟩
        exact hK _ _ ⟨rfl, hJ.trans (hb'.mono hJ.size)⟩
      | 21, ho, hv, hLi =>
        cases Option.some.inj ho
        cases Option.some.inj hv
        have hG : A.tmps[47]? = some (.bool true) := gdb (hhas 17 47 _ rfl (hdep ⟨17, .guard⟩ (by simp) rfl))
        have h7 : A.eval (.tmp 7) = .pointer (some ⟨rr, 0, none⟩) := hkept 7 (by kernel_rfl)
        refine wpOp_step rfl (fun K hK => ?_)
        rw [if_pos (by simp [Region.wanted, yielded, hG])]
        refine wp_load_row 25 _ rfl _ h7 _ _ _ _ ((hJ.block _ (lt_of_block nM2)).trans nM2) maskType rfl (maskSize _) ?_
        exact hK _ _ ⟨rfl, hJ⟩
      | 22, ho, hv, hLi =>
        cases Option.some.inj ho
        cases Option.some.inj hv
        have hG : A.tmps[47]? = some (.bool true) := gdb (hhas 17 47 _ rfl (hdep ⟨17, .guard⟩ (by simp) rfl))
        have h50 : A.tmps[50]?.getD undef = .agg (mv f) := (gd A 50).trans (hhas 20 50 _ rfl (hdep ⟨20, .data⟩ (by simp) rfl))
        have h51 : A.tmps[51]?.getD undef = .agg (mv f) := (gd A 51).trans (hhas 21 51 _ rfl (hdep ⟨21, .data⟩ (by simp) rfl))
        have hq := HEQ.out W2
        refine wpOp_step rfl (fun K hK => ?_)
        go_simp
        exact hK _ _ ⟨rfl, hJ⟩
      | 23, ho, hv, hLi =>
        cases Option.some.inj ho
        cases Option.some.inj hv
        have h47 : A.tmps[47]?.getD undef = .bool true := (gd A 47).trans (hhas 17 47 _ rfl (hdep ⟨17, .data⟩ (by simp) rfl))
        have h52 : A.tmps[52]?.getD undef = .bool true := (gd A 52).trans (hhas 22 52 _ rfl (hdep ⟨22, .data⟩ (by simp) rfl))
        refine wpOp_step rfl (fun K hK => ?_)
        go_simp
        exact hK _ _ ⟨rfl, hJ⟩
      | 24, ho, hv, hLi =>
        cases Option.some.inj ho
        cases Option.some.inj hv
        have h53 : A.tmps[53]?.getD undef = .bool true := (gd A 53).trans (hhas 23 53 _ rfl (hdep ⟨23, .data⟩ (by simp) rfl))
        refine wpOp_step rfl (fun K hK => ?_)
        go_simp
        exact hK _ _ ⟨rfl, hJ⟩
      | kk + 25, ho, hv, hLi => simp at hv
    · intro L W5 hL hJ
      simp only [putAll_cons, putAll_nil, Act.put, List.setIfInBounds_toArray, List.set_cons_succ, List.set_cons_zero]
      clear hL
      have HB := hidv (bb6.trans (hJ.mono bb6.size))
      clear hJ bb6
      go_wp2_with fail
      go_ret
      exact ⟨rfl, HB.out⟩
  · obtain ⟨rfl, rfl⟩ := HNO.out he
    have hb0 : (er == 0) = false := beq_eq_false_iff_ne.2 he
    have hbn : (er != 0) = true := by simpa using he
    have HB := hidv bb6
    have hq := fun W => eqi_same9 (fun _ => false) W
    have hq2 := fun W => eql_same9 (fun _ => false) W
    clear HOK HNO HCC HIN HWR0 he bb6
    go_wp2_with (first
      | (refine wpList_store_row rfl 25 _ _ rfl _ _ rfl rfl _ _ nM0 (maskSize _) (by simp [mv_size]) (mv_all _) ?_)
      | (refine wpList_store_row rfl 28 _ _ rfl _ _ rfl rfl _ _ nF1 (by kernel_rfl) (by simp) (by simp [Value.oneCell']) ?_)
      | (refine load_g (by rfl) _ (by rfl) w3.heap.size (by rfl) (fun _ => false) ?r ?_; (case r => exact nM2)))
    go_ret
    exact ⟨rfl, HB.out⟩
end Go.Proofs.Ytaeengpppehlfaa

/- What the law VmTells comes to. Written by genvtw.py. -/
namespace Go.Proofs.Ytaeengpppehlfaa
open Go.RowKit Msk Vx

theorem eqFaultV (a b : Int) (w : World) : (Op.equalIn 10000 28 (.agg #[.int .i64 a, .int .i64 b]) (.agg #[.int .i64 a, .int .i64 b])).run Try.prog w = .ok true w := by
  rw [run_equalIn_struct w 9999 28 _ _ (by kernel_rfl) (by kernel_rfl)]
  simp [Program.fieldsOf, Try.underlying28, Op.eqFields]
  go_simp
theorem eqlFaultV (a b : Int) (w : World) : (binOp .eql 28 (.agg #[.int .i64 a, .int .i64 b]) (.agg #[.int .i64 a, .int .i64 b])).run Try.prog w = .ok (.bool true) w := by
  rw [run_eql_struct, eqFaultV]; simp [Result.andThen]
/-- A guarded load of a fault. -/
theorem load_gF {ops : Array Oper} {rest : List Oper} {o : Oper} {a : Act} {w : World} {Q : Exit → Act → World → Prop} (hw : Region.wanted o (yielded ops a.tmps) = true) (x : Operand) (ho : o.op = .load 28 x) (g : Nat) (hx : a.eval x = .pointer (some ⟨g, 0, none⟩)) (p q : Int) (hg : w.heap[g]? = some (.cells #[.int .i64 p, .int .i64 q] 28 (0, 0)))
    (h : wpList Try.prog ops Q rest (a.put o.dst (.agg #[.int .i64 p, .int .i64 q])) w) : wpList Try.prog ops Q (o :: rest) a w :=
  wpList_step fun K hK => by
    rw [if_pos hw]
    exact wp_load_row 28 x ho g hx _ _ _ _ hg faultTypeV rfl (by kernel_rfl) (hK _ _ h)
attribute [local go_sem] eqlFaultV
set_option maxRecDepth 100000 in
set_option maxHeartbeats 4000000 in
theorem vtells_walk (cs : List Cd) (lv : Value) (rule day : Int) (w : World) (h : InV w lv cs) (hRun : ∀ W, InV W lv cs → Calls Try.prog 10 #[lv, .int .i64 rule, .int .i64 day] W (OutR (runM cs rule day) (runN cs rule day : Int) (runE cs rule day).1 ((runE cs rule day).2 : Int) W)) :
    Calls Try.prog 3 #[lv, .int .i64 rule, .int .i64 day] w fun e w' => e = .returned (.bool true) ∧ Below w.heap.size w w' := by
  obtain ⟨er, her⟩ : ∃ q, (runE cs rule day).1 = q := ⟨_, rfl⟩
  obtain ⟨at0, hat⟩ : ∃ q : Int, ((runE cs rule day).2 : Int) = q := ⟨_, rfl⟩
  obtain ⟨f, hf⟩ : ∃ q, runM cs rule day = q := ⟨_, rfl⟩
  obtain ⟨n, hn⟩ : ∃ q : Int, (runN cs rule day : Int) = q := ⟨_, rfl⟩
  have c1 : Hid (∀ W, Below w.heap.size w W → Calls Try.prog 9 #[lv, .int .i64 rule, .int .i64 day] W (OutR f n er at0 W)) := fun W hW => by
    have := vrun_any cs lv rule day W (h.below hW)
    rw [her, hat, hf, hn] at this
    exact this
  have c2 : Hid (∀ W, Below w.heap.size w W → Calls Try.prog 10 #[lv, .int .i64 rule, .int .i64 day] W (OutR f n er at0 W)) := fun W hW => by
    have := hRun W (h.below hW)
    rw [her, hat, hf, hn] at this
    exact this
  obtain ⟨er2, her2⟩ : ∃ q, (wrongV cs).1 = q := ⟨_, rfl⟩
  obtain ⟨at2, hat2⟩ : ∃ q : Int, ((wrongV cs).2 : Int) = q := ⟨_, rfl⟩
  have c3 : Hid (∀ W, Below w.heap.size w W → Calls Try.prog 11 #[lv] W fun e w' => e = .returned (.agg #[.int .i64 er2, .int .i64 at2]) ∧ Below W.heap.size W w') := fun W hW => by
    have := vwrong_any cs lv W (h.below hW)
    rw [her2, hat2] at this
    exact this
  have c4 : Hid (∀ W, Below w.heap.size w W → Calls Try.prog 12 #[lv] W fun e w' => e = .returned (.agg #[.int .i64 er2, .int .i64 at2]) ∧ Below W.heap.size W w') := fun W hW => by
    have := rwrong_any cs lv W (h.below hW)
    rw [her2, hat2] at this
    exact this
  have hz := mv_lit
  have hq := fun W => eql_same9 f W
  clear h hRun her hat hf hn her2 hat2
  go_enter Try.func3, Try.ntmps3
  have d1 := c1.out w (Below.refl _ _)
  clear c1
  go_wp2_with fail
  refine d1.mono ?_
  rintro e w1 ⟨rfl, b1⟩
  clear d1
  have bA1 : Below w1.heap.size w1 ((w1.alloc (.cells (mv fun _ => false) 25)).alloc (.cells #[.int .i64 0, .int .i64 0] 28)) := ((Below.refl _ _).alloc (Nat.le_refl _) _).alloc (by simp) _
  have nM01 : ((w1.alloc (.cells (mv fun _ => false) 25)).alloc (.cells #[.int .i64 0, .int .i64 0] 28)).heap[w1.heap.size]? = some (.cells (mv fun _ => false) 25 (0, 0)) := by (repeat (first | refine blk_old _ _ _ (by simp only [size_alloc]; omega) ?_ | exact blk_new _ _ _ (by first | rfl | simp only [size_alloc])))
  have nF01 : ((w1.alloc (.cells (mv fun _ => false) 25)).alloc (.cells #[.int .i64 0, .int .i64 0] 28)).heap[w1.heap.size + 1]? = some (.cells #[.int .i64 0, .int .i64 0] 28 (0, 0)) := by (repeat (first | refine blk_old _ _ _ (by simp only [size_alloc]; omega) ?_ | exact blk_new _ _ _ (by first | rfl | simp only [size_alloc])))
  generalize hwA1 : (w1.alloc (.cells (mv fun _ => false) 25)).alloc (.cells #[.int .i64 0, .int .i64 0] 28) = wA1 at *
  have nM11 := setRow_heap _ _ _ (mv f) _ _ nM01
  have nF11 := (setRow_other wA1 w1.heap.size (w1.heap.size + 1) (mv f) (by omega)).trans nF01
  have bB1 := below_setRow bA1 (Nat.le_refl _) (mv f)
  generalize hwB1 : wA1.setRow w1.heap.size (mv f) = wB1 at *
  have nM21 := (setRow_other wB1 (w1.heap.size + 1) w1.heap.size #[.int .i64 er, .int .i64 at0] (by omega)).trans nM11
  have nF21 := setRow_heap _ _ _ #[.int .i64 er, .int .i64 at0] _ _ nF11
  have bC1 := below_setRow bB1 (by omega : w1.heap.size ≤ w1.heap.size + 1) #[.int .i64 er, .int .i64 at0]
  generalize hwC1 : wB1.setRow (w1.heap.size + 1) #[.int .i64 er, .int .i64 at0] = wC1 at *
  have bb1 := b1.trans (bC1.mono b1.size)
  have d2 := c2.out wC1 bb1
  have hl1 := lt_of_block nM21
  have hl2 := lt_of_block nF21
  clear c2 b1 bA1 bB1 bC1
  go_wp2_with (first
    | (refine wpList_store_row rfl 25 _ _ rfl _ _ rfl rfl _ _ nM01 (maskSize _) (by simp [mv_size]) (mv_all _) ?_)
    | (refine wpList_store_row rfl 28 _ _ rfl _ _ rfl rfl _ _ nF11 (by kernel_rfl) (by simp) (by simp [Value.oneCell']) ?_))
  refine d2.mono ?_
  rintro e w2 ⟨rfl, b2⟩
  clear d2 nM01 nF01 nM11 nF11 hwA1 hwB1 hwC1
  obtain ⟨g1, hg1⟩ : ∃ q, w1.heap.size = q := ⟨_, rfl⟩
  rw [hg1] at nM21 nF21 hl1 hl2 ⊢
  clear hg1
  have mA := (b2.block _ hl1).trans nM21
  have fA := (b2.block _ hl2).trans nF21
  have bA2 : Below w2.heap.size w2 ((w2.alloc (.cells (mv fun _ => false) 25)).alloc (.cells #[.int .i64 0, .int .i64 0] 28)) := ((Below.refl _ _).alloc (Nat.le_refl _) _).alloc (by simp) _
  have nM02 : ((w2.alloc (.cells (mv fun _ => false) 25)).alloc (.cells #[.int .i64 0, .int .i64 0] 28)).heap[w2.heap.size]? = some (.cells (mv fun _ => false) 25 (0, 0)) := by (repeat (first | refine blk_old _ _ _ (by simp only [size_alloc]; omega) ?_ | exact blk_new _ _ _ (by first | rfl | simp only [size_alloc])))
  have nF02 : ((w2.alloc (.cells (mv fun _ => false) 25)).alloc (.cells #[.int .i64 0, .int .i64 0] 28)).heap[w2.heap.size + 1]? = some (.cells #[.int .i64 0, .int .i64 0] 28 (0, 0)) := by (repeat (first | refine blk_old _ _ _ (by simp only [size_alloc]; omega) ?_ | exact blk_new _ _ _ (by first | rfl | simp only [size_alloc])))
  generalize hwA2 : (w2.alloc (.cells (mv fun _ => false) 25)).alloc (.cells #[.int .i64 0, .int .i64 0] 28) = wA2 at *
  have nM12 := setRow_heap _ _ _ (mv f) _ _ nM02
  have nF12 := (setRow_other wA2 w2.heap.size (w2.heap.size + 1) (mv f) (by omega)).trans nF02
  have bB2 := below_setRow bA2 (Nat.le_refl _) (mv f)
  generalize hwB2 : wA2.setRow w2.heap.size (mv f) = wB2 at *
  have nM22 := (setRow_other wB2 (w2.heap.size + 1) w2.heap.size #[.int .i64 er, .int .i64 at0] (by omega)).trans nM12
  have nF22 := setRow_heap _ _ _ #[.int .i64 er, .int .i64 at0] _ _ nF12
  have bC2 := below_setRow bB2 (by omega : w2.heap.size ≤ w2.heap.size + 1) #[.int .i64 er, .int .i64 at0]
  generalize hwC2 : wB2.setRow (w2.heap.size + 1) #[.int .i64 er, .int .i64 at0] = wC2 at *
  have mB := (bC2.block _ (lt_of_block mA)).trans mA
  have fB := (bC2.block _ (lt_of_block fA)).trans fA
  have bb2 := bb1.trans ((b2.trans (bC2.mono b2.size)).mono bb1.size)
  have d3 := c3.out wC2 bb2
  clear c3 b2 bb1 bA2 bB2 bC2 nM21 nF21 mA fA hl1 hl2
  go_wp2_with (first
    | (refine wpList_store_row rfl 25 _ _ rfl _ _ rfl rfl _ _ nM02 (maskSize _) (by simp [mv_size]) (mv_all _) ?_)
    | (refine wpList_store_row rfl 28 _ _ rfl _ _ rfl rfl _ _ nF12 (by kernel_rfl) (by simp) (by simp [Value.oneCell']) ?_))
  refine d3.mono ?_
  rintro e w3 ⟨rfl, b3⟩
  clear d3 nM02 nF02 nM12 nF12 hwA2 hwB2 hwC2
  obtain ⟨g2, hg2⟩ : ∃ q, w2.heap.size = q := ⟨_, rfl⟩
  rw [hg2] at nM22 nF22 ⊢
  clear hg2
  have bb3 := bb2.trans (b3.mono bb2.size)
  have d4 := c4.out w3 bb3
  have mC := (b3.block _ (lt_of_block mB)).trans mB
  have fC := (b3.block _ (lt_of_block fB)).trans fB
  have mD := (b3.block _ (lt_of_block nM22)).trans nM22
  have fD := (b3.block _ (lt_of_block nF22)).trans nF22
  clear c4 b3 mB fB nM22 nF22 bb2
  go_wp2_with fail
  refine d4.mono ?_
  rintro e w4 ⟨rfl, b4⟩
  have bb4 := bb3.trans (b4.mono bb3.size)
  have mE := (b4.block _ (lt_of_block mC)).trans mC
  have fE := (b4.block _ (lt_of_block fC)).trans fC
  have mF := (b4.block _ (lt_of_block mD)).trans mD
  have fF := (b4.block _ (lt_of_block fD)).trans fD
  clear d4 b4 bb3 mC fC mD fD
  go_wp2_with (first
    | (refine load_g (by rfl) _ (by rfl) g1 (by rfl) f mE ?_)
    | (refine load_g (by rfl) _ (by rfl) g2 (by rfl) f mF ?_)
    | (refine load_gF (by rfl) _ (by rfl) (g1 + 1) (by rfl) er at0 fE ?_)
    | (refine load_gF (by rfl) _ (by rfl) (g2 + 1) (by rfl) er at0 fF ?_))
  go_ret
  exact ⟨rfl, bb4⟩
end Go.Proofs.Ytaeengpppehlfaa

/- What the law CacheTells comes to. Written by gencaw.py. -/
namespace Go.Proofs.Ytaeengpppehlfaa
open Go.RowKit Msk Vx

theorem load_gC {ops : Array Oper} {rest : List Oper} {o : Oper} {a : Act} {w : World} {Q : Exit → Act → World → Prop} (hw : Region.wanted o (yielded ops a.tmps) = true) (x : Operand) (ho : o.op = .load 40 x) (g : Nat) (hx : a.eval x = .pointer (some ⟨g, 0, none⟩)) (v : Value) (n : Int) (hg : w.heap[g]? = some (.cells #[v, .int .i64 n] 40 (0, 0)))
    (h : wpList Try.prog ops Q rest (a.put o.dst (.agg #[v, .int .i64 n])) w) : wpList Try.prog ops Q (o :: rest) a w :=
  wpList_step fun K hK => by
    rw [if_pos hw]
    exact wp_load_row 40 x ho g hx _ _ _ _ hg cacheType rfl (by kernel_rfl) (hK _ _ h)
attribute [local go_sem] eqlFaultV
set_option maxRecDepth 100000 in
set_option maxHeartbeats 4000000 in
theorem ctells_walk (cs : List Cd) (l : List Kp) (cv lv : Value) (runs ver rule day : Int) (w : World) (h : KRow 0 w cv l) (hl : l.length ≤ 676622540150) (hin : InV w lv cs) :
    Calls Try.prog 5 #[.agg #[cv, .int .i64 runs], lv, .int .i64 ver, .int .i64 rule, .int .i64 day] w fun e w' => e = .returned (.bool true) ∧ Below w.heap.size w w' := by
  obtain ⟨m, hm⟩ : ∃ q, (getP cs l runs ver rule day).m = q := ⟨_, rfl⟩
  obtain ⟨R, hR⟩ : ∃ q, (getP cs l runs ver rule day).l = q := ⟨_, rfl⟩
  obtain ⟨rn, hrn⟩ : ∃ q, (getP cs l runs ver rule day).n = q := ⟨_, rfl⟩
  obtain ⟨er, her⟩ : ∃ q, (getP cs l runs ver rule day).er = q := ⟨_, rfl⟩
  obtain ⟨at0, hat⟩ : ∃ q : Int, ((getP cs l runs ver rule day).at_ : Int) = q := ⟨_, rfl⟩
  have c1 : Hid (∀ W, Below w.heap.size w W → Calls Try.prog 15 #[.agg #[cv, .int .i64 runs], lv, .int .i64 ver, .int .i64 rule, .int .i64 day] W (OutG m R rn er at0 W)) := fun W hW => by
    have := get_any cs l cv lv runs ver rule day W (h.later hW) hl (hin.below hW)
    rw [hm, hR, hrn, her, hat] at this
    exact this
  have c2 : Hid (∀ W, Below w.heap.size w W → Calls Try.prog 16 #[.agg #[cv, .int .i64 runs], lv, .int .i64 ver, .int .i64 rule, .int .i64 day] W (OutG m R rn er at0 W)) := fun W hW => by
    have := rget_any cs l cv lv runs ver rule day W (h.later hW) hl (hin.below hW)
    rw [hm, hR, hrn, her, hat] at this
    exact this
  obtain ⟨pc, cc, hcv, _⟩ := h
  subst hcv
  have hz := mv_lit
  have hq := fun W => eql_same9 m W
  have bA := (Below.refl w.heap.size w).alloc (Nat.le_refl _) (.cells #[.slice pc l.length cc, .int .i64 runs] 40)
  have c5 := heap_alloc_new w (.cells #[.slice pc l.length cc, .int .i64 runs] 40)
  generalize hwA : w.alloc (.cells #[.slice pc l.length cc, .int .i64 runs] 40) = wA at *
  obtain ⟨g5, hg5⟩ : ∃ q, w.heap.size = q := ⟨_, rfl⟩
  rw [hg5] at c5
  have d1 := c1.out wA bA
  clear hin hm hR hrn her hat c1
  go_enter Try.func5, Try.ntmps5
  rw [hg5]
  have z50 := (cell_of_row _ _ 0 _ _ _ c5).trans rfl
  have z51 := (cell_of_row _ _ 1 _ _ _ c5).trans rfl
  go_wp2_with fail
  refine d1.mono ?_
  rintro e w1 ⟨v1, rfl, k1, b1⟩
  obtain ⟨p1, q1, hv1, _⟩ := id k1
  subst hv1
  replace c5 := (b1.block _ (lt_of_block c5)).trans c5
  have bb1 := bA.trans (b1.mono bA.size)
  have kk1 := hidv (k1.low (Nat.zero_le _))
  clear d1 b1 bA hwA k1 z50 z51
  have bA1 : Below w1.heap.size w1 (((w1.alloc (.cells (mv fun _ => false) 25)).alloc (.cells #[.slice none 0 0, .int .i64 0] 40)).alloc (.cells #[.int .i64 0, .int .i64 0] 28)) := (((Below.refl _ _).alloc (Nat.le_refl _) _).alloc (by simp) _).alloc (by simp; omega) _
  have n11 : (((w1.alloc (.cells (mv fun _ => false) 25)).alloc (.cells #[.slice none 0 0, .int .i64 0] 40)).alloc (.cells #[.int .i64 0, .int .i64 0] 28)).heap[w1.heap.size]? = some (.cells (mv fun _ => false) 25 (0, 0)) := by (repeat (first | refine blk_old _ _ _ (by simp only [size_alloc]; omega) ?_ | exact blk_new _ _ _ (by first | rfl | simp only [size_alloc])))
  have n21 : (((w1.alloc (.cells (mv fun _ => false) 25)).alloc (.cells #[.slice none 0 0, .int .i64 0] 40)).alloc (.cells #[.int .i64 0, .int .i64 0] 28)).heap[w1.heap.size + 1]? = some (.cells #[.slice none 0 0, .int .i64 0] 40 (0, 0)) := by (repeat (first | refine blk_old _ _ _ (by simp only [size_alloc]; omega) ?_ | exact blk_new _ _ _ (by first | rfl | simp only [size_alloc])))
  have n31 : (((w1.alloc (.cells (mv fun _ => false) 25)).alloc (.cells #[.slice none 0 0, .int .i64 0] 40)).alloc (.cells #[.int .i64 0, .int .i64 0] 28)).heap[w1.heap.size + 2]? = some (.cells #[.int .i64 0, .int .i64 0] 28 (0, 0)) := by (repeat (first | refine blk_old _ _ _ (by simp only [size_alloc]; omega) ?_ | exact blk_new _ _ _ (by first | rfl | simp only [size_alloc])))
  generalize hwA1 : ((w1.alloc (.cells (mv fun _ => false) 25)).alloc (.cells #[.slice none 0 0, .int .i64 0] 40)).alloc (.cells #[.int .i64 0, .int .i64 0] 28) = wA1 at *
  have p11 := setRow_heap _ _ _ (mv m) _ _ n11
  have p21 := (setRow_other wA1 w1.heap.size (w1.heap.size + 1) (mv m) (by omega)).trans n21
  have p31 := (setRow_other wA1 w1.heap.size (w1.heap.size + 2) (mv m) (by omega)).trans n31
  have bB1 := below_setRow bA1 (Nat.le_refl _) (mv m)
  generalize hwB1 : wA1.setRow w1.heap.size (mv m) = wB1 at *
  have q11 := (setRow_other wB1 (w1.heap.size + 1) w1.heap.size #[.slice p1 R.length q1, .int .i64 rn] (by omega)).trans p11
  have q21 := setRow_heap _ _ _ #[.slice p1 R.length q1, .int .i64 rn] _ _ p21
  have q31 := (setRow_other wB1 (w1.heap.size + 1) (w1.heap.size + 2) #[.slice p1 R.length q1, .int .i64 rn] (by omega)).trans p31
  have bC1 := below_setRow bB1 (by omega : w1.heap.size ≤ w1.heap.size + 1) #[.slice p1 R.length q1, .int .i64 rn]
  generalize hwC1 : wB1.setRow (w1.heap.size + 1) #[.slice p1 R.length q1, .int .i64 rn] = wC1 at *
  have mM1 := (setRow_other wC1 (w1.heap.size + 2) w1.heap.size #[.int .i64 er, .int .i64 at0] (by omega)).trans q11
  have mC1 := (setRow_other wC1 (w1.heap.size + 2) (w1.heap.size + 1) #[.int .i64 er, .int .i64 at0] (by omega)).trans q21
  have mF1 := setRow_heap _ _ _ #[.int .i64 er, .int .i64 at0] _ _ q31
  have bD1 := below_setRow bC1 (by omega : w1.heap.size ≤ w1.heap.size + 2) #[.int .i64 er, .int .i64 at0]
  generalize hwD1 : wC1.setRow (w1.heap.size + 2) #[.int .i64 er, .int .i64 at0] = wS1 at *
  replace c5 := (bD1.block _ (lt_of_block c5)).trans c5
  have bb2 := bb1.trans (bD1.mono bb1.size)
  have kk2 := hidv (kk1.out.later bD1)
  have d2 := c2.out wS1 bb2
  clear c2 bA1 bB1 bC1 bD1 bb1 kk1
  have z50 := (cell_of_row _ _ 0 _ _ _ c5).trans rfl
  have z51 := (cell_of_row _ _ 1 _ _ _ c5).trans rfl
  go_wp2_with (first
    | (refine wpList_store_row rfl 25 _ _ rfl _ _ rfl rfl _ _ n11 (maskSize _) (by simp [mv_size]) (mv_all _) ?_; rw [hwB1]; refine wpList_store_row rfl 40 _ _ rfl _ _ rfl rfl _ _ p21 (by kernel_rfl) (by simp) (by simp [Value.oneCell']) ?_; rw [hwC1]; refine wpList_store_row rfl 28 _ _ rfl _ _ rfl rfl _ _ q31 (by kernel_rfl) (by simp) (by simp [Value.oneCell']) ?_; rw [hwD1]))
  refine d2.mono ?_
  rintro e w2 ⟨v2, rfl, k2, b2⟩
  obtain ⟨p2, q2, hv2, _⟩ := id k2
  subst hv2
  replace c5 := (b2.block _ (lt_of_block c5)).trans c5
  replace mM1 := (b2.block _ (lt_of_block mM1)).trans mM1
  replace mC1 := (b2.block _ (lt_of_block mC1)).trans mC1
  replace mF1 := (b2.block _ (lt_of_block mF1)).trans mF1
  have bb3 := bb2.trans (b2.mono bb2.size)
  have kk3 := hidv (kk2.out.later b2)
  have kk4 := hidv (k2.low (Nat.zero_le _))
  obtain ⟨g1, hg1⟩ : ∃ q, w1.heap.size = q := ⟨_, rfl⟩
  rw [hg1] at mM1 mC1 mF1 ⊢
  clear d2 b2 k2 kk2 z50 z51 n11 n21 n31 p11 p21 p31 q11 q21 q31 hwA1 hwB1 hwC1 hwD1 hg1 bb2
  have bA2 : Below w2.heap.size w2 (((w2.alloc (.cells (mv fun _ => false) 25)).alloc (.cells #[.slice none 0 0, .int .i64 0] 40)).alloc (.cells #[.int .i64 0, .int .i64 0] 28)) := (((Below.refl _ _).alloc (Nat.le_refl _) _).alloc (by simp) _).alloc (by simp; omega) _
  have n12 : (((w2.alloc (.cells (mv fun _ => false) 25)).alloc (.cells #[.slice none 0 0, .int .i64 0] 40)).alloc (.cells #[.int .i64 0, .int .i64 0] 28)).heap[w2.heap.size]? = some (.cells (mv fun _ => false) 25 (0, 0)) := by (repeat (first | refine blk_old _ _ _ (by simp only [size_alloc]; omega) ?_ | exact blk_new _ _ _ (by first | rfl | simp only [size_alloc])))
  have n22 : (((w2.alloc (.cells (mv fun _ => false) 25)).alloc (.cells #[.slice none 0 0, .int .i64 0] 40)).alloc (.cells #[.int .i64 0, .int .i64 0] 28)).heap[w2.heap.size + 1]? = some (.cells #[.slice none 0 0, .int .i64 0] 40 (0, 0)) := by (repeat (first | refine blk_old _ _ _ (by simp only [size_alloc]; omega) ?_ | exact blk_new _ _ _ (by first | rfl | simp only [size_alloc])))
  have n32 : (((w2.alloc (.cells (mv fun _ => false) 25)).alloc (.cells #[.slice none 0 0, .int .i64 0] 40)).alloc (.cells #[.int .i64 0, .int .i64 0] 28)).heap[w2.heap.size + 2]? = some (.cells #[.int .i64 0, .int .i64 0] 28 (0, 0)) := by (repeat (first | refine blk_old _ _ _ (by simp only [size_alloc]; omega) ?_ | exact blk_new _ _ _ (by first | rfl | simp only [size_alloc])))
  generalize hwA2 : ((w2.alloc (.cells (mv fun _ => false) 25)).alloc (.cells #[.slice none 0 0, .int .i64 0] 40)).alloc (.cells #[.int .i64 0, .int .i64 0] 28) = wA2 at *
  have p12 := setRow_heap _ _ _ (mv m) _ _ n12
  have p22 := (setRow_other wA2 w2.heap.size (w2.heap.size + 1) (mv m) (by omega)).trans n22
  have p32 := (setRow_other wA2 w2.heap.size (w2.heap.size + 2) (mv m) (by omega)).trans n32
  have bB2 := below_setRow bA2 (Nat.le_refl _) (mv m)
  generalize hwB2 : wA2.setRow w2.heap.size (mv m) = wB2 at *
  have q12 := (setRow_other wB2 (w2.heap.size + 1) w2.heap.size #[.slice p2 R.length q2, .int .i64 rn] (by omega)).trans p12
  have q22 := setRow_heap _ _ _ #[.slice p2 R.length q2, .int .i64 rn] _ _ p22
  have q32 := (setRow_other wB2 (w2.heap.size + 1) (w2.heap.size + 2) #[.slice p2 R.length q2, .int .i64 rn] (by omega)).trans p32
  have bC2 := below_setRow bB2 (by omega : w2.heap.size ≤ w2.heap.size + 1) #[.slice p2 R.length q2, .int .i64 rn]
  generalize hwC2 : wB2.setRow (w2.heap.size + 1) #[.slice p2 R.length q2, .int .i64 rn] = wC2 at *
  have mM2 := (setRow_other wC2 (w2.heap.size + 2) w2.heap.size #[.int .i64 er, .int .i64 at0] (by omega)).trans q12
  have mC2 := (setRow_other wC2 (w2.heap.size + 2) (w2.heap.size + 1) #[.int .i64 er, .int .i64 at0] (by omega)).trans q22
  have mF2 := setRow_heap _ _ _ #[.int .i64 er, .int .i64 at0] _ _ q32
  have bD2 := below_setRow bC2 (by omega : w2.heap.size ≤ w2.heap.size + 2) #[.int .i64 er, .int .i64 at0]
  generalize hwD2 : wC2.setRow (w2.heap.size + 2) #[.int .i64 er, .int .i64 at0] = wS2 at *
  replace c5 := (bD2.block _ (lt_of_block c5)).trans c5
  replace mM1 := (bD2.block _ (lt_of_block mM1)).trans mM1
  replace mC1 := (bD2.block _ (lt_of_block mC1)).trans mC1
  replace mF1 := (bD2.block _ (lt_of_block mF1)).trans mF1
  have bb4 := bb3.trans (bD2.mono bb3.size)
  have kk5 := hidv (kk3.out.later bD2)
  have kk6 := hidv (kk4.out.later bD2)
  have d3 := samec_any R _ _ rn wS2 kk5.out kk6.out
  clear bA2 bB2 bC2 bD2 bb3 kk3 kk4 c5
  have HB := hidv bb4
  clear bb4
  go_wp2_with (first
    | (refine wpList_store_row rfl 25 _ _ rfl _ _ rfl rfl _ _ n12 (maskSize _) (by simp [mv_size]) (mv_all _) ?_; rw [hwB2]; refine wpList_store_row rfl 40 _ _ rfl _ _ rfl rfl _ _ p22 (by kernel_rfl) (by simp) (by simp [Value.oneCell']) ?_; rw [hwC2]; refine wpList_store_row rfl 28 _ _ rfl _ _ rfl rfl _ _ q32 (by kernel_rfl) (by simp) (by simp [Value.oneCell']) ?_; rw [hwD2])
    | (refine load_g (by rfl) _ (by rfl) g1 (by rfl) m mM1 ?_)
    | (refine load_g (by rfl) _ (by rfl) w2.heap.size (by rfl) m mM2 ?_)
    | (refine load_gF (by rfl) _ (by rfl) (g1 + 2) (by rfl) er at0 mF1 ?_)
    | (refine load_gF (by rfl) _ (by rfl) (w2.heap.size + 2) (by rfl) er at0 mF2 ?_)
    | (refine load_gC (by rfl) _ (by rfl) (g1 + 1) (by rfl) _ rn mC1 ?_)
    | (refine load_gC (by rfl) _ (by rfl) (w2.heap.size + 1) (by rfl) _ rn mC2 ?_))
  refine d3.mono ?_
  rintro e w3 ⟨rfl, b3⟩
  go_wp2_with fail
  go_ret
  exact ⟨rfl, by rw [← hg5] at *; exact HB.out.trans (b3.mono HB.out.size)⟩
end Go.Proofs.Ytaeengpppehlfaa

/- How code that came in reads: the rows of instructions, and of rules' code, in memory as it is. -/
namespace Go.Proofs.Ytaeengpppehlfaa
open Go.ChangeShapes Go.WideShapes Go.ChangeAt Go.WideMaps Go.WideElems Go.RowKit Go.Joins Vx
variable {H : Type} {enc : TypeId × Value → H} {W : World}

theorem cI9 : Try.prog.cellsOf 65 = 5 := by kernel_rfl
theorem cC9 : Try.prog.cellsOf 36 = 3 := by kernel_rfl
theorem cS9 : Try.prog.cellsOf 97 = 2 := by kernel_rfl
theorem cN9 : Try.prog.cellsOf 3 = 1 := by kernel_rfl
theorem cL9 : Try.prog.cellsOf 63 = 1 := by kernel_rfl
theorem cK9 : Try.prog.cellsOf 34 = 1 := by kernel_rfl
theorem add9 (g o n : Nat) : (⟨g, o, none⟩ : Addr).add n = ⟨g, o + n, none⟩ := by
  by_cases h : n = 0
  · subst h; simp [Addr.add]
  · simp [Addr.add, h]
theorem two9 {α : Type} {l : List α} (h : l.length = 2) : ∃ a b, l = [a, b] := by
  match l, h with
  | [a, b], _ => exact ⟨a, b, rfl⟩
theorem three9 {α : Type} {l : List α} (h : l.length = 3) : ∃ a b c, l = [a, b, c] := by
  match l, h with
  | [a, b, c], _ => exact ⟨a, b, c, rfl⟩
theorem five9 {α : Type} {l : List α} (h : l.length = 5) : ∃ a b c d e, l = [a, b, c, d, e] := by
  match l, h with
  | [a, b, c, d, e], _ => exact ⟨a, b, c, d, e, rfl⟩
/-- A row whose elements are read one by one. -/
theorem open_row {α : Type} (d0 : α) {size : Nat} {t e : TypeId} (ht : Try.prog.underlying t = some (.slice e)) (hsz : Try.prog.cellsOf e = size) (h0 : 0 < size) (Q : (Nat → Option Value) → α → Prop)
    (hel : ∀ (fuel : Nat) (cs : List Value) (y : DataW H × List MemPlace), DataW.trod enc Try.prog W 0 (fun _ => true) true fuel e cs = some y → ∃ u : α, cs.length = size ∧ Q (fun k => cs[k]?) u) {fuel : Nat} {cs : List Value} {x : DataW H × List MemPlace}
    (h : DataW.trod enc Try.prog W 0 (fun _ => true) true fuel t cs = some x) :
    ∃ (p : Option Addr) (len cap : Nat) (us : List α), cs = [.slice p len cap] ∧ us.length = len ∧ len < 9223372036854775808 ∧ ∀ (j : Nat) (u : α), us[j]? = some u → ∃ g o : Nat, p = some ⟨g, o, none⟩ ∧ ∃ c : List Value, c.length = size ∧ (∀ k v, c[k]? = some v → W.cell? ⟨g, o + j * size + k, none⟩ = some v) ∧ Q (fun k => c[k]?) u := by
  rcases DataW.trod_slice ht h with ⟨e1, _⟩ | ⟨a, len, cap, elems, rest, m, hf, e1, _, _, hlc, hm, hlen, hall, _⟩
  · exact ⟨none, 0, 0, [], e1, rfl, by decide, fun j u hj => by simp at hj⟩
  · have hl2 : len < 9223372036854775808 := by unfold maxLen at hm; omega
    have each : ∀ i, i < len → ∃ u : α, ∃ g o : Nat, a = ⟨g, o, none⟩ ∧ ∃ c : List Value, c.length = size ∧ (∀ k v, c[k]? = some v → W.cell? ⟨g, o + i * size + k, none⟩ = some v) ∧ Q (fun k => c[k]?) u := by
      intro i hi
      have h1 := hall i hi
      rw [hsz] at h1
      have hy : elems[i]? = some (elems[i]'(by omega)) := List.getElem?_eq_getElem _
      rw [hy, Option.bind_eq_some_iff] at h1
      obtain ⟨c, hc, htr⟩ := h1
      obtain ⟨u, hcl, hq⟩ := hel _ _ _ htr
      have spot : a.spot = none := by
        have h2 := hall 0 (by omega)
        rw [hsz] at h2
        have hy0 : elems[0]? = some (elems[0]'(by omega)) := List.getElem?_eq_getElem _
        rw [hy0, Option.bind_eq_some_iff] at h2
        obtain ⟨c', hc', htr'⟩ := h2
        obtain ⟨_, hcl', _⟩ := hel _ _ _ htr'
        have e0 : c'[0]? = some (c'[0]'(by omega)) := List.getElem?_eq_getElem _
        have q0 := (World.cells?_some hc').2.2 0 (by omega)
        rw [e0] at q0
        have q' := World.cell?_spot q0
        simpa [Addr.add] using q'
      obtain ⟨g, o, s⟩ := a
      have q := (World.cells?_some hc).2.2
      dsimp only at spot
      subst spot
      refine ⟨u, g, o, rfl, c, hcl, fun k v hk => ?_, hq⟩
      have hk' : k < c.length := (List.getElem?_eq_some_iff.1 hk).1
      have qk := q k (by omega)
      rw [add9, add9, hk] at qk
      exact qk
    let pick : Nat → α := fun i => if h : i < len then Classical.choose (each i h) else d0
    have hpick : ∀ i (h : i < len), pick i = Classical.choose (each i h) := fun i h => by simp only [pick, h, dif_pos]
    refine ⟨some a, len, cap, (List.range len).map pick, e1, by simp, hl2, fun j u hj => ?_⟩
    have hjl : j < len := by
      have := (List.getElem?_eq_some_iff.1 hj).1
      simpa using this
    rw [List.getElem?_map, List.getElem?_range hjl] at hj
    have hu : u = Classical.choose (each j hjl) := (Option.some.inj hj).symm.trans (hpick j hjl)
    rw [hu]
    obtain ⟨g, o, ea, c, h1, h2, h3⟩ := Classical.choose_spec (each j hjl)
    exact ⟨g, o, by rw [ea], c, h1, h2, h3⟩
theorem open_span9 (fuel : Nat) (cs : List Value) (y : DataW H × List MemPlace) (h : DataW.trod enc Try.prog W 0 (fun _ => true) true fuel 97 cs = some y) : ∃ u : Int × Int, cs.length = 2 ∧ (fun k => cs[k]?) 0 = some (.int .i64 u.1) ∧ (fun k => cs[k]?) 1 = some (.int .i64 u.2) := by
  obtain ⟨y0, y1, m, rfl, hl, h0, h1⟩ := trod_struct2 Try.underlying97 h
  rw [cS9] at hl
  dsimp only at h0 h1
  rw [cN9] at h0 h1
  obtain ⟨x, e0, _⟩ := DataW.trod_int Try.underlying3 h0
  obtain ⟨z, e1, _⟩ := DataW.trod_int Try.underlying3 h1
  obtain ⟨c0, c1, rfl⟩ := two9 hl
  simp at e0 e1
  subst e0 e1
  exact ⟨(x, z), rfl, rfl, rfl⟩
/-- A row of spans that came in. -/
theorem open_spans9 {fuel : Nat} {cs : List Value} {x : DataW H × List MemPlace} (h : DataW.trod enc Try.prog W 0 (fun _ => true) true fuel 63 cs = some x) : ∃ (sl : Value) (l : List (Int × Int)), cs = [sl] ∧ RowV W sl l := by
  obtain ⟨p, len, cap, us, e, hl, hn, hall⟩ := open_row ((0, 0) : Int × Int) (Q := fun c u => c 0 = some (.int .i64 u.1) ∧ c 1 = some (.int .i64 u.2)) Try.underlying63 cS9 (by decide) open_span9 h
  refine ⟨_, us, e, ?_⟩
  cases us with
  | nil =>
    left
    simp at hl
    subst hl
    exact ⟨rfl, p, cap, rfl⟩
  | cons u0 us' =>
    right
    right
    obtain ⟨g, o, hp, _⟩ := hall 0 u0 rfl
    refine ⟨g, o, cap, by rw [hp, hl], by rw [hl]; exact hn, fun j hj => ?_⟩
    obtain ⟨u, hu⟩ : ∃ u, (u0 :: us')[j]? = some u := ⟨_, List.getElem?_eq_getElem hj⟩
    obtain ⟨g', o', hp', c, hcl, hcc, q0, q1⟩ := hall j u hu
    rw [hp] at hp'
    cases hp'
    have e : (u0 :: us').getD j (0, 0) = u := by simp [List.getD, hu]
    rw [e]
    exact ⟨by simpa using hcc 0 _ q0, hcc 1 _ q1⟩
set_option maxRecDepth 100000 in
theorem open_ins9 (fuel : Nat) (cs : List Value) (y : DataW H × List MemPlace) (h : DataW.trod enc Try.prog W 0 (fun _ => true) true fuel 65 cs = some y) : ∃ u : In × Value, cs.length = 5 ∧ RowV W u.2 u.1.sp ∧ (fun k => cs[k]?) 0 = some (.int .i64 u.1.op) ∧ (fun k => cs[k]?) 1 = some (.int .i64 u.1.a) ∧ (fun k => cs[k]?) 2 = some (.int .i64 u.1.b) ∧ (fun k => cs[k]?) 3 = some (.int .i64 u.1.to) ∧ (fun k => cs[k]?) 4 = some u.2 := by
  obtain ⟨xs, m, hf, _, hl, hx, hall⟩ := DataW.trod_struct Try.underlying65 h
  rw [cI9] at hl
  have hx5 : xs.length = 5 := hx
  obtain ⟨c0, c1, c2, c3, c4, rfl⟩ := five9 hl
  obtain ⟨x0, x1, x2, x3, x4, rfl⟩ := five9 hx5
  have h0 : DataW.trod enc Try.prog W 0 (fun _ => true) true m 3 (([c0, c1, c2, c3, c4].drop 0).take (Try.prog.cellsOf 3)) = some x0 := hall 0 _ rfl
  have h1 : DataW.trod enc Try.prog W 0 (fun _ => true) true m 3 (([c0, c1, c2, c3, c4].drop 1).take (Try.prog.cellsOf 3)) = some x1 := hall 1 _ rfl
  have h2 : DataW.trod enc Try.prog W 0 (fun _ => true) true m 3 (([c0, c1, c2, c3, c4].drop 2).take (Try.prog.cellsOf 3)) = some x2 := hall 2 _ rfl
  have h3 : DataW.trod enc Try.prog W 0 (fun _ => true) true m 3 (([c0, c1, c2, c3, c4].drop 3).take (Try.prog.cellsOf 3)) = some x3 := hall 3 _ rfl
  have h4 : DataW.trod enc Try.prog W 0 (fun _ => true) true m 63 (([c0, c1, c2, c3, c4].drop 4).take (Try.prog.cellsOf 63)) = some x4 := hall 4 _ rfl
  rw [cN9] at h0 h1 h2 h3
  rw [cL9] at h4
  obtain ⟨k, e0, _⟩ := DataW.trod_int Try.underlying3 h0
  obtain ⟨a, e1, _⟩ := DataW.trod_int Try.underlying3 h1
  obtain ⟨b, e2, _⟩ := DataW.trod_int Try.underlying3 h2
  obtain ⟨t, e3, _⟩ := DataW.trod_int Try.underlying3 h3
  obtain ⟨sl, l, e4, hr⟩ := open_spans9 h4
  simp at e0 e1 e2 e3 e4
  subst e0 e1 e2 e3 e4
  exact ⟨(⟨k, a, b, t, l⟩, c4), rfl, hr, rfl, rfl, rfl, rfl, rfl⟩
theorem open_inss9 {fuel : Nat} {cs : List Value} {x : DataW H × List MemPlace} (h : DataW.trod enc Try.prog W 0 (fun _ => true) true fuel 34 cs = some x) : ∃ (sl : Value) (l : List In), cs = [sl] ∧ InsOf W sl l := by
  obtain ⟨p, len, cap, us, e, hl, hn, hall⟩ := open_row ((in0, .slice none 0 0) : In × Value) (Q := fun c u => RowV W u.2 u.1.sp ∧ c 0 = some (.int .i64 u.1.op) ∧ c 1 = some (.int .i64 u.1.a) ∧ c 2 = some (.int .i64 u.1.b) ∧ c 3 = some (.int .i64 u.1.to) ∧ c 4 = some u.2) Try.underlying34 cI9 (by decide) open_ins9 h
  refine ⟨_, us.map (fun u => u.1), e, us, ⟨p, cap, by rw [hl], by rw [hl]; exact hn, fun j u hj => ?_⟩, rfl⟩
  obtain ⟨g, o, hp, c, _, hcc, q0, q1, q2, q3, q4, q5⟩ := hall j u hj
  exact ⟨q0, g, o, hp, by simpa using hcc 0 _ q1, hcc 1 _ q2, hcc 2 _ q3, hcc 3 _ q4, hcc 4 _ q5⟩
set_option maxRecDepth 100000 in
theorem open_code9 (fuel : Nat) (cs : List Value) (y : DataW H × List MemPlace) (h : DataW.trod enc Try.prog W 0 (fun _ => true) true fuel 36 cs = some y) : ∃ u : Cd × Value, cs.length = 3 ∧ InsOf W u.2 u.1.ins ∧ (fun k => cs[k]?) 0 = some u.2 ∧ (fun k => cs[k]?) 1 = some (.int .i64 u.1.high) ∧ (fun k => cs[k]?) 2 = some (.int .i64 u.1.steps) := by
  obtain ⟨xs, m, hf, _, hl, hx, hall⟩ := DataW.trod_struct Try.underlying36 h
  rw [cC9] at hl
  have hx3 : xs.length = 3 := hx
  obtain ⟨c0, c1, c2, rfl⟩ := three9 hl
  obtain ⟨x0, x1, x2, rfl⟩ := three9 hx3
  have h0 : DataW.trod enc Try.prog W 0 (fun _ => true) true m 34 (([c0, c1, c2].drop 0).take (Try.prog.cellsOf 34)) = some x0 := hall 0 _ rfl
  have h1 : DataW.trod enc Try.prog W 0 (fun _ => true) true m 3 (([c0, c1, c2].drop 1).take (Try.prog.cellsOf 3)) = some x1 := hall 1 _ rfl
  have h2 : DataW.trod enc Try.prog W 0 (fun _ => true) true m 3 (([c0, c1, c2].drop 2).take (Try.prog.cellsOf 3)) = some x2 := hall 2 _ rfl
  rw [cN9] at h1 h2
  rw [cK9] at h0
  obtain ⟨a, e1, _⟩ := DataW.trod_int Try.underlying3 h1
  obtain ⟨b, e2, _⟩ := DataW.trod_int Try.underlying3 h2
  obtain ⟨sl, l, e0, hr⟩ := open_inss9 h0
  simp at e0 e1 e2
  subst e0 e1 e2
  exact ⟨(⟨l, a, b⟩, c0), rfl, hr, rfl, rfl, rfl⟩
set_option maxRecDepth 100000 in
/-- Code that came in. -/
theorem open_codes {r : Reach} {b0 : Nat} {v : Value} {d : DataW H} {q : List MemPlace} (hv : Value.okWide Try.prog W r b0 22 v) (h : DataW.Trod enc Try.prog W 0 (fun _ => true) true 22 v d q) : ∃ cs, InV W v cs := by
  obtain ⟨ao, k0, c0, rfl⟩ := okWide_slice Try.underlying22 hv
  obtain ⟨fuel, hf⟩ := h
  obtain ⟨p, len, cap, us, e, hl, hn, hall⟩ := open_row ((cd0, .slice none 0 0) : Cd × Value) (Q := fun c u => InsOf W u.2 u.1.ins ∧ c 0 = some u.2 ∧ c 1 = some (.int .i64 u.1.high) ∧ c 2 = some (.int .i64 u.1.steps)) Try.underlying22 cC9 (by decide) open_code9 hf
  have e' : Value.slice ao k0 c0 = .slice p len cap := by simpa [Value.cells] using e
  rw [e']
  refine ⟨us.map (fun u => u.1), us, ⟨p, cap, by rw [hl], by rw [hl]; exact hn, fun j u hj => ?_⟩, rfl⟩
  obtain ⟨g, o, hp, c, _, hcc, q0, q1, q2, q3⟩ := hall j u hj
  exact ⟨q0, g, o, hp, by simpa using hcc 0 _ q1, hcc 1 _ q2, hcc 2 _ q3⟩
set_option maxRecDepth 100000 in
theorem codes_stay {W' : World} {v : Value} {d : DataW H} {p : List MemPlace} (h : DataW.Trod enc Try.prog W 0 (fun _ => true) true 22 v d p) (hb : Below W.heap.size W W') (hlt : ∀ x ∈ p, x.block < W.heap.size) :
    DataW.Trod enc Try.prog W' 0 (fun b => decide (b < W.heap.size)) true 22 v d p :=
  Below.trod (by kernel_rfl) (by kernel_rfl) (of_decide_eq_true (by kernel_rfl)) h hb hlt
end Go.Proofs.Ytaeengpppehlfaa
