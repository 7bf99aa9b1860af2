/- The law VmBound walked. Written by genvmo.py. -/
import Derived.Test.YtclkmldegjdohaaUb08
import Derived.Test.YtclkmldegjdohaaUb04
import Derived.Lib.SmallJoins
import Derived.OpenShut
namespace Go.Proofs.Ytclkmldegjdohaa
open Go.RowKit Msk Vx

theorem eql_same9 (f : Nat → Bool) (w : World) : (binOp .eql 25 (.agg (mv f)) (.agg (mv f))).run Try.prog w = .ok (.bool true) w := by
  rw [eql_mask, eqm_true fun _ _ => rfl]
theorem eqi_same9 (f : Nat → Bool) (w : World) : (Op.equalIn 10000 25 (.agg (mv f)) (.agg (mv f))).run Try.prog w = .ok true w := by
  rw [eq_mask, eqm_true fun _ _ => rfl]
theorem both_self {f : M} (h : dayM f) : mv (fun i => (f i && f i) && decide (i < 1440)) = mv f := mv_ext fun i _ => by
  by_cases hi : i < 1440
  · simp [hi]
  · simp [hi, h i (by omega)]
/-- Where nothing is wrong with a run. -/
theorem runE_ok {cs : List Cd} {rule day : Int} (h : (runE cs rule day).1 = 0) : Right cs ∧ wrongV cs = (0, 0) ∧ (0 ≤ rule ∧ rule < cs.length) ∧ (0 ≤ day ∧ day < 146097) := by
  unfold runE at h
  by_cases h1 : (wrongV cs).1 = 0
  · rw [if_neg (fun e => e h1)] at h
    have hw2 : wrongV cs = (0, 0) := by
      unfold wrongV at h1 ⊢
      by_cases q1 : 40 < cs.length
      · rw [if_pos q1] at h1; simp at h1
      · rw [if_neg q1] at h1 ⊢
        by_cases q2 : (firstF (fun i => aloneE (cs.getD i cd0) cs.length) cs.length 0).1 ≠ 0
        · rw [if_pos q2] at h1; exact absurd h1 q2
        · rw [if_neg q2] at h1 ⊢
          exact (firstF_ok _ _ h1).1
    by_cases h2 : 0 ≤ rule ∧ rule < cs.length
    · rw [if_neg (fun e => e h2)] at h
      by_cases h3 : 0 ≤ day ∧ day < 146097
      · exact ⟨wrong_right h1, hw2, h2, h3⟩
      · rw [if_pos h3] at h; simp at h
    · rw [if_pos h2] at h; simp at h
  · rw [if_pos h1] at h; exact absurd h h1
set_option maxRecDepth 100000 in
set_option maxHeartbeats 4000000 in
theorem vbound_walk (cs : List Cd) (lv : Value) (rule day : Int) (w : World) (h : InV w lv cs) :
    Calls Try.prog 4 #[lv, .int .i64 rule, .int .i64 day] w fun e w' => e = .returned (.bool true) ∧ Below w.heap.size w w' := by
  have c0 := alive8_any w
  have HIN := hidv h
  obtain ⟨p, cp, elv, hlen, hcc⟩ := h.form
  have hz := mv_lit
  obtain ⟨er, her⟩ : ∃ q, (runE cs rule day).1 = q := ⟨_, rfl⟩
  obtain ⟨at_, hat⟩ : ∃ q : Int, ((runE cs rule day).2 : Int) = q := ⟨_, rfl⟩
  obtain ⟨f, hf⟩ : ∃ q, runM cs rule day = q := ⟨_, rfl⟩
  obtain ⟨n, hn⟩ : ∃ q, runN cs rule day = q := ⟨_, rfl⟩
  have HRN : Hid (∀ W, Below w.heap.size w W → Calls Try.prog 9 #[lv, .int .i64 rule, .int .i64 day] W (OutR f (n : Int) er at_ W)) := fun W hW => by
    have := vrun_any cs lv rule day W (h.below hW)
    rw [her, hat, hf, hn] at this
    exact this
  have HWR0 : Hid (er = 0 → ∀ W, Below w.heap.size w W → Calls Try.prog 11 #[lv] W fun e w' => e = .returned (.agg #[.int .i64 0, .int .i64 0]) ∧ Below W.heap.size W w') := fun e0 W hW => by
    have := vwrong_any cs lv W (h.below hW)
    rw [(runE_ok (her.trans e0)).2.1] at this
    exact this
  have HOK : Hid (er = 0 → (∃ ri : Nat, rule = (ri : Int) ∧ ri < cs.length ∧ ∃ u, cs[ri]? = some u ∧ (n : Int) ≤ u.steps) ∧ 1 ≤ n ∧ dayM f) := fun e0 => by
    obtain ⟨q1, _, q3, _⟩ := runE_ok (her.trans e0)
    have e1 : f = (evV (wkB9 day) day cs (cs.length + 1) rule.toNat).1 := by rw [← hf]; exact if_pos (her.trans e0)
    have e2 : n = (evV (wkB9 day) day cs (cs.length + 1) rule.toNat).2 := by rw [← hn]; exact if_pos (her.trans e0)
    have hr : rule.toNat < cs.length := by omega
    have hu : cs[rule.toNat]? = some cs[rule.toNat] := List.getElem?_eq_getElem hr
    have := q1.run (wk := wkB9 day) (day := day) (cs.length + 1) _ _ hu (by have := rk_le (callE cs) cs.length rule.toNat; omega)
    rw [← e2] at this
    refine ⟨⟨rule.toNat, by omega, hr, _, hu, this.2.1⟩, this.1, ?_⟩
    rw [e1]
    exact dayM_ev _ _
  have HNO : Hid (er ≠ 0 → n = 0 ∧ f = fun _ => false) := fun e0 => ⟨by rw [← hn]; exact if_neg (fun e => e0 (her.symm.trans e)), by rw [← hf]; exact if_neg (fun e => e0 (her.symm.trans e))⟩
  have HCC := hidv hcc
  clear h hcc her hat hf hn
  subst elv
  go_enter Try.func4, Try.ntmps4
  go_wp2_with fail
  refine c0.mono ?_
  rintro e w1 ⟨rfl, b1⟩
  have c1 := HRN.out w1 b1
  clear c0 HRN
  go_wp2_with fail
  refine c1.mono ?_
  rintro e w3 ⟨rfl, b3⟩
  have bb5 := b1.trans (b3.mono b1.size)
  clear c1 b3 b1
  have bA : Below w3.heap.size w3 ((w3.alloc (.cells (mv fun _ => false) 25)).alloc (.cells #[.int .i64 0, .int .i64 0] 28)) := ((Below.refl _ _).alloc (Nat.le_refl _) _).alloc (by simp) _
  have nM0 : ((w3.alloc (.cells (mv fun _ => false) 25)).alloc (.cells #[.int .i64 0, .int .i64 0] 28)).heap[w3.heap.size]? = some (.cells (mv fun _ => false) 25 (0, 0)) := by (repeat (first | refine blk_old _ _ _ (by simp only [size_alloc]; omega) ?_ | exact blk_new _ _ _ (by first | rfl | simp only [size_alloc])))
  have nF0 : ((w3.alloc (.cells (mv fun _ => false) 25)).alloc (.cells #[.int .i64 0, .int .i64 0] 28)).heap[w3.heap.size + 1]? = some (.cells #[.int .i64 0, .int .i64 0] 28 (0, 0)) := by (repeat (first | refine blk_old _ _ _ (by simp only [size_alloc]; omega) ?_ | exact blk_new _ _ _ (by first | rfl | simp only [size_alloc])))
  generalize hwA : (w3.alloc (.cells (mv fun _ => false) 25)).alloc (.cells #[.int .i64 0, .int .i64 0] 28) = wA at *
  have nM1 := setRow_heap _ _ _ (mv f) _ _ nM0
  have nF1 := (setRow_other wA w3.heap.size (w3.heap.size + 1) (mv f) (by omega)).trans nF0
  have bB := below_setRow bA (Nat.le_refl _) (mv f)
  generalize hwB : wA.setRow w3.heap.size (mv f) = wB at *
  have nM2 := (setRow_other wB (w3.heap.size + 1) w3.heap.size #[.int .i64 er, .int .i64 at_] (by omega)).trans nM1
  have nF2 := setRow_heap _ _ _ #[.int .i64 er, .int .i64 at_] _ _ nF1
  have bC := below_setRow bB (by omega : w3.heap.size ≤ w3.heap.size + 1) #[.int .i64 er, .int .i64 at_]
  generalize hwC : wB.setRow (w3.heap.size + 1) #[.int .i64 er, .int .i64 at_] = wC at *
  have zF := (cell_of_row _ _ 0 _ _ _ nF2).trans rfl
  have bb6 := bb5.trans (bC.mono bb5.size)
  clear bb5 bA bB bC nF2
  by_cases he : er = 0
  · subst he
    obtain ⟨⟨ri, rfl, hri, u, hu, hst⟩, hn1, hdf⟩ := HOK.out rfl
    obtain ⟨sv, _, g, o, hpe, _, _, e2⟩ := HCC.out ri u hu
    subst hpe
    have HWR : Hid (∀ W, Below wC.heap.size wC W → Calls Try.prog 11 #[.slice (some ⟨g, o, none⟩) cs.length cp] W fun e w' => e = .returned (.agg #[.int .i64 0, .int .i64 0]) ∧ Below W.heap.size W w') := fun W hW => HWR0.out rfl W (bb6.trans (hW.mono bb6.size))
    have HBO : Hid (∀ W, Calls Try.prog 14 #[.agg (mv f), .agg (mv f)] W fun e w' => e = .returned (.agg (mv f)) ∧ Below W.heap.size W w') := fun W => by
      have := both_any f f W
      rw [both_self hdf] at this
      exact this
    have HEQ : Hid (∀ W, (Op.equalIn 10000 25 (.agg (mv f)) (.agg (mv f))).run Try.prog W = .ok true W) := fun W => eqi_same9 f W
    have e2w := (bb6.cell (block_lt_of_cell e2)).trans e2
    have hr0 : (0 : Int) ≤ (ri : Int) := by omega
    have hr1 : (ri : Int) < (cs.length : Int) := by omega
    have hn1' : (1 : Int) ≤ (n : Int) := by omega
    obtain ⟨st, hst'⟩ : ∃ q, u.steps = q := ⟨_, rfl⟩
    rw [hst'] at e2w hst
    clear HOK HNO HCC HIN HWR0 hst' hdf e2 hu
    have e2 := e2w
    clear e2w
    go_wp2_with (first
      | (refine wpList_store_row rfl 25 _ _ rfl _ _ rfl rfl _ _ nM0 (maskSize _) (by simp [mv_size]) (mv_all _) ?_)
      | (refine wpList_store_row rfl 28 _ _ rfl _ _ rfl rfl _ _ nF1 (by kernel_rfl) (by simp) (by simp [Value.oneCell']) ?_))
    obtain ⟨rr, hrr⟩ : ∃ b, w3.heap.size = b := ⟨_, rfl⟩
    rw [hrr] at nM2
    simp only [hrr]
    clear hwA hwB hwC nM0 nF0 nM1 nF1 zF hrr
    refine wp_region_JL (fun _ W => Below wC.heap.size wC W) (fun L _ => (Below.refl _ _).drew) (by kernel_rfl) (by kernel_rfl) (by kernel_rfl) (by kernel_rfl) [(some 30, .slice (some ⟨g, o, none⟩) cs.length cp), (some 31, .agg #[.int .i64 0, .int .i64 0]), (some 32, .int .i64 0), (some 33, .bool true), (some 34, .bool true), (some 35, .int .i64 (n : Int)), (some 36, .bool true), (some 37, .bool true), (some 38, .bool true), (some 39, .int .i64 (n : Int)), (some 40, .slice (some ⟨g, o, none⟩) cs.length cp), (some 41, .int .i64 (ri : Int)), (some 42, .pointer (some ⟨g, o + ri * 3, none⟩)), (some 43, .pointer (some ⟨g, o + ri * 3 + 2, none⟩)), (some 44, .int .i64 st), (some 45, .bool true), (some 46, .bool true), (some 47, .bool true), (some 48, .agg (mv f)), (some 49, .agg (mv f)), (some 50, .agg (mv f)), (some 51, .agg (mv f)), (some 52, .bool true), (some 53, .bool true), (some 6, .bool true)] [(30, .slice (some ⟨g, o, none⟩) cs.length cp), (31, .agg #[.int .i64 0, .int .i64 0]), (32, .int .i64 0), (33, .bool true), (34, .bool true), (35, .int .i64 (n : Int)), (36, .bool true), (37, .bool true), (38, .bool true), (39, .int .i64 (n : Int)), (40, .slice (some ⟨g, o, none⟩) cs.length cp), (41, .int .i64 (ri : Int)), (42, .pointer (some ⟨g, o + ri * 3, none⟩)), (43, .pointer (some ⟨g, o + ri * 3 + 2, none⟩)), (44, .int .i64 st), (45, .bool true), (46, .bool true), (47, .bool true), (48, .agg (mv f)), (49, .agg (mv f)), (50, .agg (mv f)), (51, .agg (mv f)), (52, .bool true), (53, .bool true), (6, .bool true)] (by kernel_rfl) (by kernel_rfl) (by kernel_rfl) ?_ ?_
    · intro i' d v o' L A W2 ho hv hLi hdep hc hJ hkept hhas
      match i', ho, hv, hLi with
      | 0, ho, hv, hLi =>
        cases Option.some.inj ho
        cases Option.some.inj hv
        have h0 : A.tmps[0]?.getD undef = .slice (some ⟨g, o, none⟩) cs.length cp := (gd A 0).trans (hkept 0 (by kernel_rfl))
        refine wpOp_step rfl (fun K hK => ?_)
        go_simp
        exact hK _ _ ⟨rfl, hJ⟩
      | 1, ho, hv, hLi =>
        cases Option.some.inj ho
        cases Option.some.inj hv
        have h30 : A.tmps[30]?.getD undef = .slice (some ⟨g, o, none⟩) cs.length cp := (gd A 30).trans (hhas 0 30 _ rfl (hdep ⟨0, .data⟩ (by simp) rfl))
        refine wpOp_step rfl (fun K hK => ?_)
        go_simp
        refine (HWR.out W2 hJ).mono ?_
        rintro r' W' ⟨rfl, hb'⟩
        exact hK _ _ ⟨rfl, hJ.trans (hb'.mono hJ.size)⟩
      | 2, ho, hv, hLi =>
        cases Option.some.inj ho
        cases Option.some.inj hv
        have h31 : A.tmps[31]?.getD undef = .agg #[.int .i64 0, .int .i64 0] := (gd A 31).trans (hhas 1 31 _ rfl (hdep ⟨1, .data⟩ (by simp) rfl))
        refine wpOp_step rfl (fun K hK => ?_)
        go_simp
        exact hK _ _ ⟨rfl, hJ⟩
      | 3, ho, hv, hLi =>
        cases Option.some.inj ho
        cases Option.some.inj hv
        have h32 : A.tmps[32]?.getD undef = .int .i64 0 := (gd A 32).trans (hhas 2 32 _ rfl (hdep ⟨2, .data⟩ (by simp) rfl))
        refine wpOp_step rfl (fun K hK => ?_)
        go_simp
        exact hK _ _ ⟨rfl, hJ⟩
      | 4, ho, hv, hLi =>
        cases Option.some.inj ho
        cases Option.some.inj hv
        have h33 : A.tmps[33]?.getD undef = .bool true := (gd A 33).trans (hhas 3 33 _ rfl (hdep ⟨3, .data⟩ (by simp) rfl))
        refine wpOp_step rfl (fun K hK => ?_)
        go_simp
        exact hK _ _ ⟨rfl, hJ⟩
      | 5, ho, hv, hLi =>
        cases Option.some.inj ho
        cases Option.some.inj hv
        have hG : A.tmps[34]? = some (.bool true) := gdb (hhas 4 34 _ rfl (hdep ⟨4, .guard⟩ (by simp) rfl))
        have h8 : A.tmps[8]?.getD undef = .int .i64 (n : Int) := (gd A 8).trans (hkept 8 (by kernel_rfl))
        refine wpOp_step rfl (fun K hK => ?_)
        go_simp
        exact hK _ _ ⟨rfl, hJ⟩
      | 6, ho, hv, hLi =>
        cases Option.some.inj ho
        cases Option.some.inj hv
        have hG : A.tmps[34]? = some (.bool true) := gdb (hhas 4 34 _ rfl (hdep ⟨4, .guard⟩ (by simp) rfl))
        have h35 : A.tmps[35]?.getD undef = .int .i64 (n : Int) := (gd A 35).trans (hhas 5 35 _ rfl (hdep ⟨5, .data⟩ (by simp) rfl))
        refine wpOp_step rfl (fun K hK => ?_)
        go_simp
        exact hK _ _ ⟨rfl, hJ⟩
      | 7, ho, hv, hLi =>
        cases Option.some.inj ho
        cases Option.some.inj hv
        have h34 : A.tmps[34]?.getD undef = .bool true := (gd A 34).trans (hhas 4 34 _ rfl (hdep ⟨4, .data⟩ (by simp) rfl))
        have h36 : A.tmps[36]?.getD undef = .bool true := (gd A 36).trans (hhas 6 36 _ rfl (hdep ⟨6, .data⟩ (by simp) rfl))
        refine wpOp_step rfl (fun K hK => ?_)
        go_simp
        exact hK _ _ ⟨rfl, hJ⟩
      | 8, ho, hv, hLi =>
        cases Option.some.inj ho
        cases Option.some.inj hv
        have h37 : A.tmps[37]?.getD undef = .bool true := (gd A 37).trans (hhas 7 37 _ rfl (hdep ⟨7, .data⟩ (by simp) rfl))
        refine wpOp_step rfl (fun K hK => ?_)
        go_simp
        exact hK _ _ ⟨rfl, hJ⟩
      | 9, ho, hv, hLi =>
        cases Option.some.inj ho
        cases Option.some.inj hv
        have hG : A.tmps[38]? = some (.bool true) := gdb (hhas 8 38 _ rfl (hdep ⟨8, .guard⟩ (by simp) rfl))
        have h8 : A.tmps[8]?.getD undef = .int .i64 (n : Int) := (gd A 8).trans (hkept 8 (by kernel_rfl))
        refine wpOp_step rfl (fun K hK => ?_)
        go_simp
        exact hK _ _ ⟨rfl, hJ⟩
      | 10, ho, hv, hLi =>
        cases Option.some.inj ho
        cases Option.some.inj hv
        have hG : A.tmps[38]? = some (.bool true) := gdb (hhas 8 38 _ rfl (hdep ⟨8, .guard⟩ (by simp) rfl))
        have h0 : A.tmps[0]?.getD undef = .slice (some ⟨g, o, none⟩) cs.length cp := (gd A 0).trans (hkept 0 (by kernel_rfl))
        refine wpOp_step rfl (fun K hK => ?_)
        go_simp
        exact hK _ _ ⟨rfl, hJ⟩
      | 11, ho, hv, hLi =>
        cases Option.some.inj ho
        cases Option.some.inj hv
        have hG : A.tmps[38]? = some (.bool true) := gdb (hhas 8 38 _ rfl (hdep ⟨8, .guard⟩ (by simp) rfl))
        have h1 : A.tmps[1]?.getD undef = .int .i64 (ri : Int) := (gd A 1).trans (hkept 1 (by kernel_rfl))
        refine wpOp_step rfl (fun K hK => ?_)
        go_simp
        exact hK _ _ ⟨rfl, hJ⟩
      | 12, ho, hv, hLi =>
        cases Option.some.inj ho
        cases Option.some.inj hv
        have hG : A.tmps[38]? = some (.bool true) := gdb (hhas 8 38 _ rfl (hdep ⟨8, .guard⟩ (by simp) rfl))
        have h40 : A.tmps[40]?.getD undef = .slice (some ⟨g, o, none⟩) cs.length cp := (gd A 40).trans (hhas 10 40 _ rfl (hdep ⟨10, .data⟩ (by simp) rfl))
        have h41 : A.tmps[41]?.getD undef = .int .i64 (ri : Int) := (gd A 41).trans (hhas 11 41 _ rfl (hdep ⟨11, .data⟩ (by simp) rfl))
        refine wpOp_step rfl (fun K hK => ?_)
        go_simp
        exact hK _ _ ⟨rfl, hJ⟩
      | 13, ho, hv, hLi =>
        cases Option.some.inj ho
        cases Option.some.inj hv
        have hG : A.tmps[38]? = some (.bool true) := gdb (hhas 8 38 _ rfl (hdep ⟨8, .guard⟩ (by simp) rfl))
        have h42 : A.tmps[42]?.getD undef = .pointer (some ⟨g, o + ri * 3, none⟩) := (gd A 42).trans (hhas 12 42 _ rfl (hdep ⟨12, .data⟩ (by simp) rfl))
        have z := (hJ.cell (block_lt_of_cell e2)).trans e2
        refine wpOp_step rfl (fun K hK => ?_)
        go_simp
        exact hK _ _ ⟨rfl, hJ⟩
      | 14, ho, hv, hLi =>
        cases Option.some.inj ho
        cases Option.some.inj hv
        have hG : A.tmps[38]? = some (.bool true) := gdb (hhas 8 38 _ rfl (hdep ⟨8, .guard⟩ (by simp) rfl))
        have h43 : A.tmps[43]?.getD undef = .pointer (some ⟨g, o + ri * 3 + 2, none⟩) := (gd A 43).trans (hhas 13 43 _ rfl (hdep ⟨13, .data⟩ (by simp) rfl))
        have z := (hJ.cell (block_lt_of_cell e2)).trans e2
        refine wpOp_step rfl (fun K hK => ?_)
        go_simp
        exact hK _ _ ⟨rfl, hJ⟩
      | 15, ho, hv, hLi =>
        cases Option.some.inj ho
        cases Option.some.inj hv
        have hG : A.tmps[38]? = some (.bool true) := gdb (hhas 8 38 _ rfl (hdep ⟨8, .guard⟩ (by simp) rfl))
        have h39 : A.tmps[39]?.getD undef = .int .i64 (n : Int) := (gd A 39).trans (hhas 9 39 _ rfl (hdep ⟨9, .data⟩ (by simp) rfl))
        have h44 : A.tmps[44]?.getD undef = .int .i64 st := (gd A 44).trans (hhas 14 44 _ rfl (hdep ⟨14, .data⟩ (by simp) rfl))
        refine wpOp_step rfl (fun K hK => ?_)
        go_simp
        exact hK _ _ ⟨rfl, hJ⟩
      | 16, ho, hv, hLi =>
        cases Option.some.inj ho
        cases Option.some.inj hv
        have h38 : A.tmps[38]?.getD undef = .bool true := (gd A 38).trans (hhas 8 38 _ rfl (hdep ⟨8, .data⟩ (by simp) rfl))
        have h45 : A.tmps[45]?.getD undef = .bool true := (gd A 45).trans (hhas 15 45 _ rfl (hdep ⟨15, .data⟩ (by simp) rfl))
        refine wpOp_step rfl (fun K hK => ?_)
        go_simp
        exact hK _ _ ⟨rfl, hJ⟩
      | 17, ho, hv, hLi =>
        cases Option.some.inj ho
        cases Option.some.inj hv
        have h46 : A.tmps[46]?.getD undef = .bool true := (gd A 46).trans (hhas 16 46 _ rfl (hdep ⟨16, .data⟩ (by simp) rfl))
        refine wpOp_step rfl (fun K hK => ?_)
        go_simp
        exact hK _ _ ⟨rfl, hJ⟩
      | 18, ho, hv, hLi =>
        cases Option.some.inj ho
        cases Option.some.inj hv
        have hG : A.tmps[47]? = some (.bool true) := gdb (hhas 17 47 _ rfl (hdep ⟨17, .guard⟩ (by simp) rfl))
        have h7 : A.eval (.tmp 7) = .pointer (some ⟨rr, 0, none⟩) := hkept 7 (by kernel_rfl)
        refine wpOp_step rfl (fun K hK => ?_)
        rw [if_pos (by simp [Region.wanted, yielded, hG])]
        refine wp_load_row 25 _ rfl _ h7 _ _ _ _ ((hJ.block _ (lt_of_block nM2)).trans nM2) maskType rfl (maskSize _) ?_
        exact hK _ _ ⟨rfl, hJ⟩
      | 19, ho, hv, hLi =>
        cases Option.some.inj ho
        cases Option.some.inj hv
        have hG : A.tmps[47]? = some (.bool true) := gdb (hhas 17 47 _ rfl (hdep ⟨17, .guard⟩ (by simp) rfl))
        have h7 : A.eval (.tmp 7) = .pointer (some ⟨rr, 0, none⟩) := hkept 7 (by kernel_rfl)
        refine wpOp_step rfl (fun K hK => ?_)
        rw [if_pos (by simp [Region.wanted, yielded, hG])]
        refine wp_load_row 25 _ rfl _ h7 _ _ _ _ ((hJ.block _ (lt_of_block nM2)).trans nM2) maskType rfl (maskSize _) ?_
        exact hK _ _ ⟨rfl, hJ⟩
      | 20, ho, hv, hLi =>
        cases Option.some.inj ho
        cases Option.some.inj hv
        have hG : A.tmps[47]? = some (.bool true) := gdb (hhas 17 47 _ rfl (hdep ⟨17, .guard⟩ (by simp) rfl))
        have h48 : A.tmps[48]?.getD undef = .agg (mv f) := (gd A 48).trans (hhas 18 48 _ rfl (hdep ⟨18, .data⟩ (by simp) rfl))
        have h49 : A.tmps[49]?.getD undef = .agg (mv f) := (gd A 49).trans (hhas 19 49 _ rfl (hdep ⟨19, .data⟩ (by simp) rfl))
        refine wpOp_step rfl (fun K hK => ?_)
        go_simp
        refine (HBO.out W2).mono ?_
        rintro r' W' ⟨rfl, hb'⟩
        exact hK _ _ ⟨rfl, hJ.trans (hb'.mono hJ.size)⟩
      | 21, ho, hv, hLi =>
        cases Option.some.inj ho
        cases Option.some.inj hv
        have hG : A.tmps[47]? = some (.bool true) := gdb (hhas 17 47 _ rfl (hdep ⟨17, .guard⟩ (by simp) rfl))
        have h7 : A.eval (.tmp 7) = .pointer (some ⟨rr, 0, none⟩) := hkept 7 (by kernel_rfl)
        refine wpOp_step rfl (fun K hK => ?_)
        rw [if_pos (by simp [Region.wanted, yielded, hG])]
        refine wp_load_row 25 _ rfl _ h7 _ _ _ _ ((hJ.block _ (lt_of_block nM2)).trans nM2) maskType rfl (maskSize _) ?_
        exact hK _ _ ⟨rfl, hJ⟩
      | 22, ho, hv, hLi =>
        cases Option.some.inj ho
        cases Option.some.inj hv
        have hG : A.tmps[47]? = some (.bool true) := gdb (hhas 17 47 _ rfl (hdep ⟨17, .guard⟩ (by simp) rfl))
        have h50 : A.tmps[50]?.getD undef = .agg (mv f) := (gd A 50).trans (hhas 20 50 _ rfl (hdep ⟨20, .data⟩ (by simp) rfl))
        have h51 : A.tmps[51]?.getD undef = .agg (mv f) := (gd A 51).trans (hhas 21 51 _ rfl (hdep ⟨21, .data⟩ (by simp) rfl))
        have hq := HEQ.out W2
        refine wpOp_step rfl (fun K hK => ?_)
        go_simp
        exact hK _ _ ⟨rfl, hJ⟩
      | 23, ho, hv, hLi =>
        cases Option.some.inj ho
        cases Option.some.inj hv
        have h47 : A.tmps[47]?.getD undef = .bool true := (gd A 47).trans (hhas 17 47 _ rfl (hdep ⟨17, .data⟩ (by simp) rfl))
        have h52 : A.tmps[52]?.getD undef = .bool true := (gd A 52).trans (hhas 22 52 _ rfl (hdep ⟨22, .data⟩ (by simp) rfl))
        refine wpOp_step rfl (fun K hK => ?_)
        go_simp
        exact hK _ _ ⟨rfl, hJ⟩
      | 24, ho, hv, hLi =>
        cases Option.some.inj ho
        cases Option.some.inj hv
        have h53 : A.tmps[53]?.getD undef = .bool true := (gd A 53).trans (hhas 23 53 _ rfl (hdep ⟨23, .data⟩ (by simp) rfl))
        refine wpOp_step rfl (fun K hK => ?_)
        go_simp
        exact hK _ _ ⟨rfl, hJ⟩
      | kk + 25, ho, hv, hLi => simp at hv
    · intro L W5 hL hJ
      simp only [putAll_cons, putAll_nil, Act.put, List.setIfInBounds_toArray, List.set_cons_succ, List.set_cons_zero]
      clear hL
      have HB := hidv (bb6.trans (hJ.mono bb6.size))
      clear hJ bb6
      go_wp2_with fail
      go_ret
      exact ⟨rfl, HB.out⟩
  · obtain ⟨rfl, rfl⟩ := HNO.out he
    have hb0 : (er == 0) = false := beq_eq_false_iff_ne.2 he
    have hbn : (er != 0) = true := by simpa using he
    have HB := hidv bb6
    have hq := fun W => eqi_same9 (fun _ => false) W
    have hq2 := fun W => eql_same9 (fun _ => false) W
    clear HOK HNO HCC HIN HWR0 he bb6
    go_wp2_with (first
      | (refine wpList_store_row rfl 25 _ _ rfl _ _ rfl rfl _ _ nM0 (maskSize _) (by simp [mv_size]) (mv_all _) ?_)
      | (refine wpList_store_row rfl 28 _ _ rfl _ _ rfl rfl _ _ nF1 (by kernel_rfl) (by simp) (by simp [Value.oneCell']) ?_)
      | (refine load_g (by rfl) _ (by rfl) w3.heap.size (by rfl) (fun _ => false) ?r ?_; (case r => exact nM2)))
    go_ret
    exact ⟨rfl, HB.out⟩
end Go.Proofs.Ytclkmldegjdohaa

/- How code that came in reads: the rows of instructions, and of rules' code, in memory as it is. -/
namespace Go.Proofs.Ytclkmldegjdohaa
open Go.ChangeShapes Go.WideShapes Go.ChangeAt Go.WideMaps Go.WideElems Go.RowKit Go.Joins Vx
variable {H : Type} {enc : TypeId × Value → H} {W : World}

theorem cI9 : Try.prog.cellsOf 65 = 5 := by kernel_rfl
theorem cC9 : Try.prog.cellsOf 36 = 3 := by kernel_rfl
theorem cS9 : Try.prog.cellsOf 97 = 2 := by kernel_rfl
theorem cN9 : Try.prog.cellsOf 3 = 1 := by kernel_rfl
theorem cL9 : Try.prog.cellsOf 63 = 1 := by kernel_rfl
theorem cK9 : Try.prog.cellsOf 34 = 1 := by kernel_rfl
theorem add9 (g o n : Nat) : (⟨g, o, none⟩ : Addr).add n = ⟨g, o + n, none⟩ := by
  by_cases h : n = 0
  · subst h; simp [Addr.add]
  · simp [Addr.add, h]
theorem two9 {α : Type} {l : List α} (h : l.length = 2) : ∃ a b, l = [a, b] := by
  match l, h with
  | [a, b], _ => exact ⟨a, b, rfl⟩
theorem three9 {α : Type} {l : List α} (h : l.length = 3) : ∃ a b c, l = [a, b, c] := by
  match l, h with
  | [a, b, c], _ => exact ⟨a, b, c, rfl⟩
theorem five9 {α : Type} {l : List α} (h : l.length = 5) : ∃ a b c d e, l = [a, b, c, d, e] := by
  match l, h with
  | [a, b, c, d, e], _ => exact ⟨a, b, c, d, e, rfl⟩
/-- A row whose elements are read one by one. -/
theorem open_row {α : Type} (d0 : α) {size : Nat} {t e : TypeId} (ht : Try.prog.underlying t = some (.slice e)) (hsz : Try.prog.cellsOf e = size) (h0 : 0 < size) (Q : (Nat → Option Value) → α → Prop)
    (hel : ∀ (fuel : Nat) (cs : List Value) (y : DataW H × List MemPlace), DataW.trod enc Try.prog W 0 (fun _ => true) true fuel e cs = some y → ∃ u : α, cs.length = size ∧ Q (fun k => cs[k]?) u) {fuel : Nat} {cs : List Value} {x : DataW H × List MemPlace}
    (h : DataW.trod enc Try.prog W 0 (fun _ => true) true fuel t cs = some x) :
    ∃ (p : Option Addr) (len cap : Nat) (us : List α), cs = [.slice p len cap] ∧ us.length = len ∧ len < 9223372036854775808 ∧ ∀ (j : Nat) (u : α), us[j]? = some u → ∃ g o : Nat, p = some ⟨g, o, none⟩ ∧ ∃ c : List Value, c.length = size ∧ (∀ k v, c[k]? = some v → W.cell? ⟨g, o + j * size + k, none⟩ = some v) ∧ Q (fun k => c[k]?) u := by
  rcases DataW.trod_slice ht h with ⟨e1, _⟩ | ⟨a, len, cap, elems, rest, m, hf, e1, _, _, hlc, hm, hlen, hall, _⟩
  · exact ⟨none, 0, 0, [], e1, rfl, by decide, fun j u hj => by simp at hj⟩
  · have hl2 : len < 9223372036854775808 := by unfold maxLen at hm; omega
    have each : ∀ i, i < len → ∃ u : α, ∃ g o : Nat, a = ⟨g, o, none⟩ ∧ ∃ c : List Value, c.length = size ∧ (∀ k v, c[k]? = some v → W.cell? ⟨g, o + i * size + k, none⟩ = some v) ∧ Q (fun k => c[k]?) u := by
      intro i hi
      have h1 := hall i hi
      rw [hsz] at h1
      have hy : elems[i]? = some (elems[i]'(by omega)) := List.getElem?_eq_getElem _
      rw [hy, Option.bind_eq_some_iff] at h1
      obtain ⟨c, hc, htr⟩ := h1
      obtain ⟨u, hcl, hq⟩ := hel _ _ _ htr
      have spot : a.spot = none := by
        have h2 := hall 0 (by omega)
        rw [hsz] at h2
        have hy0 : elems[0]? = some (elems[0]'(by omega)) := List.getElem?_eq_getElem _
        rw [hy0, Option.bind_eq_some_iff] at h2
        obtain ⟨c', hc', htr'⟩ := h2
        obtain ⟨_, hcl', _⟩ := hel _ _ _ htr'
        have e0 : c'[0]? = some (c'[0]'(by omega)) := List.getElem?_eq_getElem _
        have q0 := (World.cells?_some hc').2.2 0 (by omega)
        rw [e0] at q0
        have q' := World.cell?_spot q0
        simpa [Addr.add] using q'
      obtain ⟨g, o, s⟩ := a
      have q := (World.cells?_some hc).2.2
      dsimp only at spot
      subst spot
      refine ⟨u, g, o, rfl, c, hcl, fun k v hk => ?_, hq⟩
      have hk' : k < c.length := (List.getElem?_eq_some_iff.1 hk).1
      have qk := q k (by omega)
      rw [add9, add9, hk] at qk
      exact qk
    let pick : Nat → α := fun i => if h : i < len then Classical.choose (each i h) else d0
    have hpick : ∀ i (h : i < len), pick i = Classical.choose (each i h) := fun i h => by simp only [pick, h, dif_pos]
    refine ⟨some a, len, cap, (List.range len).map pick, e1, by simp, hl2, fun j u hj => ?_⟩
    have hjl : j < len := by
      have := (List.getElem?_eq_some_iff.1 hj).1
      simpa using this
    rw [List.getElem?_map, List.getElem?_range hjl] at hj
    have hu : u = Classical.choose (each j hjl) := (Option.some.inj hj).symm.trans (hpick j hjl)
    rw [hu]
    obtain ⟨g, o, ea, c, h1, h2, h3⟩ := Classical.choose_spec (each j hjl)
    exact ⟨g, o, by rw [ea], c, h1, h2, h3⟩
theorem open_span9 (fuel : Nat) (cs : List Value) (y : DataW H × List MemPlace) (h : DataW.trod enc Try.prog W 0 (fun _ => true) true fuel 97 cs = some y) : ∃ u : Int × Int, cs.length = 2 ∧ (fun k => cs[k]?) 0 = some (.int .i64 u.1) ∧ (fun k => cs[k]?) 1 = some (.int .i64 u.2) := by
  obtain ⟨y0, y1, m, rfl, hl, h0, h1⟩ := trod_struct2 Try.underlying97 h
  rw [cS9] at hl
  dsimp only at h0 h1
  rw [cN9] at h0 h1
  obtain ⟨x, e0, _⟩ := DataW.trod_int Try.underlying3 h0
  obtain ⟨z, e1, _⟩ := DataW.trod_int Try.underlying3 h1
  obtain ⟨c0, c1, rfl⟩ := two9 hl
  simp at e0 e1
  subst e0 e1
  exact ⟨(x, z), rfl, rfl, rfl⟩
/-- A row of spans that came in. -/
theorem open_spans9 {fuel : Nat} {cs : List Value} {x : DataW H × List MemPlace} (h : DataW.trod enc Try.prog W 0 (fun _ => true) true fuel 63 cs = some x) : ∃ (sl : Value) (l : List (Int × Int)), cs = [sl] ∧ RowV W sl l := by
  obtain ⟨p, len, cap, us, e, hl, hn, hall⟩ := open_row ((0, 0) : Int × Int) (Q := fun c u => c 0 = some (.int .i64 u.1) ∧ c 1 = some (.int .i64 u.2)) Try.underlying63 cS9 (by decide) open_span9 h
  refine ⟨_, us, e, ?_⟩
  cases us with
  | nil =>
    left
    simp at hl
    subst hl
    exact ⟨rfl, p, cap, rfl⟩
  | cons u0 us' =>
    right
    right
    obtain ⟨g, o, hp, _⟩ := hall 0 u0 rfl
    refine ⟨g, o, cap, by rw [hp, hl], by rw [hl]; exact hn, fun j hj => ?_⟩
    obtain ⟨u, hu⟩ : ∃ u, (u0 :: us')[j]? = some u := ⟨_, List.getElem?_eq_getElem hj⟩
    obtain ⟨g', o', hp', c, hcl, hcc, q0, q1⟩ := hall j u hu
    rw [hp] at hp'
    cases hp'
    have e : (u0 :: us').getD j (0, 0) = u := by simp [List.getD, hu]
    rw [e]
    exact ⟨by simpa using hcc 0 _ q0, hcc 1 _ q1⟩
set_option maxRecDepth 100000 in
theorem open_ins9 (fuel : Nat) (cs : List Value) (y : DataW H × List MemPlace) (h : DataW.trod enc Try.prog W 0 (fun _ => true) true fuel 65 cs = some y) : ∃ u : In × Value, cs.length = 5 ∧ RowV W u.2 u.1.sp ∧ (fun k => cs[k]?) 0 = some (.int .i64 u.1.op) ∧ (fun k => cs[k]?) 1 = some (.int .i64 u.1.a) ∧ (fun k => cs[k]?) 2 = some (.int .i64 u.1.b) ∧ (fun k => cs[k]?) 3 = some (.int .i64 u.1.to) ∧ (fun k => cs[k]?) 4 = some u.2 := by
  obtain ⟨xs, m, hf, _, hl, hx, hall⟩ := DataW.trod_struct Try.underlying65 h
  rw [cI9] at hl
  have hx5 : xs.length = 5 := hx
  obtain ⟨c0, c1, c2, c3, c4, rfl⟩ := five9 hl
  obtain ⟨x0, x1, x2, x3, x4, rfl⟩ := five9 hx5
  have h0 : DataW.trod enc Try.prog W 0 (fun _ => true) true m 3 (([c0, c1, c2, c3, c4].drop 0).take (Try.prog.cellsOf 3)) = some x0 := hall 0 _ rfl
  have h1 : DataW.trod enc Try.prog W 0 (fun _ => true) true m 3 (([c0, c1, c2, c3, c4].drop 1).take (Try.prog.cellsOf 3)) = some x1 := hall 1 _ rfl
  have h2 : DataW.trod enc Try.prog W 0 (fun _ => true) true m 3 (([c0, c1, c2, c3, c4].drop 2).take (Try.prog.cellsOf 3)) = some x2 := hall 2 _ rfl
  have h3 : DataW.trod enc Try.prog W 0 (fun _ => true) true m 3 (([c0, c1, c2, c3, c4].drop 3).take (Try.prog.cellsOf 3)) = some x3 := hall 3 _ rfl
  have h4 : DataW.trod enc Try.prog W 0 (fun _ => true) true m 63 (([c0, c1, c2, c3, c4].drop 4).take (Try.prog.cellsOf 63)) = some x4 := hall 4 _ rfl
  rw [cN9] at h0 h1 h2 h3
  rw [cL9] at h4
  obtain ⟨k, e0, _⟩ := DataW.trod_int Try.underlying3 h0
  obtain ⟨a, e1, _⟩ := DataW.trod_int Try.underlying3 h1
  obtain ⟨b, e2, _⟩ := DataW.trod_int Try.underlying3 h2
  obtain ⟨t, e3, _⟩ := DataW.trod_int Try.underlying3 h3
  obtain ⟨sl, l, e4, hr⟩ := open_spans9 h4
  simp at e0 e1 e2 e3 e4
  subst e0 e1 e2 e3 e4
  exact ⟨(⟨k, a, b, t, l⟩, c4), rfl, hr, rfl, rfl, rfl, rfl, rfl⟩
theorem open_inss9 {fuel : Nat} {cs : List Value} {x : DataW H × List MemPlace} (h : DataW.trod enc Try.prog W 0 (fun _ => true) true fuel 34 cs = some x) : ∃ (sl : Value) (l : List In), cs = [sl] ∧ InsOf W sl l := by
  obtain ⟨p, len, cap, us, e, hl, hn, hall⟩ := open_row ((in0, .slice none 0 0) : In × Value) (Q := fun c u => RowV W u.2 u.1.sp ∧ c 0 = some (.int .i64 u.1.op) ∧ c 1 = some (.int .i64 u.1.a) ∧ c 2 = some (.int .i64 u.1.b) ∧ c 3 = some (.int .i64 u.1.to) ∧ c 4 = some u.2) Try.underlying34 cI9 (by decide) open_ins9 h
  refine ⟨_, us.map (fun u => u.1), e, us, ⟨p, cap, by rw [hl], by rw [hl]; exact hn, fun j u hj => ?_⟩, rfl⟩
  obtain ⟨g, o, hp, c, _, hcc, q0, q1, q2, q3, q4, q5⟩ := hall j u hj
  exact ⟨q0, g, o, hp, by simpa using hcc 0 _ q1, hcc 1 _ q2, hcc 2 _ q3, hcc 3 _ q4, hcc 4 _ q5⟩
set_option maxRecDepth 100000 in
theorem open_code9 (fuel : Nat) (cs : List Value) (y : DataW H × List MemPlace) (h : DataW.trod enc Try.prog W 0 (fun _ => true) true fuel 36 cs = some y) : ∃ u : Cd × Value, cs.length = 3 ∧ InsOf W u.2 u.1.ins ∧ (fun k => cs[k]?) 0 = some u.2 ∧ (fun k => cs[k]?) 1 = some (.int .i64 u.1.high) ∧ (fun k => cs[k]?) 2 = some (.int .i64 u.1.steps) := by
  obtain ⟨xs, m, hf, _, hl, hx, hall⟩ := DataW.trod_struct Try.underlying36 h
  rw [cC9] at hl
  have hx3 : xs.length = 3 := hx
  obtain ⟨c0, c1, c2, rfl⟩ := three9 hl
  obtain ⟨x0, x1, x2, rfl⟩ := three9 hx3
  have h0 : DataW.trod enc Try.prog W 0 (fun _ => true) true m 34 (([c0, c1, c2].drop 0).take (Try.prog.cellsOf 34)) = some x0 := hall 0 _ rfl
  have h1 : DataW.trod enc Try.prog W 0 (fun _ => true) true m 3 (([c0, c1, c2].drop 1).take (Try.prog.cellsOf 3)) = some x1 := hall 1 _ rfl
  have h2 : DataW.trod enc Try.prog W 0 (fun _ => true) true m 3 (([c0, c1, c2].drop 2).take (Try.prog.cellsOf 3)) = some x2 := hall 2 _ rfl
  rw [cN9] at h1 h2
  rw [cK9] at h0
  obtain ⟨a, e1, _⟩ := DataW.trod_int Try.underlying3 h1
  obtain ⟨b, e2, _⟩ := DataW.trod_int Try.underlying3 h2
  obtain ⟨sl, l, e0, hr⟩ := open_inss9 h0
  simp at e0 e1 e2
  subst e0 e1 e2
  exact ⟨(⟨l, a, b⟩, c0), rfl, hr, rfl, rfl, rfl⟩
set_option maxRecDepth 100000 in
/-- Code that came in. -/
theorem open_codes {r : Reach} {b0 : Nat} {v : Value} {d : DataW H} {q : List MemPlace} (hv : Value.okWide Try.prog W r b0 22 v) (h : DataW.Trod enc Try.prog W 0 (fun _ => true) true 22 v d q) : ∃ cs, InV W v cs := by
  obtain ⟨ao, k0, c0, rfl⟩ := okWide_slice Try.underlying22 hv
  obtain ⟨fuel, hf⟩ := h
  obtain ⟨p, len, cap, us, e, hl, hn, hall⟩ := open_row ((cd0, .slice none 0 0) : Cd × Value) (Q := fun c u => InsOf W u.2 u.1.ins ∧ c 0 = some u.2 ∧ c 1 = some (.int .i64 u.1.high) ∧ c 2 = some (.int .i64 u.1.steps)) Try.underlying22 cC9 (by decide) open_code9 hf
  have e' : Value.slice ao k0 c0 = .slice p len cap := by simpa [Value.cells] using e
  rw [e']
  refine ⟨us.map (fun u => u.1), us, ⟨p, cap, by rw [hl], by rw [hl]; exact hn, fun j u hj => ?_⟩, rfl⟩
  obtain ⟨g, o, hp, c, _, hcc, q0, q1, q2, q3⟩ := hall j u hj
  exact ⟨q0, g, o, hp, by simpa using hcc 0 _ q1, hcc 1 _ q2, hcc 2 _ q3⟩
set_option maxRecDepth 100000 in
theorem codes_stay {W' : World} {v : Value} {d : DataW H} {p : List MemPlace} (h : DataW.Trod enc Try.prog W 0 (fun _ => true) true 22 v d p) (hb : Below W.heap.size W W') (hlt : ∀ x ∈ p, x.block < W.heap.size) :
    DataW.Trod enc Try.prog W' 0 (fun b => decide (b < W.heap.size)) true 22 v d p :=
  Below.trod (by kernel_rfl) (by kernel_rfl) (of_decide_eq_true (by kernel_rfl)) h hb hlt
end Go.Proofs.Ytclkmldegjdohaa
