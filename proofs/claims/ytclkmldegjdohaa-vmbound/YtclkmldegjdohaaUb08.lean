/- vm.Run. Written by genvmm.py. -/
import Derived.Test.YtclkmldegjdohaaUb07
import Derived.Test.YtclkmldegjdohaaUb05
namespace Go.Proofs.Ytclkmldegjdohaa
open Go.RowKit Msk Vx

/-- What is wrong with a run; what comes of it; in how many steps. -/
def runE (cs : List Cd) (rule day : Int) : Int × Nat := if (wrongV cs).1 ≠ 0 then wrongV cs else if ¬ (0 ≤ rule ∧ rule < cs.length) then (6, 0) else if ¬ (0 ≤ day ∧ day < 146097) then (3, 0) else (0, 0)
def runM (cs : List Cd) (rule day : Int) : M := if (runE cs rule day).1 = 0 then (evV (wkB9 day) day cs (cs.length + 1) rule.toNat).1 else fun _ => false
def runN (cs : List Cd) (rule day : Int) : Nat := if (runE cs rule day).1 = 0 then (evV (wkB9 day) day cs (cs.length + 1) rule.toNat).2 else 0
def OutR (f : M) (n er at_ : Int) (w : World) (e : Ending) (w' : World) : Prop := e = .returned (.tuple #[.agg (mv f), .int .i64 n, .agg #[.int .i64 er, .int .i64 at_]]) ∧ Below w.heap.size w w'
theorem run_post {R : Ending → World → Prop} {a : Act} {w : World} (g g' : Nat) (f : M) (n er at_ : Int) (hd : a.defers = []) (h6 : a.tmps.getD 6 undef = .pointer (some ⟨g, 0, none⟩)) (h7 : a.tmps.getD 7 undef = .int .i64 n) (h8 : a.tmps.getD 8 undef = .pointer (some ⟨g', 0, none⟩))
    (hg : w.heap[g]? = some (.cells (mv f) 25 (0, 0))) (hg' : w.heap[g']? = some (.cells #[.int .i64 er, .int .i64 at_] 28 (0, 0))) (hR : R (.returned (.tuple #[.agg (mv f), .int .i64 n, .agg #[.int .i64 er, .int .i64 at_]])) w) : bodyPost Try.prog Try.f9 R .ret a w := by
  refine bodyPost_ret (v := .tuple #[.agg (mv f), .int .i64 n, .agg #[.int .i64 er, .int .i64 at_]]) ?_ hd hR
  have h6' : a.tmps[6]?.getD undef = .pointer (some ⟨g, 0, none⟩) := by simpa using h6
  have h7' : a.tmps[7]?.getD undef = .int .i64 n := by simpa using h7
  have h8' : a.tmps[8]?.getD undef = .pointer (some ⟨g', 0, none⟩) := by simpa using h8
  have hv := run_loadVar_row (P := Try.prog) w g 25 25 _ _ _ hg maskType rfl (maskSize _)
  have hv' := run_loadVar_row (P := Try.prog) w g' 28 28 _ _ _ hg' faultTypeV rfl (by kernel_rfl)
  simp [results, Try.results9, h6', h7', h8', asAddr, hv, hv']
/-- What is said of the world while a fault is handed on. -/
structure FtJ (w : World) (rr rf : Nat) (er at_ : Int) (L : Nat → Bool) (W : World) : Prop where
  bel : Below w.heap.size w W
  lo : w.heap.size ≤ rr
  ne : rf ≠ rr ∧ rf ≠ rr + 1
  msk : W.heap[rr]? = some (.cells (mv fun _ => false) 25 (0, 0))
  src : W.heap[rf]? = some (.cells #[.int .i64 er, .int .i64 at_] 28 (0, 0))
  ahead : L 4 = false → W.heap[rr + 1]? = some (.cells #[.int .i64 0, .int .i64 0] 28 (0, 0))
  fin : L 4 = true → W.heap[rr + 1]? = some (.cells #[.int .i64 er, .int .i64 at_] 28 (0, 0))
theorem FtJ.same {w : World} {rr rf : Nat} {er at_ : Int} {L : Nat → Bool} {W : World} (h : FtJ w rr rf er at_ L W) (i : Nat) (hi : i ≠ 4) : FtJ w rr rf er at_ (fun k => decide (i = k) || L k) W :=
  ⟨h.bel, h.lo, h.ne, h.msk, h.src, fun e => h.ahead (Bool.or_eq_false_iff.1 e).2, fun e => h.fin (by simpa [hi] using e)⟩
theorem FtJ.put {w : World} {rr rf : Nat} {er at_ : Int} {L : Nat → Bool} {W : World} (h : FtJ w rr rf er at_ L W) : FtJ w rr rf er at_ (fun k => decide (2 = k) || L k) (W.setRow rr (mv fun _ => false)) := by
  have ho : ∀ q, q ≠ rr → (W.setRow rr (mv fun _ => false)).heap[q]? = W.heap[q]? := fun q hq => setRow_other W rr q _ hq
  exact ⟨below_setRow h.bel h.lo _, h.lo, h.ne, setRow_heap _ _ _ _ _ _ h.msk, (ho _ h.ne.1).trans h.src, fun e => (ho _ (by omega)).trans (h.ahead (Bool.or_eq_false_iff.1 e).2), fun e => (ho _ (by omega)).trans (h.fin (by simpa using e))⟩
theorem FtJ.fault {w : World} {rr rf : Nat} {er at_ : Int} {L : Nat → Bool} {W : World} (h : FtJ w rr rf er at_ L W) : FtJ w rr rf er at_ (fun k => decide (4 = k) || L k) (W.setRow (rr + 1) #[.int .i64 er, .int .i64 at_]) := by
  have ho : ∀ q, q ≠ rr + 1 → (W.setRow (rr + 1) #[.int .i64 er, .int .i64 at_]).heap[q]? = W.heap[q]? := fun q hq => setRow_other W (rr + 1) q _ hq
  have hn : ∃ er' at', W.heap[rr + 1]? = some (.cells #[.int .i64 er', .int .i64 at'] 28 (0, 0)) := by
    cases hL : L 4 with
    | false => exact ⟨_, _, h.ahead hL⟩
    | true => exact ⟨_, _, h.fin hL⟩
  obtain ⟨_, _, hn⟩ := hn
  exact ⟨below_setRow h.bel (Nat.le_succ_of_le h.lo) _, h.lo, h.ne, (ho _ (by omega)).trans h.msk, (ho _ h.ne.2).trans h.src, fun e => by simp at e, fun _ => setRow_heap _ _ _ _ _ _ hn⟩
/-- What is said of the world while a run's answer is handed on. -/
structure RnJ (w w0 : World) (gm : Nat) (lv : Value) (day k : Int) (f : M) (rr : Nat) (L : Nat → Bool) (W : World) : Prop where
  bel : Below w.heap.size w W
  lo : w.heap.size ≤ rr
  gt : gm ≠ rr ∧ gm ≠ rr + 1
  b0 : Below w.heap.size w w0
  mach : ∃ sv, W.heap[gm]? = some (.cells #[lv, .int .i64 day, sv, .int .i64 k] 56 (0, 0))
  ahead : L 0 = false → MSt w0 gm lv day [f] k W
  m0 : L 4 = false → W.heap[rr]? = some (.cells (mv fun _ => false) 25 (0, 0))
  m1 : L 4 = true → W.heap[rr]? = some (.cells (mv f) 25 (0, 0))
  flt : W.heap[rr + 1]? = some (.cells #[.int .i64 0, .int .i64 0] 28 (0, 0))
section
variable {w w0 : World} {gm : Nat} {lv : Value} {day k : Int} {f : M} {rr : Nat} {L : Nat → Bool} {W : World}
theorem RnJ.same (h : RnJ w w0 gm lv day k f rr L W) (i : Nat) (hi : i ≠ 0 ∧ i ≠ 4) : RnJ w w0 gm lv day k f rr (fun k => decide (i = k) || L k) W :=
  ⟨h.bel, h.lo, h.gt, h.b0, h.mach, fun e => h.ahead (Bool.or_eq_false_iff.1 e).2, fun e => h.m0 (Bool.or_eq_false_iff.1 e).2, fun e => h.m1 (by simpa [hi.2] using e), h.flt⟩
theorem RnJ.took (h : RnJ w w0 gm lv day k f rr L W) {W' : World} (hM : MSt w0 gm lv day [] k W') (hfr : ∀ q, q < W.heap.size → q ≠ gm → W'.heap[q]? = W.heap[q]?) (h4 : L 4 = false) : RnJ w w0 gm lv day k f rr (fun k => decide (0 = k) || L k) W' := by
  obtain ⟨q1, q2, sv, q3, q4⟩ := hM
  have hm0 := h.m0 h4
  exact ⟨h.b0.trans (q1.mono h.b0.size), h.lo, h.gt, h.b0, ⟨sv, q3⟩, fun e => (by simp at e), fun _ => (hfr _ (lt_of_block hm0) (Ne.symm h.gt.1)).trans hm0, fun e => (by simp [h4] at e), (hfr _ (lt_of_block h.flt) (Ne.symm h.gt.2)).trans h.flt⟩
theorem RnJ.put (h : RnJ w w0 gm lv day k f rr L W) (h0 : L 0 = true) : RnJ w w0 gm lv day k f rr (fun k => decide (4 = k) || L k) (W.setRow rr (mv f)) := by
  have ho : ∀ q, q ≠ rr → (W.setRow rr (mv f)).heap[q]? = W.heap[q]? := fun q hq => setRow_other W rr q _ hq
  obtain ⟨sv, hm⟩ := h.mach
  have hn : ∃ g : M, W.heap[rr]? = some (.cells (mv g) 25 (0, 0)) := by
    cases hL : L 4 with
    | false => exact ⟨_, h.m0 hL⟩
    | true => exact ⟨_, h.m1 hL⟩
  obtain ⟨_, hn⟩ := hn
  exact ⟨below_setRow h.bel h.lo _, h.lo, h.gt, h.b0, ⟨sv, (ho _ h.gt.1).trans hm⟩, fun e => (by simp [h0] at e), fun e => (by simp at e), fun _ => setRow_heap _ _ _ _ _ _ hn, (ho _ (by omega)).trans h.flt⟩
theorem RnJ.fault (h : RnJ w w0 gm lv day k f rr L W) (h4 : L 4 = true) (h0 : L 0 = true) : RnJ w w0 gm lv day k f rr (fun k => decide (6 = k) || L k) (W.setRow (rr + 1) #[.int .i64 0, .int .i64 0]) := by
  have ho : ∀ q, q ≠ rr + 1 → (W.setRow (rr + 1) #[.int .i64 0, .int .i64 0]).heap[q]? = W.heap[q]? := fun q hq => setRow_other W (rr + 1) q _ hq
  obtain ⟨sv, hm⟩ := h.mach
  exact ⟨below_setRow h.bel (Nat.le_succ_of_le h.lo) _, h.lo, h.gt, h.b0, ⟨sv, (ho _ h.gt.2).trans hm⟩, fun e => (by simp [h0] at e), fun e => (by simp [h4] at e), fun _ => (ho _ (by omega)).trans (h.m1 h4), setRow_heap _ _ _ _ _ _ h.flt⟩
end
set_option maxRecDepth 100000 in
set_option maxHeartbeats 4000000 in
theorem vrun_any (cs : List Cd) (lv : Value) (rule day : Int) (w : World) (h : InV w lv cs) :
    Calls Try.prog 9 #[lv, .int .i64 rule, .int .i64 day] w (OutR (runM cs rule day) (runN cs rule day : Int) (runE cs rule day).1 ((runE cs rule day).2 : Int) w) := by
  obtain ⟨p, cp, elv, hlen, hcc⟩ := h.form
  have hz := mv_lit
  have bA : Below w.heap.size w ((w.alloc (.cells (mv fun _ => false) 25)).alloc (.cells #[.int .i64 0, .int .i64 0] 28)) := ((Below.refl _ _).alloc (Nat.le_refl _) _).alloc (by simp) _
  have nM0 : ((w.alloc (.cells (mv fun _ => false) 25)).alloc (.cells #[.int .i64 0, .int .i64 0] 28)).heap[w.heap.size]? = some (.cells (mv fun _ => false) 25 (0, 0)) := by (repeat (first | refine blk_old _ _ _ (by simp only [size_alloc]; omega) ?_ | exact blk_new _ _ _ (by first | rfl | simp only [size_alloc])))
  have nF0 : ((w.alloc (.cells (mv fun _ => false) 25)).alloc (.cells #[.int .i64 0, .int .i64 0] 28)).heap[w.heap.size + 1]? = some (.cells #[.int .i64 0, .int .i64 0] 28 (0, 0)) := by (repeat (first | refine blk_old _ _ _ (by simp only [size_alloc]; omega) ?_ | exact blk_new _ _ _ (by first | rfl | simp only [size_alloc])))
  generalize hwA : (w.alloc (.cells (mv fun _ => false) 25)).alloc (.cells #[.int .i64 0, .int .i64 0] 28) = wA at *
  have cW := vwrong_any cs lv wA (h.below bA)
  have hn0 : (0 : Int) ≤ (cs.length : Int) := by omega
  by_cases he : (wrongV cs).1 = 0
  · have hR := wrong_right he
    have hw2 : wrongV cs = (0, 0) := by
      unfold wrongV at he ⊢
      by_cases h1 : 40 < cs.length
      · rw [if_pos h1] at he; simp at he
      · rw [if_neg h1] at he ⊢
        by_cases h2 : (firstF (fun i => aloneE (cs.getD i cd0) cs.length) cs.length 0).1 ≠ 0
        · rw [if_pos h2] at he; exact absurd he h2
        · rw [if_neg h2] at he ⊢
          exact (firstF_ok _ _ he).1
    rw [hw2] at cW
    have c2 := fun W => isNumber_any rule (cs.length : Int) W
    have c3 := fun W => isNumber_any day 146097 W
    have hE : runE cs rule day = if ¬ (0 ≤ rule ∧ rule < cs.length) then (6, 0) else if ¬ (0 ≤ day ∧ day < 146097) then (3, 0) else (0, 0) := if_neg (fun e => e he)
    have HIN := hidv h
    have HRT := hidv hR
    clear he hw2 hcc hR h
    by_cases hr : 0 ≤ rule ∧ rule < cs.length
    · rw [if_neg (fun e => e hr)] at hE
      have c2' := c2
      simp only [decide_eq_true hr] at c2'
      by_cases hd : 0 ≤ day ∧ day < 146097
      · rw [if_neg (fun e => e hd)] at hE
        have e1 : runM cs rule day = (evV (wkB9 day) day cs (cs.length + 1) rule.toNat).1 := if_pos (by rw [hE])
        have e2 : runN cs rule day = (evV (wkB9 day) day cs (cs.length + 1) rule.toNat).2 := if_pos (by rw [hE])
        rw [hE, e1, e2]
        have c3' := c3
        simp only [decide_eq_true hd] at c3'
        obtain ⟨rn, rfl⟩ : ∃ rn : Nat, rule = (rn : Int) := ⟨rule.toNat, by omega⟩
        have hrn : rn < cs.length := by omega
        rw [Int.toNat_natCast]
        obtain ⟨hd0, hd1⟩ := hd
        obtain ⟨fM, hfM⟩ : ∃ x, evV (wkB9 day) day cs (cs.length + 1) rn = x := ⟨_, rfl⟩
        have HRA : Hid (∀ (w0 : World) (gm : Nat) (W : World), Below w.heap.size w w0 → MSt w0 gm lv day [] 0 W → Calls Try.prog 20 #[.pointer (some ⟨gm, 0, none⟩), .int .i64 (rn : Int)] W fun e W' => e = .returned (.tuple #[]) ∧ MSt w0 gm lv day [fM.1] (fM.2 : Int) W') := fun w0 gm W hb hM => by
          have hu : cs[rn]? = some cs[rn] := List.getElem?_eq_getElem hrn
          have ha := (alone_ins (HRT.out.alone rn _ hu)).2.1
          have := run_all cs lv w0 gm day HRT.out (HIN.out.below hb) hd0 hd1 (cs.length + 1) rn [] 0 W hrn (by have := rk_le (callE cs) cs.length rn; omega) hM (by rw [cd_at hu]; simp; omega) (by omega) (by rw [cd_at hu]; omega)
          rw [hfM] at this
          refine this.mono ?_
          rintro e W' ⟨rfl, h'⟩
          exact ⟨rfl, mst_cast h' (by simp) (by simp)⟩
        rw [hfM]
        obtain ⟨f, k⟩ := fM
        dsimp only at HRA ⊢
        clear hr hE e1 e2 hfM c2 c3 HIN HRT hd0 hd1
        subst elv
        go_enter Try.func9, Try.ntmps9
        go_wp2_with fail
        refine cW.mono ?_
        rintro e w1 ⟨rfl, hb1⟩
        dsimp only
        have b1 := bA.trans (hb1.mono bA.size)
        have nM1 := (hb1.block _ (lt_of_block nM0)).trans nM0
        have nF1 := (hb1.block _ (lt_of_block nF0)).trans nF0
        have bF0 := (Below.refl w1.heap.size w1).alloc (Nat.le_refl _) (.cells #[.int .i64 0, .int .i64 0] 28)
        have nG0 := heap_alloc_new w1 (.cells #[.int .i64 0, .int .i64 0] 28)
        generalize hw1 : w1.alloc (.cells #[.int .i64 0, .int .i64 0] 28) = w1a at *
        have bF := below_setRow bF0 (Nat.le_refl _) #[.int .i64 0, .int .i64 0]
        have nG := setRow_heap _ _ _ #[.int .i64 0, .int .i64 0] _ _ nG0
        have nM2 := (bF.block _ (lt_of_block nM1)).trans nM1
        have nF2 := (bF.block _ (lt_of_block nF1)).trans nF1
        have b2 := b1.trans (bF.mono b1.size)
        generalize hw2 : w1a.setRow w1.heap.size #[.int .i64 0, .int .i64 0] = w2 at *
        have zG := (cell_of_row _ _ 0 _ _ _ nG).trans rfl
        have d2 := c2' w2
        have d3 := c3' w2
        clear cW hb1 nM1 nF1 bF nM0 nF0 hwA bA b1 bF0
        go_wp2_with (refine wpList_store_row rfl 28 _ _ rfl _ _ rfl rfl _ _ nG0 (by kernel_rfl) (by simp) (by simp [Value.oneCell']) ?_)
        refine d2.mono ?_
        rintro e w3 ⟨rfl, rfl⟩
        clear d2
        go_wp2_with fail
        refine d3.mono ?_
        rintro e w3 ⟨rfl, rfl⟩
        clear d3 zG nG nG0 hw1 hw2 c2' c3'
        have bX := (Below.refl w3.heap.size w3).alloc (Nat.le_refl _) (.cells #[.slice none 0 0, .int .i64 0, .slice none 0 0, .int .i64 0] 56)
        have nX := heap_alloc_new w3 (.cells #[.slice none 0 0, .int .i64 0, .slice none 0 0, .int .i64 0] 56)
        generalize hwX : w3.alloc (.cells #[.slice none 0 0, .int .i64 0, .slice none 0 0, .int .i64 0] 56) = wX at *
        have bY := below_setRow bX (Nat.le_refl _) #[.slice p cs.length cp, .int .i64 day, .slice none 0 0, .int .i64 0]
        have nY := setRow_heap _ _ _ #[.slice p cs.length cp, .int .i64 day, .slice none 0 0, .int .i64 0] _ _ nX
        generalize hwY : wX.setRow w3.heap.size #[.slice p cs.length cp, .int .i64 day, .slice none 0 0, .int .i64 0] = wY at *
        have hMY : MSt w3 w3.heap.size (.slice p cs.length cp) day [] 0 wY := ⟨bY, Nat.le_refl _, _, nY, World.ownsRow_nil _ _ _ _⟩
        have cR := HRA.out w3 w3.heap.size wY b2 hMY
        clear HRA hMY bX bY nY
        go_wp2_with (refine wpList_store_row rfl 56 _ _ rfl _ _ rfl rfl _ _ nX (by kernel_rfl) (by simp) (by simp [Value.oneCell']) ?_)
        refine cR.mono ?_
        rintro e w4 ⟨rfl, hM4⟩
        clear cR nX hwX hwY
        go_wp2_with fail
        have hJ0 : ∀ L : Nat → Bool, (∀ i, i < 7 → L i = false) → RnJ w w3 w3.heap.size (.slice p cs.length cp) day (k : Int) f w.heap.size L w4.drew := fun L hL => by
          have hM5 := hM4.below (Below.refl _ _).drew
          obtain ⟨q1, q2, sv, q3, q4⟩ := hM5
          have l1 := lt_of_block nM2
          have l2 := lt_of_block nF2
          exact ⟨b2.trans (q1.mono b2.size), Nat.le_refl _, ⟨by omega, by omega⟩, b2, ⟨sv, q3⟩, fun _ => ⟨q1, q2, sv, q3, q4⟩, fun _ => (q1.block _ l1).trans nM2, fun e => (by rw [hL 4 (by decide)] at e; cases e), (q1.block _ l2).trans nF2⟩
        clear hM4
        obtain ⟨gm, hgm⟩ : ∃ b, w3.heap.size = b := ⟨_, rfl⟩
        obtain ⟨rr, hrr⟩ : ∃ b, w.heap.size = b := ⟨_, rfl⟩
        rw [hgm] at hJ0
        rw [hrr] at hJ0
        simp only [hgm, hrr]
        obtain ⟨lv, hlv⟩ : ∃ v, Value.slice p cs.length cp = v := ⟨_, rfl⟩
        rw [hlv] at hJ0
        generalize hw0 : w3 = w0 at *
        refine wp_region_JL (RnJ w w0 gm lv day (k : Int) f rr) (fun L hL => hJ0 L hL) (by kernel_rfl) (by kernel_rfl) (by kernel_rfl) (by kernel_rfl) [(some 35, .agg (mv f)), (some 36, .pointer (some ⟨gm, 3, none⟩)), (some 37, .int .i64 (k : Int)), (some 38, .agg #[.int .i64 0, .int .i64 0]), (none, undef), (some 7, .int .i64 (k : Int)), (none, undef)] [(35, .agg (mv f)), (36, .pointer (some ⟨gm, 3, none⟩)), (37, .int .i64 (k : Int)), (38, .agg #[.int .i64 0, .int .i64 0]), (7, .int .i64 (k : Int))] (by kernel_rfl) (by kernel_rfl) (by kernel_rfl) ?_ ?_
        · intro i' d v o' L A W2 ho hv hLi hdep hc hJ hkept hhas
          match i', ho, hv, hLi with
          | 0, ho, hv, hLi =>
            cases Option.some.inj ho
            cases Option.some.inj hv
            have h10 : A.tmps[10]?.getD undef = .pointer (some ⟨gm, 0, none⟩) := (gd A 10).trans (hkept 10 (by kernel_rfl))
            refine wpOp_step rfl (fun K hK => ?_)
            go_simp
            refine (take_any w0 gm lv day (k : Int) [] f W2 (hJ.ahead hLi) (by simp)).mono ?_
            rintro e' W' ⟨rfl, hM, hfr⟩
            have n4 : L 4 = false := by
              cases h : L 4 with
              | false => rfl
              | true =>
                have q := hc 4 _ rfl h ⟨0, .data⟩ (by simp) rfl
                rw [hLi] at q; cases q
            exact hK _ _ ⟨rfl, hJ.took hM hfr n4⟩
          | 1, ho, hv, hLi =>
            cases Option.some.inj ho
            cases Option.some.inj hv
            have h10 : A.tmps[10]?.getD undef = .pointer (some ⟨gm, 0, none⟩) := (gd A 10).trans (hkept 10 (by kernel_rfl))
            obtain ⟨s0, nM⟩ := hJ.mach
            have zz := (cell_of_row _ _ 3 _ _ _ nM).trans rfl
            refine wpOp_step rfl (fun K hK => ?_)
            go_simp
            exact hK _ _ ⟨rfl, hJ.same 1 (by decide)⟩
          | 2, ho, hv, hLi =>
            cases Option.some.inj ho
            cases Option.some.inj hv
            have h36 : A.tmps[36]?.getD undef = .pointer (some ⟨gm, 3, none⟩) := (gd A 36).trans (hhas 1 36 _ rfl (hdep ⟨1, .data⟩ (by simp) rfl))
            obtain ⟨s0, nM⟩ := hJ.mach
            have zz := (cell_of_row _ _ 3 _ _ _ nM).trans rfl
            refine wpOp_step rfl (fun K hK => ?_)
            go_simp
            exact hK _ _ ⟨rfl, hJ.same 2 (by decide)⟩
          | 3, ho, hv, hLi =>
            cases Option.some.inj ho
            cases Option.some.inj hv
            refine wpOp_step rfl (fun K hK => ?_)
            go_simp
            exact hK _ _ ⟨rfl, hJ.same 3 (by decide)⟩
          | 4, ho, hv, hLi =>
            cases Option.some.inj ho
            cases Option.some.inj hv
            have h6 : A.eval (.tmp 6) = .pointer (some ⟨rr, 0, none⟩) := hkept 6 (by kernel_rfl)
            have h35 : A.eval (.tmp 35) = .agg (mv f) := hhas 0 35 _ rfl (hdep ⟨0, .data⟩ (by simp) rfl)
            refine wpOp_step rfl (fun K hK => ?_)
            show Oper.wp _ _ _ _ _ _
            refine wp_store_row 25 _ _ rfl _ _ h6 h35 _ _ (hJ.m0 hLi) (maskSize _) (by simp [mv_size]) (mv_all _) ?_
            exact hK _ _ ⟨rfl, hJ.put (hdep ⟨0, .data⟩ (by simp) rfl)⟩
          | 5, ho, hv, hLi =>
            cases Option.some.inj ho
            cases Option.some.inj hv
            have h37 : A.tmps[37]?.getD undef = .int .i64 (k : Int) := (gd A 37).trans (hhas 2 37 _ rfl (hdep ⟨2, .data⟩ (by simp) rfl))
            refine wpOp_step rfl (fun K hK => ?_)
            go_simp
            exact hK _ _ ⟨rfl, hJ.same 5 (by decide)⟩
          | 6, ho, hv, hLi =>
            cases Option.some.inj ho
            cases Option.some.inj hv
            have h8 : A.eval (.tmp 8) = .pointer (some ⟨rr + 1, 0, none⟩) := hkept 8 (by kernel_rfl)
            have h38 : A.eval (.tmp 38) = .agg #[.int .i64 0, .int .i64 0] := hhas 3 38 _ rfl (hdep ⟨3, .data⟩ (by simp) rfl)
            refine wpOp_step rfl (fun K hK => ?_)
            show Oper.wp _ _ _ _ _ _
            refine wp_store_row 28 _ _ rfl _ _ h8 h38 _ _ hJ.flt (by kernel_rfl) (by simp) (by simp [Value.oneCell']) ?_
            exact hK _ _ ⟨rfl, hJ.fault (hc 5 _ rfl (hdep ⟨5, .chain⟩ (by simp) rfl) ⟨4, .chain⟩ (by simp) rfl) (hc 5 _ rfl (hdep ⟨5, .chain⟩ (by simp) rfl) ⟨0, .phase⟩ (by simp) rfl)⟩
          | kk + 7, ho, hv, hLi => simp at hv
        · intro L W5 hL hJ
          have h1 := hJ.m1 (hL 4 (by decide))
          have h2 := hJ.flt
          have HB := hidv hJ.bel
          simp only [putAll_cons, putAll_nil, Act.put, List.setIfInBounds_toArray, List.set_cons_succ, List.set_cons_zero]
          clear hL hJ
          go_wp2_with fail
          exact run_post rr (rr + 1) f (k : Int) 0 0 rfl rfl rfl rfl h1 h2 ⟨rfl, HB.out⟩
      · rw [if_pos hd] at hE
        have c3' := c3
        simp only [decide_eq_false hd] at c3'
        clear hd hr c2 c3
        have e1 : runM cs rule day = fun _ => false := if_neg (by rw [hE]; decide)
        have e2 : runN cs rule day = 0 := if_neg (by rw [hE]; decide)
        rw [hE, e1, e2]
        clear hE e1 e2 HIN HRT
        subst elv
        go_enter Try.func9, Try.ntmps9
        go_wp2_with fail
        refine cW.mono ?_
        rintro e w1 ⟨rfl, hb1⟩
        dsimp only
        have b1 := bA.trans (hb1.mono bA.size)
        have nM1 := (hb1.block _ (lt_of_block nM0)).trans nM0
        have nF1 := (hb1.block _ (lt_of_block nF0)).trans nF0
        have bF0 := (Below.refl w1.heap.size w1).alloc (Nat.le_refl _) (.cells #[.int .i64 0, .int .i64 0] 28)
        have nG0 := heap_alloc_new w1 (.cells #[.int .i64 0, .int .i64 0] 28)
        generalize hw1 : w1.alloc (.cells #[.int .i64 0, .int .i64 0] 28) = w1a at *
        have bF := below_setRow bF0 (Nat.le_refl _) #[.int .i64 0, .int .i64 0]
        have nG := setRow_heap _ _ _ #[.int .i64 0, .int .i64 0] _ _ nG0
        have nM2 := (bF.block _ (lt_of_block nM1)).trans nM1
        have nF2 := (bF.block _ (lt_of_block nF1)).trans nF1
        have b2 := b1.trans (bF.mono b1.size)
        generalize hw2 : w1a.setRow w1.heap.size #[.int .i64 0, .int .i64 0] = w2 at *
        have zG := (cell_of_row _ _ 0 _ _ _ nG).trans rfl
        have d2 := c2' w2
        have d3 := c3' w2
        have nM3 := setRow_heap _ _ _ (mv fun _ => false) _ _ nM2
        have nF3 := (setRow_other w2 w.heap.size (w.heap.size + 1) (mv fun _ => false) (by omega)).trans nF2
        have b3 := below_setRow b2 (Nat.le_refl _) (mv fun _ => false)
        generalize hw3 : w2.setRow w.heap.size (mv fun _ => false) = w3 at *
        have nM4 := (setRow_other w3 (w.heap.size + 1) w.heap.size #[.int .i64 3, .int .i64 0] (by omega)).trans nM3
        have nF4 := setRow_heap _ _ _ #[.int .i64 3, .int .i64 0] _ _ nF3
        have HB := hidv (below_setRow b3 (by omega : w.heap.size ≤ w.heap.size + 1) #[.int .i64 3, .int .i64 0])
        clear cW hb1 nM1 nF1 bF nM0 nF0 hwA bA b1 bF0 b2 b3
        go_wp2_with (refine wpList_store_row rfl 28 _ _ rfl _ _ rfl rfl _ _ nG0 (by kernel_rfl) (by simp) (by simp [Value.oneCell']) ?_)
        refine d2.mono ?_
        rintro e w4 ⟨rfl, rfl⟩
        clear d2
        go_wp2_with fail
        refine d3.mono ?_
        rintro e w4 ⟨rfl, rfl⟩
        clear d3
        clear nG nG0 zG hw1 hw2
        go_wp2_with (first
          | (refine wpList_store_row rfl 25 _ _ rfl _ _ rfl rfl _ _ nM2 (maskSize _) (by simp [mv_size]) (mv_all _) ?_)
          | (refine wpList_store_row rfl 28 _ _ rfl _ _ rfl rfl _ _ nF3 (by kernel_rfl) (by simp) (by simp [Value.oneCell']) ?_))
        exact run_post w.heap.size (w.heap.size + 1) (fun _ => false) 0 3 0 rfl rfl rfl rfl nM4 nF4 ⟨rfl, HB.out⟩
    · rw [if_pos hr] at hE
      have c2' := c2
      simp only [decide_eq_false hr] at c2'
      clear hr c2 c3
      have e1 : runM cs rule day = fun _ => false := if_neg (by rw [hE]; decide)
      have e2 : runN cs rule day = 0 := if_neg (by rw [hE]; decide)
      rw [hE, e1, e2]
      clear hE e1 e2 HIN HRT
      subst elv
      go_enter Try.func9, Try.ntmps9
      go_wp2_with fail
      refine cW.mono ?_
      rintro e w1 ⟨rfl, hb1⟩
      dsimp only
      have b1 := bA.trans (hb1.mono bA.size)
      have nM1 := (hb1.block _ (lt_of_block nM0)).trans nM0
      have nF1 := (hb1.block _ (lt_of_block nF0)).trans nF0
      have bF0 := (Below.refl w1.heap.size w1).alloc (Nat.le_refl _) (.cells #[.int .i64 0, .int .i64 0] 28)
      have nG0 := heap_alloc_new w1 (.cells #[.int .i64 0, .int .i64 0] 28)
      generalize hw1 : w1.alloc (.cells #[.int .i64 0, .int .i64 0] 28) = w1a at *
      have bF := below_setRow bF0 (Nat.le_refl _) #[.int .i64 0, .int .i64 0]
      have nG := setRow_heap _ _ _ #[.int .i64 0, .int .i64 0] _ _ nG0
      have nM2 := (bF.block _ (lt_of_block nM1)).trans nM1
      have nF2 := (bF.block _ (lt_of_block nF1)).trans nF1
      have b2 := b1.trans (bF.mono b1.size)
      generalize hw2 : w1a.setRow w1.heap.size #[.int .i64 0, .int .i64 0] = w2 at *
      have zG := (cell_of_row _ _ 0 _ _ _ nG).trans rfl
      have d2 := c2' w2
      have nM3 := setRow_heap _ _ _ (mv fun _ => false) _ _ nM2
      have nF3 := (setRow_other w2 w.heap.size (w.heap.size + 1) (mv fun _ => false) (by omega)).trans nF2
      have b3 := below_setRow b2 (Nat.le_refl _) (mv fun _ => false)
      generalize hw3 : w2.setRow w.heap.size (mv fun _ => false) = w3 at *
      have nM4 := (setRow_other w3 (w.heap.size + 1) w.heap.size #[.int .i64 6, .int .i64 0] (by omega)).trans nM3
      have nF4 := setRow_heap _ _ _ #[.int .i64 6, .int .i64 0] _ _ nF3
      have HB := hidv (below_setRow b3 (by omega : w.heap.size ≤ w.heap.size + 1) #[.int .i64 6, .int .i64 0])
      clear cW hb1 nM1 nF1 bF nM0 nF0 hwA bA b1 bF0 b2 b3
      go_wp2_with (refine wpList_store_row rfl 28 _ _ rfl _ _ rfl rfl _ _ nG0 (by kernel_rfl) (by simp) (by simp [Value.oneCell']) ?_)
      refine d2.mono ?_
      rintro e w4 ⟨rfl, rfl⟩
      clear d2
      clear nG nG0 zG hw1 hw2
      go_wp2_with (first
        | (refine wpList_store_row rfl 25 _ _ rfl _ _ rfl rfl _ _ nM2 (maskSize _) (by simp [mv_size]) (mv_all _) ?_)
        | (refine wpList_store_row rfl 28 _ _ rfl _ _ rfl rfl _ _ nF3 (by kernel_rfl) (by simp) (by simp [Value.oneCell']) ?_))
      exact run_post w.heap.size (w.heap.size + 1) (fun _ => false) 0 6 0 rfl rfl rfl rfl nM4 nF4 ⟨rfl, HB.out⟩
  · have hE : runE cs rule day = wrongV cs := if_pos he
    have e1 : runM cs rule day = fun _ => false := if_neg (by rw [hE]; exact he)
    have e2 : runN cs rule day = 0 := if_neg (by rw [hE]; exact he)
    rw [hE, e1, e2]
    obtain ⟨X, hX⟩ : ∃ x, wrongV cs = x := ⟨_, rfl⟩
    rw [hX] at he cW ⊢
    obtain ⟨er, at0⟩ := X
    dsimp only at he cW ⊢
    obtain ⟨at_, hat⟩ : ∃ q : Int, (at0 : Int) = q := ⟨_, rfl⟩
    rw [hat] at cW ⊢
    have hb0 : (er == 0) = false := beq_eq_false_iff_ne.2 he
    have hbn : (er != 0) = true := by simpa using he
    clear he h hcc hX hE e1 e2 hat
    subst elv
    go_enter Try.func9, Try.ntmps9
    go_wp2_with fail
    refine cW.mono ?_
    rintro e w1 ⟨rfl, hb1⟩
    have b1 := bA.trans (hb1.mono bA.size)
    have nM1 := (hb1.block _ (lt_of_block nM0)).trans nM0
    have nF1 := (hb1.block _ (lt_of_block nF0)).trans nF0
    have bF := (Below.refl w1.heap.size w1).alloc (Nat.le_refl _) (.cells #[.int .i64 er, .int .i64 at_] 28)
    have nG := heap_alloc_new w1 (.cells #[.int .i64 er, .int .i64 at_] 28)
    have nM2 := (bF.block _ (lt_of_block nM1)).trans nM1
    have nF2 := (bF.block _ (lt_of_block nF1)).trans nF1
    have b2 := b1.trans (bF.mono b1.size)
    have hl1 := lt_of_block nM1
    have hl2 := lt_of_block nF1
    generalize hw2 : w1.alloc (.cells #[.int .i64 er, .int .i64 at_] 28) = w2 at *
    have zG := (cell_of_row _ _ 0 _ _ _ nG).trans rfl
    clear cW hb1 nM1 nF1 bF nM0 nF0 hwA bA b1
    go_wp2_with fail
    clear hw2
    have hJ0 : ∀ L : Nat → Bool, (∀ i, i < 5 → L i = false) → FtJ w w.heap.size w1.heap.size er at_ L w2.drew := fun L hL => ⟨b2.trans ((Below.refl w2.heap.size w2).drew.mono b2.size), Nat.le_refl _, ⟨by omega, by omega⟩, nM2, nG, fun _ => nF2, fun e => (by rw [hL 4 (by decide)] at e; cases e)⟩
    clear nM2 nG nF2 b2 zG
    obtain ⟨rf, hrf⟩ : ∃ b, w1.heap.size = b := ⟨_, rfl⟩
    obtain ⟨rr, hrr⟩ : ∃ b, w.heap.size = b := ⟨_, rfl⟩
    rw [hrf, hrr] at hJ0
    simp only [hrf, hrr]
    refine wp_region_JL (FtJ w rr rf er at_) (fun L hL => hJ0 L hL) (by kernel_rfl) (by kernel_rfl) (by kernel_rfl) (by kernel_rfl) [(some 16, .agg (mv fun _ => false)), (some 17, .agg #[.int .i64 er, .int .i64 at_]), (none, undef), (some 7, .int .i64 0), (none, undef)] [(16, .agg (mv fun _ => false)), (17, .agg #[.int .i64 er, .int .i64 at_]), (7, .int .i64 0)] (by kernel_rfl) (by kernel_rfl) (by kernel_rfl) ?_ ?_
    · intro i' d v o' L A W2 ho hv hLi hdep hc hJ hkept hhas
      match i', ho, hv, hLi with
      | 0, ho, hv, hLi =>
        cases Option.some.inj ho
        cases Option.some.inj hv
        refine wpOp_step rfl (fun K hK => ?_)
        go_simp
        exact hK _ _ ⟨rfl, hJ.same 0 (by decide)⟩
      | 1, ho, hv, hLi =>
        cases Option.some.inj ho
        cases Option.some.inj hv
        have h9 : A.eval (.tmp 9) = .pointer (some ⟨rf, 0, none⟩) := hkept 9 (by kernel_rfl)
        refine wpOp_step rfl (fun K hK => ?_)
        show Oper.wp _ _ _ _ _ _
        refine wp_load_row 28 _ rfl _ h9 _ _ _ _ hJ.src faultTypeV rfl (by kernel_rfl) ?_
        exact hK _ _ ⟨rfl, hJ.same 1 (by decide)⟩
      | 2, ho, hv, hLi =>
        cases Option.some.inj ho
        cases Option.some.inj hv
        have h6 : A.eval (.tmp 6) = .pointer (some ⟨rr, 0, none⟩) := hkept 6 (by kernel_rfl)
        have h16 : A.eval (.tmp 16) = .agg (mv fun _ => false) := hhas 0 16 _ rfl (hdep ⟨0, .data⟩ (by simp) rfl)
        refine wpOp_step rfl (fun K hK => ?_)
        show Oper.wp _ _ _ _ _ _
        refine wp_store_row 25 _ _ rfl _ _ h6 h16 _ _ hJ.msk (maskSize _) (by simp [mv_size]) (mv_all _) ?_
        exact hK _ _ ⟨rfl, hJ.put⟩
      | 3, ho, hv, hLi =>
        cases Option.some.inj ho
        cases Option.some.inj hv
        refine wpOp_step rfl (fun K hK => ?_)
        go_simp
        exact hK _ _ ⟨rfl, hJ.same 3 (by decide)⟩
      | 4, ho, hv, hLi =>
        cases Option.some.inj ho
        cases Option.some.inj hv
        have h8 : A.eval (.tmp 8) = .pointer (some ⟨rr + 1, 0, none⟩) := hkept 8 (by kernel_rfl)
        have h17 : A.eval (.tmp 17) = .agg #[.int .i64 er, .int .i64 at_] := hhas 1 17 _ rfl (hdep ⟨1, .data⟩ (by simp) rfl)
        refine wpOp_step rfl (fun K hK => ?_)
        show Oper.wp _ _ _ _ _ _
        refine wp_store_row 28 _ _ rfl _ _ h8 h17 _ _ (hJ.ahead hLi) (by kernel_rfl) (by simp) (by simp [Value.oneCell']) ?_
        exact hK _ _ ⟨rfl, hJ.fault⟩
      | kk + 5, ho, hv, hLi => simp at hv
    · intro L W5 hL hJ
      have h1 := hJ.msk
      have h2 := hJ.fin (hL 4 (by decide))
      have HB := hidv hJ.bel
      simp only [putAll_cons, putAll_nil, Act.put, List.setIfInBounds_toArray, List.set_cons_succ, List.set_cons_zero]
      clear hL hJ
      go_wp2_with fail
      exact run_post rr (rr + 1) (fun _ => false) 0 er at_ rfl rfl rfl rfl h1 h2 ⟨rfl, HB.out⟩
end Go.Proofs.Ytclkmldegjdohaa

/- Codes that are asked first, plainly. -/
namespace Vx
def al8 : List Cd := [⟨[⟨1, 0, 0, 0, [(5, 9)]⟩, ⟨1, 0, 0, 0, [(7, 12)]⟩, ⟨2, 0, 0, 0, []⟩], 2, 3⟩]
def al9 : List Cd := [⟨[⟨1, 0, 0, 0, [(5, 9)]⟩], 1, 1⟩]
theorem al8_fit : FitV al8 (al8.getD 0 cd0) := by
  refine ⟨⟨fun j x hx => ?_, fun j x hx hg => ?_, by decide⟩, by decide, by decide⟩
  · match j, hx with
    | 0, hx => cases Option.some.inj hx; decide
    | 1, hx => cases Option.some.inj hx; decide
    | 2, hx => cases Option.some.inj hx; decide
    | j + 3, hx => simp [al8] at hx
  · unfold isG at hg
    match j, hx with
    | 0, hx => cases Option.some.inj hx; exact absurd hg (by decide)
    | 1, hx => cases Option.some.inj hx; exact absurd hg (by decide)
    | 2, hx => cases Option.some.inj hx; exact absurd hg (by decide)
    | j + 3, hx => simp [al8] at hx
theorem al9_fit : FitV al9 (al9.getD 0 cd0) := by
  refine ⟨⟨fun j x hx => ?_, fun j x hx hg => ?_, by decide⟩, by decide, by decide⟩
  · match j, hx with
    | 0, hx => cases Option.some.inj hx; decide
    | j + 1, hx => simp [al9] at hx
  · unfold isG at hg
    match j, hx with
    | 0, hx => cases Option.some.inj hx; exact absurd hg (by decide)
    | j + 1, hx => simp [al9] at hx
theorem al8_late : lateE al8 0 = 0 := by
  unfold lateE
  rw [if_neg (by decide), if_pos (fitB_iff.2 al8_fit)]
theorem al9_late : lateE al9 0 = 0 := by
  unfold lateE
  rw [if_neg (by decide), if_pos (fitB_iff.2 al9_fit)]
theorem al8_wrong : wrongV al8 = (0, 0) := by
  unfold wrongV
  rw [if_neg (by decide), if_neg (by decide)]
  show firstF (lateE al8) 1 0 = (0, 0)
  simp [firstF, al8_late]
theorem al9_wrong : wrongV al9 = (0, 0) := by
  unfold wrongV
  rw [if_neg (by decide), if_neg (by decide)]
  show firstF (lateE al9) 1 0 = (0, 0)
  simp [firstF, al9_late]
theorem al8_ev (wk : Int → Bool) (day : Int) : evV wk day al8 2 0 = (unM (spM [(5, 9)]) (spM [(7, 12)]), 3) := rfl
theorem al9_ev (wk : Int → Bool) (day : Int) : evV wk day al9 2 0 = (spM [(5, 9)], 1) := rfl
theorem al8_cnt : Msk.cnt (unM (spM [(5, 9)]) (spM [(7, 12)])) 1440 = 7 := by decide +kernel
theorem al9_cnt : Msk.cnt (spM [(5, 9)]) 1440 = 4 := by decide +kernel
/-- What a run leaves is minutes of the day. -/
def dayM (f : M) : Prop := ∀ i, 1440 ≤ i → f i = false
theorem dayM_step {wk : Int → Bool} {day : Int} {ev : Nat → M × Nat} (hev : ∀ r, dayM (ev r).1) {x : In} {s : St} (h : ∀ f ∈ s.S, dayM f) : ∀ f ∈ (stepV wk day ev x s).S, dayM f := by
  have h2 : ∀ F : M → M → M, (∀ f g, dayM (F f g)) → ∀ f ∈ pop2 F s.S, dayM f := fun F hF f hf => by
    unfold pop2 at hf
    split at hf
    · rename_i g f' T hr
      rw [List.mem_append, List.mem_singleton] at hf
      rcases hf with hf | rfl
      · have : f ∈ s.S := by
          have : f ∈ s.S.reverse := by rw [hr]; simp at hf; simp [hf]
          simpa using this
        exact h f this
      · exact hF _ _
    · simp at hf
  have h1 : ∀ F : M → M, (∀ f, dayM (F f)) → ∀ f ∈ pop1 F s.S, dayM f := fun F hF f hf => by
    unfold pop1 at hf
    split at hf
    · rename_i g T hr
      rw [List.mem_append, List.mem_singleton] at hf
      rcases hf with hf | rfl
      · have : f ∈ s.S := by
          have : f ∈ s.S.reverse := by rw [hr]; simp at hf; simp [hf]
          simpa using this
        exact h f this
      · exact hF _
    · simp at hf
  have ha : ∀ g, dayM g → ∀ f ∈ s.S ++ [g], dayM f := fun g hg f hf => by
    rw [List.mem_append, List.mem_singleton] at hf
    rcases hf with hf | rfl
    · exact h f hf
    · exact hg
  unfold stepV
  split
  · exact ha _ fun i hi => by
      unfold spM
      rw [List.any_eq_false]
      intro s _
      simp
      omega
  split
  · exact h2 _ fun f g i hi => by simp [unM]; omega
  split
  · exact h2 _ fun f g i hi => by simp [dfM]; omega
  split
  · exact h2 _ fun f g i hi => by simp [boM]; omega
  split
  · exact h1 _ fun f i hi => by simp [shM]; omega
  split
  · exact ha _ (hev _)
  split
  · exact h
  · exact ha _ fun i _ => rfl
theorem dayM_go {wk : Int → Bool} {day : Int} {ev : Nat → M × Nat} (hev : ∀ r, dayM (ev r).1) {l : List In} : ∀ (f : Nat) (s : St), (∀ g ∈ s.S, dayM g) → ∀ g ∈ (goV wk day ev l f s).S, dayM g
  | 0, _, h => h
  | f + 1, s, h => by
    unfold goV
    split
    · exact h
    · exact dayM_go hev f _ (dayM_step hev h)
theorem dayM_ev {wk : Int → Bool} {day : Int} {cs : List Cd} : ∀ (d r : Nat), dayM (evV wk day cs d r).1
  | 0, _ => fun _ _ => rfl
  | d + 1, r => by
    have h := dayM_go (wk := wk) (day := day) (ev := evV wk day cs d) (dayM_ev d) (l := (cs.getD r cd0).ins) ((cs.getD r cd0).ins.length - 0) ⟨0, [], 0⟩ (fun g hg => by simp at hg)
    show dayM ((runV wk day (evV wk day cs d) (cs.getD r cd0).ins ⟨0, [], 0⟩).S.getD 0 noM)
    unfold runV
    generalize (goV wk day (evV wk day cs d) (cs.getD r cd0).ins ((cs.getD r cd0).ins.length - 0) ⟨0, [], 0⟩).S = L at *
    cases L with
    | nil => intro i _; rfl
    | cons f T => exact h f (by simp)
end Vx

/- Codes asked first; the law VmBound walked. Written by genvmn.py. -/
namespace Go.Proofs.Ytclkmldegjdohaa
open Go.RowKit Msk Vx

set_option maxRecDepth 100000 in
set_option maxHeartbeats 4000000 in
theorem spans8_any (a b : Int) (w : World) : Calls Try.prog 39 #[.int .i64 a, .int .i64 b] w fun e w' => ∃ g : Nat, e = .returned (.agg #[.int .i64 1, .int .i64 0, .int .i64 0, .int .i64 0, .slice (some ⟨g, 0, none⟩) 1 1]) ∧ w'.heap[g]? = some (.cells #[.int .i64 a, .int .i64 b] 97 (0, 0)) ∧ Below w.heap.size w w' := by
  have bA := (Below.refl w.heap.size w).alloc (Nat.le_refl _) (.cells #[.int .i64 0, .int .i64 0, .int .i64 0, .int .i64 0, .slice none 0 0] 65)
  have nA := heap_alloc_new w (.cells #[.int .i64 0, .int .i64 0, .int .i64 0, .int .i64 0, .slice none 0 0] 65)
  generalize hwA : w.alloc (.cells #[.int .i64 0, .int .i64 0, .int .i64 0, .int .i64 0, .slice none 0 0] 65) = wA at *
  have bB := (Below.refl wA.heap.size wA).alloc (Nat.le_refl _) (.cells #[.int .i64 a, .int .i64 b] 97)
  have nB := heap_alloc_new wA (.cells #[.int .i64 a, .int .i64 b] 97)
  have nA2 := (bB.block _ (lt_of_block nA)).trans nA
  have b2 := bA.trans (bB.mono bA.size)
  have hl := lt_of_block nA
  generalize hwB : wA.alloc (.cells #[.int .i64 a, .int .i64 b] 97) = wB at *
  have nA3 := setRow_heap _ _ _ #[.int .i64 1, .int .i64 0, .int .i64 0, .int .i64 0, .slice (some ⟨wA.heap.size, 0, none⟩) 1 1] _ _ nA2
  have nB3 := (setRow_other wB w.heap.size wA.heap.size #[.int .i64 1, .int .i64 0, .int .i64 0, .int .i64 0, .slice (some ⟨wA.heap.size, 0, none⟩) 1 1] (by omega)).trans nB
  have b3 := below_setRow b2 (Nat.le_refl _) #[.int .i64 1, .int .i64 0, .int .i64 0, .int .i64 0, .slice (some ⟨wA.heap.size, 0, none⟩) 1 1]
  go_enter Try.func39, Try.ntmps39
  go_wp2_with (refine wpList_store_row rfl 65 _ _ rfl _ _ rfl rfl _ _ nA2 (by kernel_rfl) (by simp) (by simp [Value.oneCell']) ?_)
  refine bodyPost_ret (v := .agg #[.int .i64 1, .int .i64 0, .int .i64 0, .int .i64 0, .slice (some ⟨wA.heap.size, 0, none⟩) 1 1]) ?_ rfl ⟨_, rfl, nB3, b3⟩
  exact results_cell_row rfl _ _ w.heap.size _ _ _ _ rfl nA3 insType rfl (by kernel_rfl)
theorem row_one {w : World} {g : Nat} {a b : Int} (h : w.heap[g]? = some (.cells #[.int .i64 a, .int .i64 b] 97 (0, 0))) : RowV w (.slice (some ⟨g, 0, none⟩) 1 1) [(a, b)] := by
  refine .inr (.inr ⟨g, 0, 1, rfl, by simp, fun j hj => ?_⟩)
  have hj0 : j = 0 := by simp at hj; omega
  subst hj0
  exact ⟨(cell_of_row _ _ 0 _ _ _ h).trans rfl, (cell_of_row _ _ 1 _ _ _ h).trans rfl⟩
theorem row_nil (w : World) : RowV w (.slice none 0 0) [] := .inl ⟨rfl, none, 0, rfl⟩
theorem inV8 {w : World} {g1 g2 gi gc : Nat} (h1 : w.heap[g1]? = some (.cells #[.int .i64 5, .int .i64 9] 97 (0, 0))) (h2 : w.heap[g2]? = some (.cells #[.int .i64 7, .int .i64 12] 97 (0, 0)))
    (hi : w.heap[gi]? = some (.cells #[.int .i64 1, .int .i64 0, .int .i64 0, .int .i64 0, .slice (some ⟨g1, 0, none⟩) 1 1, .int .i64 1, .int .i64 0, .int .i64 0, .int .i64 0, .slice (some ⟨g2, 0, none⟩) 1 1, .int .i64 2, .int .i64 0, .int .i64 0, .int .i64 0, .slice none 0 0] 65 (0, 0)))
    (hc : w.heap[gc]? = some (.cells #[.slice (some ⟨gi, 0, none⟩) 3 3, .int .i64 2, .int .i64 3] 36 (0, 0))) : InV w (.slice (some ⟨gc, 0, none⟩) 1 1) al8 := by
  refine ⟨[(⟨[⟨1, 0, 0, 0, [(5, 9)]⟩, ⟨1, 0, 0, 0, [(7, 12)]⟩, ⟨2, 0, 0, 0, []⟩], 2, 3⟩, .slice (some ⟨gi, 0, none⟩) 3 3)], ⟨_, _, rfl, by simp, fun j u hj => ?_⟩, rfl⟩
  match j, hj with
  | 0, hj =>
    cases Option.some.inj hj
    refine ⟨⟨[(⟨1, 0, 0, 0, [(5, 9)]⟩, .slice (some ⟨g1, 0, none⟩) 1 1), (⟨1, 0, 0, 0, [(7, 12)]⟩, .slice (some ⟨g2, 0, none⟩) 1 1), (⟨2, 0, 0, 0, []⟩, .slice none 0 0)], ⟨_, _, rfl, by simp, fun i x hx => ?_⟩, rfl⟩, gc, 0, rfl, (cell_of_row _ _ 0 _ _ _ hc).trans rfl, (cell_of_row _ _ 1 _ _ _ hc).trans rfl, (cell_of_row _ _ 2 _ _ _ hc).trans rfl⟩
    match i, hx with
    | 0, hx => cases Option.some.inj hx; exact ⟨row_one h1, gi, 0, rfl, (cell_of_row _ _ 0 _ _ _ hi).trans rfl, (cell_of_row _ _ 1 _ _ _ hi).trans rfl, (cell_of_row _ _ 2 _ _ _ hi).trans rfl, (cell_of_row _ _ 3 _ _ _ hi).trans rfl, (cell_of_row _ _ 4 _ _ _ hi).trans rfl⟩
    | 1, hx => cases Option.some.inj hx; exact ⟨row_one h2, gi, 0, rfl, (cell_of_row _ _ 5 _ _ _ hi).trans rfl, (cell_of_row _ _ 6 _ _ _ hi).trans rfl, (cell_of_row _ _ 7 _ _ _ hi).trans rfl, (cell_of_row _ _ 8 _ _ _ hi).trans rfl, (cell_of_row _ _ 9 _ _ _ hi).trans rfl⟩
    | 2, hx => cases Option.some.inj hx; exact ⟨row_nil w, gi, 0, rfl, (cell_of_row _ _ 10 _ _ _ hi).trans rfl, (cell_of_row _ _ 11 _ _ _ hi).trans rfl, (cell_of_row _ _ 12 _ _ _ hi).trans rfl, (cell_of_row _ _ 13 _ _ _ hi).trans rfl, (cell_of_row _ _ 14 _ _ _ hi).trans rfl⟩
    | i + 3, hx => simp at hx
  | j + 1, hj => simp at hj
theorem run8 : runE al8 0 0 = (0, 0) ∧ runM al8 0 0 = unM (spM [(5, 9)]) (spM [(7, 12)]) ∧ runN al8 0 0 = 3 := by
  have e : runE al8 0 0 = (0, 0) := by
    unfold runE
    rw [al8_wrong, if_neg (by decide), if_neg (by decide), if_neg (by decide)]
  refine ⟨e, ?_, ?_⟩
  · unfold runM
    rw [if_pos (by rw [e])]
    exact congrArg Prod.fst (al8_ev _ _)
  · unfold runN
    rw [if_pos (by rw [e])]
    exact congrArg Prod.snd (al8_ev _ _)
set_option maxRecDepth 100000 in
set_option maxHeartbeats 4000000 in
theorem alive8_any (w : World) : Calls Try.prog 13 #[] w fun e w' => e = .returned (.bool true) ∧ Below w.heap.size w w' := by
  have c1 := spans8_any 5 9 w
  have hz := mv_lit
  go_enter Try.func13, Try.ntmps13
  go_wp2_with fail
  refine c1.mono ?_
  rintro e w1 ⟨g1, rfl, n1, b1⟩
  have c2 := spans8_any 7 12 w1
  clear c1
  go_wp2_with fail
  refine c2.mono ?_
  rintro e w2 ⟨g2, rfl, n2, b2⟩
  have n1a := (b2.block _ (lt_of_block n1)).trans n1
  have bb2 := b1.trans (b2.mono b1.size)
  clear c2 n1 b2 b1
  have bI := (Below.refl w2.heap.size w2).alloc (Nat.le_refl _) (.cells #[.int .i64 1, .int .i64 0, .int .i64 0, .int .i64 0, .slice (some ⟨g1, 0, none⟩) 1 1, .int .i64 1, .int .i64 0, .int .i64 0, .int .i64 0, .slice (some ⟨g2, 0, none⟩) 1 1, .int .i64 2, .int .i64 0, .int .i64 0, .int .i64 0, .slice none 0 0] 65)
  have nI := heap_alloc_new w2 (.cells #[.int .i64 1, .int .i64 0, .int .i64 0, .int .i64 0, .slice (some ⟨g1, 0, none⟩) 1 1, .int .i64 1, .int .i64 0, .int .i64 0, .int .i64 0, .slice (some ⟨g2, 0, none⟩) 1 1, .int .i64 2, .int .i64 0, .int .i64 0, .int .i64 0, .slice none 0 0] 65)
  have n1b := (bI.block _ (lt_of_block n1a)).trans n1a
  have n2b := (bI.block _ (lt_of_block n2)).trans n2
  have bb3 := bb2.trans (bI.mono bb2.size)
  generalize hwI : w2.alloc (.cells #[.int .i64 1, .int .i64 0, .int .i64 0, .int .i64 0, .slice (some ⟨g1, 0, none⟩) 1 1, .int .i64 1, .int .i64 0, .int .i64 0, .int .i64 0, .slice (some ⟨g2, 0, none⟩) 1 1, .int .i64 2, .int .i64 0, .int .i64 0, .int .i64 0, .slice none 0 0] 65) = wI at *
  have bC := (Below.refl wI.heap.size wI).alloc (Nat.le_refl _) (.cells #[.slice (some ⟨w2.heap.size, 0, none⟩) 3 3, .int .i64 2, .int .i64 3] 36)
  have nC := heap_alloc_new wI (.cells #[.slice (some ⟨w2.heap.size, 0, none⟩) 3 3, .int .i64 2, .int .i64 3] 36)
  have n1c := (bC.block _ (lt_of_block n1b)).trans n1b
  have n2c := (bC.block _ (lt_of_block n2b)).trans n2b
  have nIc := (bC.block _ (lt_of_block nI)).trans nI
  have bb4 := bb3.trans (bC.mono bb3.size)
  generalize hwC : wI.alloc (.cells #[.slice (some ⟨w2.heap.size, 0, none⟩) 3 3, .int .i64 2, .int .i64 3] 36) = wC at *
  have c3 := vrun_any al8 _ 0 0 wC (inV8 n1c n2c nIc nC)
  rw [run8.1, run8.2.1, run8.2.2] at c3
  have hcn := al8_cnt
  generalize unM (spM [(5, 9)]) (spM [(7, 12)]) = f at *
  clear n1a n2 bb2 bb3 bI bC n1b n2b nI nC n1c n2c nIc
  go_wp2_with fail
  refine c3.mono ?_
  rintro e w3 ⟨rfl, b3⟩
  have bb5 := bb4.trans (b3.mono bb4.size)
  clear c3 b3 bb4 hwI hwC
  have bA : Below w3.heap.size w3 ((w3.alloc (.cells (mv fun _ => false) 25)).alloc (.cells #[.int .i64 0, .int .i64 0] 28)) := ((Below.refl _ _).alloc (Nat.le_refl _) _).alloc (by simp) _
  have nM0 : ((w3.alloc (.cells (mv fun _ => false) 25)).alloc (.cells #[.int .i64 0, .int .i64 0] 28)).heap[w3.heap.size]? = some (.cells (mv fun _ => false) 25 (0, 0)) := by (repeat (first | refine blk_old _ _ _ (by simp only [size_alloc]; omega) ?_ | exact blk_new _ _ _ (by first | rfl | simp only [size_alloc])))
  have nF0 : ((w3.alloc (.cells (mv fun _ => false) 25)).alloc (.cells #[.int .i64 0, .int .i64 0] 28)).heap[w3.heap.size + 1]? = some (.cells #[.int .i64 0, .int .i64 0] 28 (0, 0)) := by (repeat (first | refine blk_old _ _ _ (by simp only [size_alloc]; omega) ?_ | exact blk_new _ _ _ (by first | rfl | simp only [size_alloc])))
  generalize hwA : (w3.alloc (.cells (mv fun _ => false) 25)).alloc (.cells #[.int .i64 0, .int .i64 0] 28) = wA at *
  have nM1 := setRow_heap _ _ _ (mv f) _ _ nM0
  have nF1 := (setRow_other wA w3.heap.size (w3.heap.size + 1) (mv f) (by omega)).trans nF0
  have bB := below_setRow bA (Nat.le_refl _) (mv f)
  generalize hwB : wA.setRow w3.heap.size (mv f) = wB at *
  have nM2 := (setRow_other wB (w3.heap.size + 1) w3.heap.size #[.int .i64 0, .int .i64 0] (by omega)).trans nM1
  have nF2 := setRow_heap _ _ _ #[.int .i64 0, .int .i64 0] _ _ nF1
  have bC := below_setRow bB (by omega : w3.heap.size ≤ w3.heap.size + 1) #[.int .i64 0, .int .i64 0]
  generalize hwC : wB.setRow (w3.heap.size + 1) #[.int .i64 0, .int .i64 0] = wC2 at *
  have zF := (cell_of_row _ _ 0 _ _ _ nF2).trans rfl
  have bb6 := bb5.trans (bC.mono bb5.size)
  have c4 := count_any f wC2
  rw [hcn] at c4
  clear bb5 bA bB bC nF2 hcn
  go_wp2_with (first
    | (refine wpList_store_row rfl 25 _ _ rfl _ _ rfl rfl _ _ nM0 (maskSize _) (by simp [mv_size]) (mv_all _) ?_)
    | (refine wpList_store_row rfl 28 _ _ rfl _ _ rfl rfl _ _ nF1 (by kernel_rfl) (by simp) (by simp [Value.oneCell']) ?_)
    | (refine load_g (by rfl) _ (by rfl) w3.heap.size (by rfl) f ?r ?_; (case r => exact nM2)))
  refine c4.mono ?_
  rintro e w5 ⟨rfl, b5⟩
  have HB := hidv (bb6.trans (b5.mono bb6.size))
  clear c4 b5 bb6 nM0 nF1 nM1 nF0 nM2 zF
  go_wp2_with fail
  go_ret
  exact ⟨rfl, HB.out⟩
end Go.Proofs.Ytclkmldegjdohaa
