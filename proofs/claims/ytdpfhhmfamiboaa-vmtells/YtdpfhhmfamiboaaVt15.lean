/- Codes asked first; the law VmBound walked. Written by genvmn.py. -/
import Derived.Test.YtdpfhhmfamiboaaVt09
import Derived.Test.YtdpfhhmfamiboaaVt02
import Derived.Test.YtdpfhhmfamiboaaVt14
import Derived.Laws.StructEq
import Derived.Test.YtdpfhhmfamiboaaVt10
import Derived.Test.YtdpfhhmfamiboaaVt04
namespace Go.Proofs.Ytdpfhhmfamiboaa
open Go.RowKit Msk Vx

set_option maxRecDepth 100000 in
set_option maxHeartbeats 4000000 in
theorem spans8_any (a b : Int) (w : World) : Calls Try.prog 39 #[.int .i64 a, .int .i64 b] w fun e w' => ∃ g : Nat, e = .returned (.agg #[.int .i64 1, .int .i64 0, .int .i64 0, .int .i64 0, .slice (some ⟨g, 0, none⟩) 1 1]) ∧ w'.heap[g]? = some (.cells #[.int .i64 a, .int .i64 b] 97 (0, 0)) ∧ Below w.heap.size w w' := by
  have bA := (Below.refl w.heap.size w).alloc (Nat.le_refl _) (.cells #[.int .i64 0, .int .i64 0, .int .i64 0, .int .i64 0, .slice none 0 0] 65)
  have nA := heap_alloc_new w (.cells #[.int .i64 0, .int .i64 0, .int .i64 0, .int .i64 0, .slice none 0 0] 65)
  generalize hwA : w.alloc (.cells #[.int .i64 0, .int .i64 0, .int .i64 0, .int .i64 0, .slice none 0 0] 65) = wA at *
  have bB := (Below.refl wA.heap.size wA).alloc (Nat.le_refl _) (.cells #[.int .i64 a, .int .i64 b] 97)
  have nB := heap_alloc_new wA (.cells #[.int .i64 a, .int .i64 b] 97)
  have nA2 := (bB.block _ (lt_of_block nA)).trans nA
  have b2 := bA.trans (bB.mono bA.size)
  have hl := lt_of_block nA
  generalize hwB : wA.alloc (.cells #[.int .i64 a, .int .i64 b] 97) = wB at *
  have nA3 := setRow_heap _ _ _ #[.int .i64 1, .int .i64 0, .int .i64 0, .int .i64 0, .slice (some ⟨wA.heap.size, 0, none⟩) 1 1] _ _ nA2
  have nB3 := (setRow_other wB w.heap.size wA.heap.size #[.int .i64 1, .int .i64 0, .int .i64 0, .int .i64 0, .slice (some ⟨wA.heap.size, 0, none⟩) 1 1] (by omega)).trans nB
  have b3 := below_setRow b2 (Nat.le_refl _) #[.int .i64 1, .int .i64 0, .int .i64 0, .int .i64 0, .slice (some ⟨wA.heap.size, 0, none⟩) 1 1]
  go_enter Try.func39, Try.ntmps39
  go_wp2_with (refine wpList_store_row rfl 65 _ _ rfl _ _ rfl rfl _ _ nA2 (by kernel_rfl) (by simp) (by simp [Value.oneCell']) ?_)
  refine bodyPost_ret (v := .agg #[.int .i64 1, .int .i64 0, .int .i64 0, .int .i64 0, .slice (some ⟨wA.heap.size, 0, none⟩) 1 1]) ?_ rfl ⟨_, rfl, nB3, b3⟩
  exact results_cell_row rfl _ _ w.heap.size _ _ _ _ rfl nA3 insType rfl (by kernel_rfl)
theorem row_one {w : World} {g : Nat} {a b : Int} (h : w.heap[g]? = some (.cells #[.int .i64 a, .int .i64 b] 97 (0, 0))) : RowV w (.slice (some ⟨g, 0, none⟩) 1 1) [(a, b)] := by
  refine .inr (.inr ⟨g, 0, 1, rfl, by simp, fun j hj => ?_⟩)
  have hj0 : j = 0 := by simp at hj; omega
  subst hj0
  exact ⟨(cell_of_row _ _ 0 _ _ _ h).trans rfl, (cell_of_row _ _ 1 _ _ _ h).trans rfl⟩
theorem row_nil (w : World) : RowV w (.slice none 0 0) [] := .inl ⟨rfl, none, 0, rfl⟩
theorem inV8 {w : World} {g1 g2 gi gc : Nat} (h1 : w.heap[g1]? = some (.cells #[.int .i64 5, .int .i64 9] 97 (0, 0))) (h2 : w.heap[g2]? = some (.cells #[.int .i64 7, .int .i64 12] 97 (0, 0)))
    (hi : w.heap[gi]? = some (.cells #[.int .i64 1, .int .i64 0, .int .i64 0, .int .i64 0, .slice (some ⟨g1, 0, none⟩) 1 1, .int .i64 1, .int .i64 0, .int .i64 0, .int .i64 0, .slice (some ⟨g2, 0, none⟩) 1 1, .int .i64 2, .int .i64 0, .int .i64 0, .int .i64 0, .slice none 0 0] 65 (0, 0)))
    (hc : w.heap[gc]? = some (.cells #[.slice (some ⟨gi, 0, none⟩) 3 3, .int .i64 2, .int .i64 3] 36 (0, 0))) : InV w (.slice (some ⟨gc, 0, none⟩) 1 1) al8 := by
  refine ⟨[(⟨[⟨1, 0, 0, 0, [(5, 9)]⟩, ⟨1, 0, 0, 0, [(7, 12)]⟩, ⟨2, 0, 0, 0, []⟩], 2, 3⟩, .slice (some ⟨gi, 0, none⟩) 3 3)], ⟨_, _, rfl, by simp, fun j u hj => ?_⟩, rfl⟩
  match j, hj with
  | 0, hj =>
    cases Option.some.inj hj
    refine ⟨⟨[(⟨1, 0, 0, 0, [(5, 9)]⟩, .slice (some ⟨g1, 0, none⟩) 1 1), (⟨1, 0, 0, 0, [(7, 12)]⟩, .slice (some ⟨g2, 0, none⟩) 1 1), (⟨2, 0, 0, 0, []⟩, .slice none 0 0)], ⟨_, _, rfl, by simp, fun i x hx => ?_⟩, rfl⟩, gc, 0, rfl, (cell_of_row _ _ 0 _ _ _ hc).trans rfl, (cell_of_row _ _ 1 _ _ _ hc).trans rfl, (cell_of_row _ _ 2 _ _ _ hc).trans rfl⟩
    match i, hx with
    | 0, hx => cases Option.some.inj hx; exact ⟨row_one h1, gi, 0, rfl, (cell_of_row _ _ 0 _ _ _ hi).trans rfl, (cell_of_row _ _ 1 _ _ _ hi).trans rfl, (cell_of_row _ _ 2 _ _ _ hi).trans rfl, (cell_of_row _ _ 3 _ _ _ hi).trans rfl, (cell_of_row _ _ 4 _ _ _ hi).trans rfl⟩
    | 1, hx => cases Option.some.inj hx; exact ⟨row_one h2, gi, 0, rfl, (cell_of_row _ _ 5 _ _ _ hi).trans rfl, (cell_of_row _ _ 6 _ _ _ hi).trans rfl, (cell_of_row _ _ 7 _ _ _ hi).trans rfl, (cell_of_row _ _ 8 _ _ _ hi).trans rfl, (cell_of_row _ _ 9 _ _ _ hi).trans rfl⟩
    | 2, hx => cases Option.some.inj hx; exact ⟨row_nil w, gi, 0, rfl, (cell_of_row _ _ 10 _ _ _ hi).trans rfl, (cell_of_row _ _ 11 _ _ _ hi).trans rfl, (cell_of_row _ _ 12 _ _ _ hi).trans rfl, (cell_of_row _ _ 13 _ _ _ hi).trans rfl, (cell_of_row _ _ 14 _ _ _ hi).trans rfl⟩
    | i + 3, hx => simp at hx
  | j + 1, hj => simp at hj
theorem run8 : runE al8 0 0 = (0, 0) ∧ runM al8 0 0 = unM (spM [(5, 9)]) (spM [(7, 12)]) ∧ runN al8 0 0 = 3 := by
  have e : runE al8 0 0 = (0, 0) := by
    unfold runE
    rw [al8_wrong, if_neg (by decide), if_neg (by decide), if_neg (by decide)]
  refine ⟨e, ?_, ?_⟩
  · unfold runM
    rw [if_pos (by rw [e])]
    exact congrArg Prod.fst (al8_ev _ _)
  · unfold runN
    rw [if_pos (by rw [e])]
    exact congrArg Prod.snd (al8_ev _ _)
set_option maxRecDepth 100000 in
set_option maxHeartbeats 4000000 in
theorem alive8_any (w : World) : Calls Try.prog 13 #[] w fun e w' => e = .returned (.bool true) ∧ Below w.heap.size w w' := by
  have c1 := spans8_any 5 9 w
  have hz := mv_lit
  go_enter Try.func13, Try.ntmps13
  go_wp2_with fail
  refine c1.mono ?_
  rintro e w1 ⟨g1, rfl, n1, b1⟩
  have c2 := spans8_any 7 12 w1
  clear c1
  go_wp2_with fail
  refine c2.mono ?_
  rintro e w2 ⟨g2, rfl, n2, b2⟩
  have n1a := (b2.block _ (lt_of_block n1)).trans n1
  have bb2 := b1.trans (b2.mono b1.size)
  clear c2 n1 b2 b1
  have bI := (Below.refl w2.heap.size w2).alloc (Nat.le_refl _) (.cells #[.int .i64 1, .int .i64 0, .int .i64 0, .int .i64 0, .slice (some ⟨g1, 0, none⟩) 1 1, .int .i64 1, .int .i64 0, .int .i64 0, .int .i64 0, .slice (some ⟨g2, 0, none⟩) 1 1, .int .i64 2, .int .i64 0, .int .i64 0, .int .i64 0, .slice none 0 0] 65)
  have nI := heap_alloc_new w2 (.cells #[.int .i64 1, .int .i64 0, .int .i64 0, .int .i64 0, .slice (some ⟨g1, 0, none⟩) 1 1, .int .i64 1, .int .i64 0, .int .i64 0, .int .i64 0, .slice (some ⟨g2, 0, none⟩) 1 1, .int .i64 2, .int .i64 0, .int .i64 0, .int .i64 0, .slice none 0 0] 65)
  have n1b := (bI.block _ (lt_of_block n1a)).trans n1a
  have n2b := (bI.block _ (lt_of_block n2)).trans n2
  have bb3 := bb2.trans (bI.mono bb2.size)
  generalize hwI : w2.alloc (.cells #[.int .i64 1, .int .i64 0, .int .i64 0, .int .i64 0, .slice (some ⟨g1, 0, none⟩) 1 1, .int .i64 1, .int .i64 0, .int .i64 0, .int .i64 0, .slice (some ⟨g2, 0, none⟩) 1 1, .int .i64 2, .int .i64 0, .int .i64 0, .int .i64 0, .slice none 0 0] 65) = wI at *
  have bC := (Below.refl wI.heap.size wI).alloc (Nat.le_refl _) (.cells #[.slice (some ⟨w2.heap.size, 0, none⟩) 3 3, .int .i64 2, .int .i64 3] 36)
  have nC := heap_alloc_new wI (.cells #[.slice (some ⟨w2.heap.size, 0, none⟩) 3 3, .int .i64 2, .int .i64 3] 36)
  have n1c := (bC.block _ (lt_of_block n1b)).trans n1b
  have n2c := (bC.block _ (lt_of_block n2b)).trans n2b
  have nIc := (bC.block _ (lt_of_block nI)).trans nI
  have bb4 := bb3.trans (bC.mono bb3.size)
  generalize hwC : wI.alloc (.cells #[.slice (some ⟨w2.heap.size, 0, none⟩) 3 3, .int .i64 2, .int .i64 3] 36) = wC at *
  have c3 := vrun_any al8 _ 0 0 wC (inV8 n1c n2c nIc nC)
  rw [run8.1, run8.2.1, run8.2.2] at c3
  have hcn := al8_cnt
  generalize unM (spM [(5, 9)]) (spM [(7, 12)]) = f at *
  clear n1a n2 bb2 bb3 bI bC n1b n2b nI nC n1c n2c nIc
  go_wp2_with fail
  refine c3.mono ?_
  rintro e w3 ⟨rfl, b3⟩
  have bb5 := bb4.trans (b3.mono bb4.size)
  clear c3 b3 bb4 hwI hwC
  have bA : Below w3.heap.size w3 ((w3.alloc (.cells (mv fun _ => false) 25)).alloc (.cells #[.int .i64 0, .int .i64 0] 28)) := ((Below.refl _ _).alloc (Nat.le_refl _) _).alloc (by simp) _
  have nM0 : ((w3.alloc (.cells (mv fun _ => false) 25)).alloc (.cells #[.int .i64 0, .int .i64 0] 28)).heap[w3.heap.size]? = some (.cells (mv fun _ => false) 25 (0, 0)) := by (repeat (first | refine blk_old _ _ _ (by simp only [size_alloc]; omega) ?_ | exact blk_new _ _ _ (by first | rfl | simp only [size_alloc])))
  have nF0 : ((w3.alloc (.cells (mv fun _ => false) 25)).alloc (.cells #[.int .i64 0, .int .i64 0] 28)).heap[w3.heap.size + 1]? = some (.cells #[.int .i64 0, .int .i64 0] 28 (0, 0)) := by (repeat (first | refine blk_old _ _ _ (by simp only [size_alloc]; omega) ?_ | exact blk_new _ _ _ (by first | rfl | simp only [size_alloc])))
  generalize hwA : (w3.alloc (.cells (mv fun _ => false) 25)).alloc (.cells #[.int .i64 0, .int .i64 0] 28) = wA at *
  have nM1 := setRow_heap _ _ _ (mv f) _ _ nM0
  have nF1 := (setRow_other wA w3.heap.size (w3.heap.size + 1) (mv f) (by omega)).trans nF0
  have bB := below_setRow bA (Nat.le_refl _) (mv f)
  generalize hwB : wA.setRow w3.heap.size (mv f) = wB at *
  have nM2 := (setRow_other wB (w3.heap.size + 1) w3.heap.size #[.int .i64 0, .int .i64 0] (by omega)).trans nM1
  have nF2 := setRow_heap _ _ _ #[.int .i64 0, .int .i64 0] _ _ nF1
  have bC := below_setRow bB (by omega : w3.heap.size ≤ w3.heap.size + 1) #[.int .i64 0, .int .i64 0]
  generalize hwC : wB.setRow (w3.heap.size + 1) #[.int .i64 0, .int .i64 0] = wC2 at *
  have zF := (cell_of_row _ _ 0 _ _ _ nF2).trans rfl
  have bb6 := bb5.trans (bC.mono bb5.size)
  have c4 := count_any f wC2
  rw [hcn] at c4
  clear bb5 bA bB bC nF2 hcn
  go_wp2_with (first
    | (refine wpList_store_row rfl 25 _ _ rfl _ _ rfl rfl _ _ nM0 (maskSize _) (by simp [mv_size]) (mv_all _) ?_)
    | (refine wpList_store_row rfl 28 _ _ rfl _ _ rfl rfl _ _ nF1 (by kernel_rfl) (by simp) (by simp [Value.oneCell']) ?_)
    | (refine load_g (by rfl) _ (by rfl) w3.heap.size (by rfl) f ?r ?_; (case r => exact nM2)))
  refine c4.mono ?_
  rintro e w5 ⟨rfl, b5⟩
  have HB := hidv (bb6.trans (b5.mono bb6.size))
  clear c4 b5 bb6 nM0 nF1 nM1 nF0 nM2 zF
  go_wp2_with fail
  go_ret
  exact ⟨rfl, HB.out⟩
end Go.Proofs.Ytdpfhhmfamiboaa

/- The law VmBound walked. Written by genvmo.py. -/
namespace Go.Proofs.Ytdpfhhmfamiboaa
open Go.RowKit Msk Vx

theorem eql_same9 (f : Nat → Bool) (w : World) : (binOp .eql 25 (.agg (mv f)) (.agg (mv f))).run Try.prog w = .ok (.bool true) w := by
  rw [eql_mask, eqm_true fun _ _ => rfl]
theorem eqi_same9 (f : Nat → Bool) (w : World) : (Op.equalIn 10000 25 (.agg (mv f)) (.agg (mv f))).run Try.prog w = .ok true w := by
  rw [eq_mask, eqm_true fun _ _ => rfl]
theorem both_self {f : M} (h : dayM f) : mv (fun i => (f i && f i) && decide (i < 1440)) = mv f := mv_ext fun i _ => by
  by_cases hi : i < 1440
  · simp [hi]
  · simp [hi, h i (by omega)]
/-- Where nothing is wrong with a run. -/
theorem runE_ok {cs : List Cd} {rule day : Int} (h : (runE cs rule day).1 = 0) : Right cs ∧ wrongV cs = (0, 0) ∧ (0 ≤ rule ∧ rule < cs.length) ∧ (0 ≤ day ∧ day < 146097) := by
  unfold runE at h
  by_cases h1 : (wrongV cs).1 = 0
  · rw [if_neg (fun e => e h1)] at h
    have hw2 : wrongV cs = (0, 0) := by
      unfold wrongV at h1 ⊢
      by_cases q1 : 40 < cs.length
      · rw [if_pos q1] at h1; simp at h1
      · rw [if_neg q1] at h1 ⊢
        by_cases q2 : (firstF (fun i => aloneE (cs.getD i cd0) cs.length) cs.length 0).1 ≠ 0
        · rw [if_pos q2] at h1; exact absurd h1 q2
        · rw [if_neg q2] at h1 ⊢
          exact (firstF_ok _ _ h1).1
    by_cases h2 : 0 ≤ rule ∧ rule < cs.length
    · rw [if_neg (fun e => e h2)] at h
      by_cases h3 : 0 ≤ day ∧ day < 146097
      · exact ⟨wrong_right h1, hw2, h2, h3⟩
      · rw [if_pos h3] at h; simp at h
    · rw [if_pos h2] at h; simp at h
  · rw [if_pos h1] at h; exact absurd h h1
set_option maxRecDepth 100000 in
set_option maxHeartbeats 4000000 in
theorem vbound_walk (cs : List Cd) (lv : Value) (rule day : Int) (w : World) (h : InV w lv cs) :
    Calls Try.prog 4 #[lv, .int .i64 rule, .int .i64 day] w fun e w' => e = .returned (.bool true) ∧ Below w.heap.size w w' := by
  have c0 := alive8_any w
  have HIN := hidv h
  obtain ⟨p, cp, elv, hlen, hcc⟩ := h.form
  have hz := mv_lit
  obtain ⟨er, her⟩ : ∃ q, (runE cs rule day).1 = q := ⟨_, rfl⟩
  obtain ⟨at_, hat⟩ : ∃ q : Int, ((runE cs rule day).2 : Int) = q := ⟨_, rfl⟩
  obtain ⟨f, hf⟩ : ∃ q, runM cs rule day = q := ⟨_, rfl⟩
  obtain ⟨n, hn⟩ : ∃ q, runN cs rule day = q := ⟨_, rfl⟩
  have HRN : Hid (∀ W, Below w.heap.size w W → Calls Try.prog 9 #[lv, .int .i64 rule, .int .i64 day] W (OutR f (n : Int) er at_ W)) := fun W hW => by
    have := vrun_any cs lv rule day W (h.below hW)
    rw [her, hat, hf, hn] at this
    exact this
  have HWR0 : Hid (er = 0 → ∀ W, Below w.heap.size w W → Calls Try.prog 11 #[lv] W fun e w' => e = .returned (.agg #[.int .i64 0, .int .i64 0]) ∧ Below W.heap.size W w') := fun e0 W hW => by
    have := vwrong_any cs lv W (h.below hW)
    rw [(runE_ok (her.trans e0)).2.1] at this
    exact this
  have HOK : Hid (er = 0 → (∃ ri : Nat, rule = (ri : Int) ∧ ri < cs.length ∧ ∃ u, cs[ri]? = some u ∧ (n : Int) ≤ u.steps) ∧ 1 ≤ n ∧ dayM f) := fun e0 => by
    obtain ⟨q1, _, q3, _⟩ := runE_ok (her.trans e0)
    have e1 : f = (evV (wkB9 day) day cs (cs.length + 1) rule.toNat).1 := by rw [← hf]; exact if_pos (her.trans e0)
    have e2 : n = (evV (wkB9 day) day cs (cs.length + 1) rule.toNat).2 := by rw [← hn]; exact if_pos (her.trans e0)
    have hr : rule.toNat < cs.length := by omega
    have hu : cs[rule.toNat]? = some cs[rule.toNat] := List.getElem?_eq_getElem hr
    have := q1.run (wk := wkB9 day) (day := day) (cs.length + 1) _ _ hu (by have := rk_le (callE cs) cs.length rule.toNat; omega)
    rw [← e2] at this
    refine ⟨⟨rule.toNat, by omega, hr, _, hu, this.2.1⟩, this.1, ?_⟩
    rw [e1]
    exact dayM_ev _ _
  have HNO : Hid (er ≠ 0 → n = 0 ∧ f = fun _ => false) := fun e0 => ⟨by rw [← hn]; exact if_neg (fun e => e0 (her.symm.trans e)), by rw [← hf]; exact if_neg (fun e => e0 (her.symm.trans e))⟩
  have HCC := hidv hcc
  clear h hcc her hat hf hn
  subst elv
  go_enter Try.func4, Try.ntmps4
  go_wp2_with fail
  refine c0.mono ?_
  rintro e w1 ⟨rfl, b1⟩
  have c1 := HRN.out w1 b1
  clear c0 HRN
  go_wp2_with fail
  refine c1.mono ?_
  rintro e w3 ⟨rfl, b3⟩
  have bb5 := b1.trans (b3.mono b1.size)
  clear c1 b3 b1
  have bA : Below w3.heap.size w3 ((w3.alloc (.cells (mv fun _ => false) 25)).alloc (.cells #[.int .i64 0, .int .i64 0] 28)) := ((Below.refl _ _).alloc (Nat.le_refl _) _).alloc (by simp) _
  have nM0 : ((w3.alloc (.cells (mv fun _ => false) 25)).alloc (.cells #[.int .i64 0, .int .i64 0] 28)).heap[w3.heap.size]? = some (.cells (mv fun _ => false) 25 (0, 0)) := by (repeat (first | refine blk_old _ _ _ (by simp only [size_alloc]; omega) ?_ | exact blk_new _ _ _ (by first | rfl | simp only [size_alloc])))
  have nF0 : ((w3.alloc (.cells (mv fun _ => false) 25)).alloc (.cells #[.int .i64 0, .int .i64 0] 28)).heap[w3.heap.size + 1]? = some (.cells #[.int .i64 0, .int .i64 0] 28 (0, 0)) := by (repeat (first | refine blk_old _ _ _ (by simp only [size_alloc]; omega) ?_ | exact blk_new _ _ _ (by first | rfl | simp only [size_alloc])))
  generalize hwA : (w3.alloc (.cells (mv fun _ => false) 25)).alloc (.cells #[.int .i64 0, .int .i64 0] 28) = wA at *
  have nM1 := setRow_heap _ _ _ (mv f) _ _ nM0
  have nF1 := (setRow_other wA w3.heap.size (w3.heap.size + 1) (mv f) (by omega)).trans nF0
  have bB := below_setRow bA (Nat.le_refl _) (mv f)
  generalize hwB : wA.setRow w3.heap.size (mv f) = wB at *
  have nM2 := (setRow_other wB (w3.heap.size + 1) w3.heap.size #[.int .i64 er, .int .i64 at_] (by omega)).trans nM1
  have nF2 := setRow_heap _ _ _ #[.int .i64 er, .int .i64 at_] _ _ nF1
  have bC := below_setRow bB (by omega : w3.heap.size ≤ w3.heap.size + 1) #[.int .i64 er, .int .i64 at_]
  generalize hwC : wB.setRow (w3.heap.size + 1) #[.int .i64 er, .int .i64 at_] = wC at *
  have zF := (cell_of_row _ _ 0 _ _ _ nF2).trans rfl
  have bb6 := bb5.trans (bC.mono bb5.size)
  clear bb5 bA bB bC nF2
  by_cases he : er = 0
  · subst he
    obtain ⟨⟨ri, rfl, hri, u, hu, hst⟩, hn1, hdf⟩ := HOK.out rfl
    obtain ⟨sv, _, g, o, hpe, _, _, e2⟩ := HCC.out ri u hu
    subst hpe
    have HWR : Hid (∀ W, Below wC.heap.size wC W → Calls Try.prog 11 #[.slice (some ⟨g, o, none⟩) cs.length cp] W fun e w' => e = .returned (.agg #[.int .i64 0, .int .i64 0]) ∧ Below W.heap.size W w') := fun W hW => HWR0.out rfl W (bb6.trans (hW.mono bb6.size))
    have HBO : Hid (∀ W, Calls Try.prog 14 #[.agg (mv f), .agg (mv f)] W fun e w' => e = .returned (.agg (mv f)) ∧ Below W.heap.size W w') := fun W => by
      have := both_any f f W
      rw [both_self hdf] at this
      exact this
    have HEQ : Hid (∀ W, (Op.equalIn 10000 25 (.agg (mv f)) (.agg (mv f))).run Try.prog W = .ok true W) := fun W => eqi_same9 f W
    have e2w := (bb6.cell (block_lt_of_cell e2)).trans e2
    have hr0 : (0 : Int) ≤ (ri : Int) := by omega
    have hr1 : (ri : Int) < (cs.length : Int) := by omega
    have hn1' : (1 : Int) ≤ (n : Int) := by omega
    obtain ⟨st, hst'⟩ : ∃ q, u.steps = q := ⟨_, rfl⟩
    rw [hst'] at e2w hst
    clear HOK HNO HCC HIN HWR0 hst' hdf e2 hu
    have e2 := e2w
    clear e2w
    go_wp2_with (first
      | (refine wpList_store_row rfl 25 _ _ rfl _ _ rfl rfl _ _ nM0 (maskSize _) (by simp [mv_size]) (mv_all _) ?_)
      | (refine wpList_store_row rfl 28 _ _ rfl _ _ rfl rfl _ _ nF1 (by kernel_rfl) (by simp) (by simp [Value.oneCell']) ?_))
    obtain ⟨rr, hrr⟩ : ∃ b, w3.heap.size = b := ⟨_, rfl⟩
    rw [hrr] at nM2
    simp only [hrr]
    clear hwA hwB hwC nM0 nF0 nM1 nF1 zF hrr
    refine wp_region_JL (fun _ W => Below wC.heap.size wC W) (fun L _ => (Below.refl _ _).drew) (by kernel_rfl) (by kernel_rfl) (by kernel_rfl) (by kernel_rfl) [(some 30, .slice (some ⟨g, o, none⟩) cs.length cp), (some 31, .agg #[.int .i64 0, .int .i64 0]), (some 32, .int .i64 0), (some 33, .bool true), (some 34, .bool true), (some 35, .int .i64 (n : Int)), (some 36, .bool true), (some 37, .bool true), (some 38, .bool true), (some 39, .int .i64 (n : Int)), (some 40, .slice (some ⟨g, o, none⟩) cs.length cp), (some 41, .int .i64 (ri : Int)), (some 42, .pointer (some ⟨g, o + ri * 3, none⟩)), (some 43, .pointer (some ⟨g, o + ri * 3 + 2, none⟩)), (some 44, .int .i64 st), (some 45, .bool true), (some 46, .bool true), (some 47, .bool true), (some 48, .agg (mv f)), (some 49, .agg (mv f)), (some 50, .agg (mv f)), (some 51, .agg (mv f)), (some 52, .bool true), (some 53, .bool true), (some 6, .bool true)] [(30, .slice (some ⟨g, o, none⟩) cs.length cp), (31, .agg #[.int .i64 0, .int .i64 0]), (32, .int .i64 0), (33, .bool true), (34, .bool true), (35, .int .i64 (n : Int)), (36, .bool true), (37, .bool true), (38, .bool true), (39, .int .i64 (n : Int)), (40, .slice (some ⟨g, o, none⟩) cs.length cp), (41, .int .i64 (ri : Int)), (42, .pointer (some ⟨g, o + ri * 3, none⟩)), (43, .pointer (some ⟨g, o + ri * 3 + 2, none⟩)), (44, .int .i64 st), (45, .bool true), (46, .bool true), (47, .bool true), (48, .agg (mv f)), (49, .agg (mv f)), (50, .agg (mv f)), (51, .agg (mv f)), (52, .bool true), (53, .bool true), (6, .bool true)] (by kernel_rfl) (by kernel_rfl) (by kernel_rfl) ?_ ?_
    · intro i' d v o' L A W2 ho hv hLi hdep hc hJ hkept hhas
      match i', ho, hv, hLi with
      | 0, ho, hv, hLi =>
        cases Option.some.inj ho
        cases Option.some.inj hv
        have h0 : A.tmps[0]?.getD undef = .slice (some ⟨g, o, none⟩) cs.length cp := (gd A 0).trans (hkept 0 (by kernel_rfl))
        refine wpOp_step rfl (fun K hK => ?_)
        go_simp
        exact hK _ _ ⟨rfl, hJ⟩
      | 1, ho, hv, hLi =>
        cases Option.some.inj ho
        cases Option.some.inj hv
        have h30 : A.tmps[30]?.getD undef = .slice (some ⟨g, o, none⟩) cs.length cp := (gd A 30).trans (hhas 0 30 _ rfl (hdep ⟨0, .data⟩ (by simp) rfl))
        refine wpOp_step rfl (fun K hK => ?_)
        go_simp
        refine (HWR.out W2 hJ).mono ?_
        rintro r' W' ⟨rfl, hb'⟩
        exact hK _ _ ⟨rfl, hJ.trans (hb'.mono hJ.size)⟩
      | 2, ho, hv, hLi =>
        cases Option.some.inj ho
        cases Option.some.inj hv
        have h31 : A.tmps[31]?.getD undef = .agg #[.int .i64 0, .int .i64 0] := (gd A 31).trans (hhas 1 31 _ rfl (hdep ⟨1, .data⟩ (by simp) rfl))
        refine wpOp_step rfl (fun K hK => ?_)
        go_simp
        exact hK _ _ ⟨rfl, hJ⟩
      | 3, ho, hv, hLi =>
        cases Option.some.inj ho
        cases Option.some.inj hv
        have h32 : A.tmps[32]?.getD undef = .int .i64 0 := (gd A 32).trans (hhas 2 32 _ rfl (hdep ⟨2, .data⟩ (by simp) rfl))
        refine wpOp_step rfl (fun K hK => ?_)
        go_simp
        exact hK _ _ ⟨rfl, hJ⟩
      | 4, ho, hv, hLi =>
        cases Option.some.inj ho
        cases Option.some.inj hv
        have h33 : A.tmps[33]?.getD undef = .bool true := (gd A 33).trans (hhas 3 33 _ rfl (hdep ⟨3, .data⟩ (by simp) rfl))
        refine wpOp_step rfl (fun K hK => ?_)
        go_simp
        exact hK _ _ ⟨rfl, hJ⟩
      | 5, ho, hv, hLi =>
        cases Option.some.inj ho
        cases Option.some.inj hv
        have hG : A.tmps[34]? = some (.bool true) := gdb (hhas 4 34 _ rfl (hdep ⟨4, .guard⟩ (by simp) rfl))
        have h8 : A.tmps[8]?.getD undef = .int .i64 (n : Int) := (gd A 8).trans (hkept 8 (by kernel_rfl))
        refine wpOp_step rfl (fun K hK => ?_)
        go_simp
        exact hK _ _ ⟨rfl, hJ⟩
      | 6, ho, hv, hLi =>
        cases Option.some.inj ho
        cases Option.some.inj hv
        have hG : A.tmps[34]? = some (.bool true) := gdb (hhas 4 34 _ rfl (hdep ⟨4, .guard⟩ (by simp) rfl))
        have h35 : A.tmps[35]?.getD undef = .int .i64 (n : Int) := (gd A 35).trans (hhas 5 35 _ rfl (hdep ⟨5, .data⟩ (by simp) rfl))
        refine wpOp_step rfl (fun K hK => ?_)
        go_simp
        exact hK _ _ ⟨rfl, hJ⟩
      | 7, ho, hv, hLi =>
        cases Option.some.inj ho
        cases Option.some.inj hv
        have h34 : A.tmps[34]?.getD undef = .bool true := (gd A 34).trans (hhas 4 34 _ rfl (hdep ⟨4, .data⟩ (by simp) rfl))
        have h36 : A.tmps[36]?.getD undef = .bool true := (gd A 36).trans (hhas 6 36 _ rfl (hdep ⟨6, .data⟩ (by simp) rfl))
        refine wpOp_step rfl (fun K hK => ?_)
        go_simp
        exact hK _ _ ⟨rfl, hJ⟩
      | 8, ho, hv, hLi =>
        cases Option.some.inj ho
        cases Option.some.inj hv
        have h37 : A.tmps[37]?.getD undef = .bool true := (gd A 37).trans (hhas 7 37 _ rfl (hdep ⟨7, .data⟩ (by simp) rfl))
        refine wpOp_step rfl (fun K hK => ?_)
        go_simp
        exact hK _ _ ⟨rfl, hJ⟩
      | 9, ho, hv, hLi =>
        cases Option.some.inj ho
        cases Option.some.inj hv
        have hG : A.tmps[38]? = some (.bool true) := gdb (hhas 8 38 _ rfl (hdep ⟨8, .guard⟩ (by simp) rfl))
        have h8 : A.tmps[8]?.getD undef = .int .i64 (n : Int) := (gd A 8).trans (hkept 8 (by kernel_rfl))
        refine wpOp_step rfl (fun K hK => ?_)
        go_simp
        exact hK _ _ ⟨rfl, hJ⟩
      | 10, ho, hv, hLi =>
        cases Option.some.inj ho
        cases Option.some.inj hv
        have hG : A.tmps[38]? = some (.bool true) := gdb (hhas 8 38 _ rfl (hdep ⟨8, .guard⟩ (by simp) rfl))
        have h0 : A.tmps[0]?.getD undef = .slice (some ⟨g, o, none⟩) cs.length cp := (gd A 0).trans (hkept 0 (by kernel_rfl))
        refine wpOp_step rfl (fun K hK => ?_)
        go_simp
        exact hK _ _ ⟨rfl, hJ⟩
      | 11, ho, hv, hLi =>
        cases Option.some.inj ho
        cases Option.some.inj hv
        have hG : A.tmps[38]? = some (.bool true) := gdb (hhas 8 38 _ rfl (hdep ⟨8, .guard⟩ (by simp) rfl))
        have h1 : A.tmps[1]?.getD undef = .int .i64 (ri : Int) := (gd A 1).trans (hkept 1 (by kernel_rfl))
        refine wpOp_step rfl (fun K hK => ?_)
        go_simp
        exact hK _ _ ⟨rfl, hJ⟩
      | 12, ho, hv, hLi =>
        cases Option.some.inj ho
        cases Option.some.inj hv
        have hG : A.tmps[38]? = some (.bool true) := gdb (hhas 8 38 _ rfl (hdep ⟨8, .guard⟩ (by simp) rfl))
        have h40 : A.tmps[40]?.getD undef = .slice (some ⟨g, o, none⟩) cs.length cp := (gd A 40).trans (hhas 10 40 _ rfl (hdep ⟨10, .data⟩ (by simp) rfl))
        have h41 : A.tmps[41]?.getD undef = .int .i64 (ri : Int) := (gd A 41).trans (hhas 11 41 _ rfl (hdep ⟨11, .data⟩ (by simp) rfl))
        refine wpOp_step rfl (fun K hK => ?_)
        go_simp
        exact hK _ _ ⟨rfl, hJ⟩
      | 13, ho, hv, hLi =>
        cases Option.some.inj ho
        cases Option.some.inj hv
        have hG : A.tmps[38]? = some (.bool true) := gdb (hhas 8 38 _ rfl (hdep ⟨8, .guard⟩ (by simp) rfl))
        have h42 : A.tmps[42]?.getD undef = .pointer (some ⟨g, o + ri * 3, none⟩) := (gd A 42).trans (hhas 12 42 _ rfl (hdep ⟨12, .data⟩ (by simp) rfl))
        have z := (hJ.cell (block_lt_of_cell e2)).trans e2
        refine wpOp_step rfl (fun K hK => ?_)
        go_simp
        exact hK _ _ ⟨rfl, hJ⟩
      | 14, ho, hv, hLi =>
        cases Option.some.inj ho
        cases Option.some.inj hv
        have hG : A.tmps[38]? = some (.bool true) := gdb (hhas 8 38 _ rfl (hdep ⟨8, .guard⟩ (by simp) rfl))
        have h43 : A.tmps[43]?.getD undef = .pointer (some ⟨g, o + ri * 3 + 2, none⟩) := (gd A 43).trans (hhas 13 43 _ rfl (hdep ⟨13, .data⟩ (by simp) rfl))
        have z := (hJ.cell (block_lt_of_cell e2)).trans e2
        refine wpOp_step rfl (fun K hK => ?_)
        go_simp
        exact hK _ _ ⟨rfl, hJ⟩
      | 15, ho, hv, hLi =>
        cases Option.some.inj ho
        cases Option.some.inj hv
        have hG : A.tmps[38]? = some (.bool true) := gdb (hhas 8 38 _ rfl (hdep ⟨8, .guard⟩ (by simp) rfl))
        have h39 : A.tmps[39]?.getD undef = .int .i64 (n : Int) := (gd A 39).trans (hhas 9 39 _ rfl (hdep ⟨9, .data⟩ (by simp) rfl))
        have h44 : A.tmps[44]?.getD undef = .int .i64 st := (gd A 44).trans (hhas 14 44 _ rfl (hdep ⟨14, .data⟩ (by simp) rfl))
        refine wpOp_step rfl (fun K hK => ?_)
        go_simp
        exact hK _ _ ⟨rfl, hJ⟩
      | 16, ho, hv, hLi =>
        cases Option.some.inj ho
        cases Option.some.inj hv
        have h38 : A.tmps[38]?.getD undef = .bool true := (gd A 38).trans (hhas 8 38 _ rfl (hdep ⟨8, .data⟩ (by simp) rfl))
        have h45 : A.tmps[45]?.getD undef = .bool true := (gd A 45).trans (hhas 15 45 _ rfl (hdep ⟨15, .data⟩ (by simp) rfl))
        refine wpOp_step rfl (fun K hK => ?_)
        go_simp
        exact hK _ _ ⟨rfl, hJ⟩
      | 17, ho, hv, hLi =>
        cases Option.some.inj ho
        cases Option.some.inj hv
        have h46 : A.tmps[46]?.getD undef = .bool true := (gd A 46).trans (hhas 16 46 _ rfl (hdep ⟨16, .data⟩ (by simp) rfl))
        refine wpOp_step rfl (fun K hK => ?_)
        go_simp
        exact hK _ _ ⟨rfl, hJ⟩
      | 18, ho, hv, hLi =>
        cases Option.some.inj ho
        cases Option.some.inj hv
        have hG : A.tmps[47]? = some (.bool true) := gdb (hhas 17 47 _ rfl (hdep ⟨17, .guard⟩ (by simp) rfl))
        have h7 : A.eval (.tmp 7) = .pointer (some ⟨rr, 0, none⟩) := hkept 7 (by kernel_rfl)
        refine wpOp_step rfl (fun K hK => ?_)
        rw [if_pos (by simp [Region.wanted, yielded, hG])]
        refine wp_load_row 25 _ rfl _ h7 _ _ _ _ ((hJ.block _ (lt_of_block nM2)).trans nM2) maskType rfl (maskSize _) ?_
        exact hK _ _ ⟨rfl, hJ⟩
      | 19, ho, hv, hLi =>
        cases Option.some.inj ho
        cases Option.some.inj hv
        have hG : A.tmps[47]? = some (.bool true) := gdb (hhas 17 47 _ rfl (hdep ⟨17, .guard⟩ (by simp) rfl))
        have h7 : A.eval (.tmp 7) = .pointer (some ⟨rr, 0, none⟩) := hkept 7 (by kernel_rfl)
        refine wpOp_step rfl (fun K hK => ?_)
        rw [if_pos (by simp [Region.wanted, yielded, hG])]
        refine wp_load_row 25 _ rfl _ h7 _ _ _ _ ((hJ.block _ (lt_of_block nM2)).trans nM2) maskType rfl (maskSize _) ?_
        exact hK _ _ ⟨rfl, hJ⟩
      | 20, ho, hv, hLi =>
        cases Option.some.inj ho
        cases Option.some.inj hv
        have hG : A.tmps[47]? = some (.bool true) := gdb (hhas 17 47 _ rfl (hdep ⟨17, .guard⟩ (by simp) rfl))
        have h48 : A.tmps[48]?.getD undef = .agg (mv f) := (gd A 48).trans (hhas 18 48 _ rfl (hdep ⟨18, .data⟩ (by simp) rfl))
        have h49 : A.tmps[49]?.getD undef = .agg (mv f) := (gd A 49).trans (hhas 19 49 _ rfl (hdep ⟨19, .data⟩ (by simp) rfl))
        refine wpOp_step rfl (fun K hK => ?_)
        go_simp
        refine (HBO.out W2).mono ?_
        rintro r' W' ⟨rfl, hb'⟩
        exact hK _ _ ⟨rfl, hJ.trans (hb'.mono hJ.size)⟩
      | 21, ho, hv, hLi =>
        cases Option.some.inj ho
        cases Option.some.inj hv
        have hG : A.tmps[47]? = some (.bool true) := gdb (hhas 17 47 _ rfl (hdep ⟨17, .guard⟩ (by simp) rfl))
        have h7 : A.eval (.tmp 7) = .pointer (some ⟨rr, 0, none⟩) := hkept 7 (by kernel_rfl)
        refine wpOp_step rfl (fun K hK => ?_)
        rw [if_pos (by simp [Region.wanted, yielded, hG])]
        refine wp_load_row 25 _ rfl _ h7 _ _ _ _ ((hJ.block _ (lt_of_block nM2)).trans nM2) maskType rfl (maskSize _) ?_
        exact hK _ _ ⟨rfl, hJ⟩
      | 22, ho, hv, hLi =>
        cases Option.some.inj ho
        cases Option.some.inj hv
        have hG : A.tmps[47]? = some (.bool true) := gdb (hhas 17 47 _ rfl (hdep ⟨17, .guard⟩ (by simp) rfl))
        have h50 : A.tmps[50]?.getD undef = .agg (mv f) := (gd A 50).trans (hhas 20 50 _ rfl (hdep ⟨20, .data⟩ (by simp) rfl))
        have h51 : A.tmps[51]?.getD undef = .agg (mv f) := (gd A 51).trans (hhas 21 51 _ rfl (hdep ⟨21, .data⟩ (by simp) rfl))
        have hq := HEQ.out W2
        refine wpOp_step rfl (fun K hK => ?_)
        go_simp
        exact hK _ _ ⟨rfl, hJ⟩
      | 23, ho, hv, hLi =>
        cases Option.some.inj ho
        cases Option.some.inj hv
        have h47 : A.tmps[47]?.getD undef = .bool true := (gd A 47).trans (hhas 17 47 _ rfl (hdep ⟨17, .data⟩ (by simp) rfl))
        have h52 : A.tmps[52]?.getD undef = .bool true := (gd A 52).trans (hhas 22 52 _ rfl (hdep ⟨22, .data⟩ (by simp) rfl))
        refine wpOp_step rfl (fun K hK => ?_)
        go_simp
        exact hK _ _ ⟨rfl, hJ⟩
      | 24, ho, hv, hLi =>
        cases Option.some.inj ho
        cases Option.some.inj hv
        have h53 : A.tmps[53]?.getD undef = .bool true := (gd A 53).trans (hhas 23 53 _ rfl (hdep ⟨23, .data⟩ (by simp) rfl))
        refine wpOp_step rfl (fun K hK => ?_)
        go_simp
        exact hK _ _ ⟨rfl, hJ⟩
      | kk + 25, ho, hv, hLi => simp at hv
    · intro L W5 hL hJ
      simp only [putAll_cons, putAll_nil, Act.put, List.setIfInBounds_toArray, List.set_cons_succ, List.set_cons_zero]
      clear hL
      have HB := hidv (bb6.trans (hJ.mono bb6.size))
      clear hJ bb6
      go_wp2_with fail
      go_ret
      exact ⟨rfl, HB.out⟩
  · obtain ⟨rfl, rfl⟩ := HNO.out he
    have hb0 : (er == 0) = false := beq_eq_false_iff_ne.2 he
    have hbn : (er != 0) = true := by simpa using he
    have HB := hidv bb6
    have hq := fun W => eqi_same9 (fun _ => false) W
    have hq2 := fun W => eql_same9 (fun _ => false) W
    clear HOK HNO HCC HIN HWR0 he bb6
    go_wp2_with (first
      | (refine wpList_store_row rfl 25 _ _ rfl _ _ rfl rfl _ _ nM0 (maskSize _) (by simp [mv_size]) (mv_all _) ?_)
      | (refine wpList_store_row rfl 28 _ _ rfl _ _ rfl rfl _ _ nF1 (by kernel_rfl) (by simp) (by simp [Value.oneCell']) ?_)
      | (refine load_g (by rfl) _ (by rfl) w3.heap.size (by rfl) (fun _ => false) ?r ?_; (case r => exact nM2)))
    go_ret
    exact ⟨rfl, HB.out⟩
end Go.Proofs.Ytdpfhhmfamiboaa

/- What the law VmTells comes to. Written by genvtw.py. -/
namespace Go.Proofs.Ytdpfhhmfamiboaa
open Go.RowKit Msk Vx

theorem eqFaultV (a b : Int) (w : World) : (Op.equalIn 10000 28 (.agg #[.int .i64 a, .int .i64 b]) (.agg #[.int .i64 a, .int .i64 b])).run Try.prog w = .ok true w := by
  rw [run_equalIn_struct w 9999 28 _ _ (by kernel_rfl) (by kernel_rfl)]
  simp [Program.fieldsOf, Try.underlying28, Op.eqFields]
  go_simp
theorem eqlFaultV (a b : Int) (w : World) : (binOp .eql 28 (.agg #[.int .i64 a, .int .i64 b]) (.agg #[.int .i64 a, .int .i64 b])).run Try.prog w = .ok (.bool true) w := by
  rw [run_eql_struct, eqFaultV]; simp [Result.andThen]
/-- A guarded load of a fault. -/
theorem load_gF {ops : Array Oper} {rest : List Oper} {o : Oper} {a : Act} {w : World} {Q : Exit → Act → World → Prop} (hw : Region.wanted o (yielded ops a.tmps) = true) (x : Operand) (ho : o.op = .load 28 x) (g : Nat) (hx : a.eval x = .pointer (some ⟨g, 0, none⟩)) (p q : Int) (hg : w.heap[g]? = some (.cells #[.int .i64 p, .int .i64 q] 28 (0, 0)))
    (h : wpList Try.prog ops Q rest (a.put o.dst (.agg #[.int .i64 p, .int .i64 q])) w) : wpList Try.prog ops Q (o :: rest) a w :=
  wpList_step fun K hK => by
    rw [if_pos hw]
    exact wp_load_row 28 x ho g hx _ _ _ _ hg faultTypeV rfl (by kernel_rfl) (hK _ _ h)
attribute [local go_sem] eqlFaultV
set_option maxRecDepth 100000 in
set_option maxHeartbeats 4000000 in
theorem vtells_walk (cs : List Cd) (lv : Value) (rule day : Int) (w : World) (h : InV w lv cs) (hRun : ∀ W, InV W lv cs → Calls Try.prog 10 #[lv, .int .i64 rule, .int .i64 day] W (OutR (runM cs rule day) (runN cs rule day : Int) (runE cs rule day).1 ((runE cs rule day).2 : Int) W)) :
    Calls Try.prog 3 #[lv, .int .i64 rule, .int .i64 day] w fun e w' => e = .returned (.bool true) ∧ Below w.heap.size w w' := by
  obtain ⟨er, her⟩ : ∃ q, (runE cs rule day).1 = q := ⟨_, rfl⟩
  obtain ⟨at0, hat⟩ : ∃ q : Int, ((runE cs rule day).2 : Int) = q := ⟨_, rfl⟩
  obtain ⟨f, hf⟩ : ∃ q, runM cs rule day = q := ⟨_, rfl⟩
  obtain ⟨n, hn⟩ : ∃ q : Int, (runN cs rule day : Int) = q := ⟨_, rfl⟩
  have c1 : Hid (∀ W, Below w.heap.size w W → Calls Try.prog 9 #[lv, .int .i64 rule, .int .i64 day] W (OutR f n er at0 W)) := fun W hW => by
    have := vrun_any cs lv rule day W (h.below hW)
    rw [her, hat, hf, hn] at this
    exact this
  have c2 : Hid (∀ W, Below w.heap.size w W → Calls Try.prog 10 #[lv, .int .i64 rule, .int .i64 day] W (OutR f n er at0 W)) := fun W hW => by
    have := hRun W (h.below hW)
    rw [her, hat, hf, hn] at this
    exact this
  obtain ⟨er2, her2⟩ : ∃ q, (wrongV cs).1 = q := ⟨_, rfl⟩
  obtain ⟨at2, hat2⟩ : ∃ q : Int, ((wrongV cs).2 : Int) = q := ⟨_, rfl⟩
  have c3 : Hid (∀ W, Below w.heap.size w W → Calls Try.prog 11 #[lv] W fun e w' => e = .returned (.agg #[.int .i64 er2, .int .i64 at2]) ∧ Below W.heap.size W w') := fun W hW => by
    have := vwrong_any cs lv W (h.below hW)
    rw [her2, hat2] at this
    exact this
  have c4 : Hid (∀ W, Below w.heap.size w W → Calls Try.prog 12 #[lv] W fun e w' => e = .returned (.agg #[.int .i64 er2, .int .i64 at2]) ∧ Below W.heap.size W w') := fun W hW => by
    have := rwrong_any cs lv W (h.below hW)
    rw [her2, hat2] at this
    exact this
  have hz := mv_lit
  have hq := fun W => eql_same9 f W
  clear h hRun her hat hf hn her2 hat2
  go_enter Try.func3, Try.ntmps3
  have d1 := c1.out w (Below.refl _ _)
  clear c1
  go_wp2_with fail
  refine d1.mono ?_
  rintro e w1 ⟨rfl, b1⟩
  clear d1
  have bA1 : Below w1.heap.size w1 ((w1.alloc (.cells (mv fun _ => false) 25)).alloc (.cells #[.int .i64 0, .int .i64 0] 28)) := ((Below.refl _ _).alloc (Nat.le_refl _) _).alloc (by simp) _
  have nM01 : ((w1.alloc (.cells (mv fun _ => false) 25)).alloc (.cells #[.int .i64 0, .int .i64 0] 28)).heap[w1.heap.size]? = some (.cells (mv fun _ => false) 25 (0, 0)) := by (repeat (first | refine blk_old _ _ _ (by simp only [size_alloc]; omega) ?_ | exact blk_new _ _ _ (by first | rfl | simp only [size_alloc])))
  have nF01 : ((w1.alloc (.cells (mv fun _ => false) 25)).alloc (.cells #[.int .i64 0, .int .i64 0] 28)).heap[w1.heap.size + 1]? = some (.cells #[.int .i64 0, .int .i64 0] 28 (0, 0)) := by (repeat (first | refine blk_old _ _ _ (by simp only [size_alloc]; omega) ?_ | exact blk_new _ _ _ (by first | rfl | simp only [size_alloc])))
  generalize hwA1 : (w1.alloc (.cells (mv fun _ => false) 25)).alloc (.cells #[.int .i64 0, .int .i64 0] 28) = wA1 at *
  have nM11 := setRow_heap _ _ _ (mv f) _ _ nM01
  have nF11 := (setRow_other wA1 w1.heap.size (w1.heap.size + 1) (mv f) (by omega)).trans nF01
  have bB1 := below_setRow bA1 (Nat.le_refl _) (mv f)
  generalize hwB1 : wA1.setRow w1.heap.size (mv f) = wB1 at *
  have nM21 := (setRow_other wB1 (w1.heap.size + 1) w1.heap.size #[.int .i64 er, .int .i64 at0] (by omega)).trans nM11
  have nF21 := setRow_heap _ _ _ #[.int .i64 er, .int .i64 at0] _ _ nF11
  have bC1 := below_setRow bB1 (by omega : w1.heap.size ≤ w1.heap.size + 1) #[.int .i64 er, .int .i64 at0]
  generalize hwC1 : wB1.setRow (w1.heap.size + 1) #[.int .i64 er, .int .i64 at0] = wC1 at *
  have bb1 := b1.trans (bC1.mono b1.size)
  have d2 := c2.out wC1 bb1
  have hl1 := lt_of_block nM21
  have hl2 := lt_of_block nF21
  clear c2 b1 bA1 bB1 bC1
  go_wp2_with (first
    | (refine wpList_store_row rfl 25 _ _ rfl _ _ rfl rfl _ _ nM01 (maskSize _) (by simp [mv_size]) (mv_all _) ?_)
    | (refine wpList_store_row rfl 28 _ _ rfl _ _ rfl rfl _ _ nF11 (by kernel_rfl) (by simp) (by simp [Value.oneCell']) ?_))
  refine d2.mono ?_
  rintro e w2 ⟨rfl, b2⟩
  clear d2 nM01 nF01 nM11 nF11 hwA1 hwB1 hwC1
  obtain ⟨g1, hg1⟩ : ∃ q, w1.heap.size = q := ⟨_, rfl⟩
  rw [hg1] at nM21 nF21 hl1 hl2 ⊢
  clear hg1
  have mA := (b2.block _ hl1).trans nM21
  have fA := (b2.block _ hl2).trans nF21
  have bA2 : Below w2.heap.size w2 ((w2.alloc (.cells (mv fun _ => false) 25)).alloc (.cells #[.int .i64 0, .int .i64 0] 28)) := ((Below.refl _ _).alloc (Nat.le_refl _) _).alloc (by simp) _
  have nM02 : ((w2.alloc (.cells (mv fun _ => false) 25)).alloc (.cells #[.int .i64 0, .int .i64 0] 28)).heap[w2.heap.size]? = some (.cells (mv fun _ => false) 25 (0, 0)) := by (repeat (first | refine blk_old _ _ _ (by simp only [size_alloc]; omega) ?_ | exact blk_new _ _ _ (by first | rfl | simp only [size_alloc])))
  have nF02 : ((w2.alloc (.cells (mv fun _ => false) 25)).alloc (.cells #[.int .i64 0, .int .i64 0] 28)).heap[w2.heap.size + 1]? = some (.cells #[.int .i64 0, .int .i64 0] 28 (0, 0)) := by (repeat (first | refine blk_old _ _ _ (by simp only [size_alloc]; omega) ?_ | exact blk_new _ _ _ (by first | rfl | simp only [size_alloc])))
  generalize hwA2 : (w2.alloc (.cells (mv fun _ => false) 25)).alloc (.cells #[.int .i64 0, .int .i64 0] 28) = wA2 at *
  have nM12 := setRow_heap _ _ _ (mv f) _ _ nM02
  have nF12 := (setRow_other wA2 w2.heap.size (w2.heap.size + 1) (mv f) (by omega)).trans nF02
  have bB2 := below_setRow bA2 (Nat.le_refl _) (mv f)
  generalize hwB2 : wA2.setRow w2.heap.size (mv f) = wB2 at *
  have nM22 := (setRow_other wB2 (w2.heap.size + 1) w2.heap.size #[.int .i64 er, .int .i64 at0] (by omega)).trans nM12
  have nF22 := setRow_heap _ _ _ #[.int .i64 er, .int .i64 at0] _ _ nF12
  have bC2 := below_setRow bB2 (by omega : w2.heap.size ≤ w2.heap.size + 1) #[.int .i64 er, .int .i64 at0]
  generalize hwC2 : wB2.setRow (w2.heap.size + 1) #[.int .i64 er, .int .i64 at0] = wC2 at *
  have mB := (bC2.block _ (lt_of_block mA)).trans mA
  have fB := (bC2.block _ (lt_of_block fA)).trans fA
  have bb2 := bb1.trans ((b2.trans (bC2.mono b2.size)).mono bb1.size)
  have d3 := c3.out wC2 bb2
  clear c3 b2 bb1 bA2 bB2 bC2 nM21 nF21 mA fA hl1 hl2
  go_wp2_with (first
    | (refine wpList_store_row rfl 25 _ _ rfl _ _ rfl rfl _ _ nM02 (maskSize _) (by simp [mv_size]) (mv_all _) ?_)
    | (refine wpList_store_row rfl 28 _ _ rfl _ _ rfl rfl _ _ nF12 (by kernel_rfl) (by simp) (by simp [Value.oneCell']) ?_))
  refine d3.mono ?_
  rintro e w3 ⟨rfl, b3⟩
  clear d3 nM02 nF02 nM12 nF12 hwA2 hwB2 hwC2
  obtain ⟨g2, hg2⟩ : ∃ q, w2.heap.size = q := ⟨_, rfl⟩
  rw [hg2] at nM22 nF22 ⊢
  clear hg2
  have bb3 := bb2.trans (b3.mono bb2.size)
  have d4 := c4.out w3 bb3
  have mC := (b3.block _ (lt_of_block mB)).trans mB
  have fC := (b3.block _ (lt_of_block fB)).trans fB
  have mD := (b3.block _ (lt_of_block nM22)).trans nM22
  have fD := (b3.block _ (lt_of_block nF22)).trans nF22
  clear c4 b3 mB fB nM22 nF22 bb2
  go_wp2_with fail
  refine d4.mono ?_
  rintro e w4 ⟨rfl, b4⟩
  have bb4 := bb3.trans (b4.mono bb3.size)
  have mE := (b4.block _ (lt_of_block mC)).trans mC
  have fE := (b4.block _ (lt_of_block fC)).trans fC
  have mF := (b4.block _ (lt_of_block mD)).trans mD
  have fF := (b4.block _ (lt_of_block fD)).trans fD
  clear d4 b4 bb3 mC fC mD fD
  go_wp2_with (first
    | (refine load_g (by rfl) _ (by rfl) g1 (by rfl) f mE ?_)
    | (refine load_g (by rfl) _ (by rfl) g2 (by rfl) f mF ?_)
    | (refine load_gF (by rfl) _ (by rfl) (g1 + 1) (by rfl) er at0 fE ?_)
    | (refine load_gF (by rfl) _ (by rfl) (g2 + 1) (by rfl) er at0 fF ?_))
  go_ret
  exact ⟨rfl, bb4⟩
end Go.Proofs.Ytdpfhhmfamiboaa

/- Frames and stack while an instruction of the document's Run is carried out. -/
namespace Go.Proofs.Ytdpfhhmfamiboaa
open Go.RowKit Msk Vx

/-- What is said of the world while an instruction is taken out of the code. -/
structure BxJ (wd : World) (gb : Nat) (X : Array Value) (L : Nat → Bool) (W : World) : Prop where
  bel : Below wd.heap.size wd W
  ahead : L 14 = false → W.heap.size = gb
  mid : L 14 = true → L 15 = false → W.heap[gb]? = some (.cells #[.int .i64 0, .int .i64 0, .int .i64 0, .int .i64 0, .slice none 0 0] 65 (0, 0))
  fin : L 15 = true → W.heap[gb]? = some (.cells X 65 (0, 0))
section
variable {wd : World} {gb : Nat} {X : Array Value} {L : Nat → Bool} {W : World}
theorem BxJ.same (h : BxJ wd gb X L W) (i : Nat) (hi : i ≠ 14 ∧ i ≠ 15) : BxJ wd gb X (fun k => decide (i = k) || L k) W :=
  ⟨h.bel, fun e => h.ahead (Bool.or_eq_false_iff.1 e).2, fun e e' => h.mid (by simpa [hi.1] using e) (Bool.or_eq_false_iff.1 e').2, fun e => h.fin (by simpa [hi.2] using e)⟩
theorem BxJ.made (h : BxJ wd gb X L W) (h14 : L 14 = false) (h15 : L 15 = false) : BxJ wd gb X (fun k => decide (14 = k) || L k) (W.alloc (.cells #[.int .i64 0, .int .i64 0, .int .i64 0, .int .i64 0, .slice none 0 0] 65)) := by
  have e := h.ahead h14
  refine ⟨h.bel.alloc h.bel.size _, fun q => (by simp at q), fun _ _ => ?_, fun q => (by simp [h15] at q)⟩
  rw [← e]
  exact heap_alloc_new _ _
theorem BxJ.stored (h : BxJ wd gb X L W) (h14 : L 14 = true) (h15 : L 15 = false) (hg : wd.heap.size ≤ gb) : BxJ wd gb X (fun k => decide (15 = k) || L k) (W.setRow gb X) :=
  ⟨below_setRow h.bel hg _, fun q => (by simp [h14] at q), fun _ q => (by simp at q), fun _ => setRow_heap _ _ _ _ _ _ (h.mid h14 h15)⟩
end
/-- The stack, the frames, the instruction's own place. -/
structure RfM (w0 : World) (F : List Fr) (S : List M) (sv fv : Value) (gb : Nat) (X : Array Value) (W : World) : Prop where
  bel : Below w0.heap.size w0 W
  own : W.ownsRow w0.heap.size 25 23 sv S.length (flatS S)
  fr : W.ownsRow w0.heap.size 60 2 fv F.length (flatF F)
  box : W.heap[gb]? = some (.cells X 65 (0, 0))
section
variable {w0 W W' : World} {F : List Fr} {S : List M} {sv fv : Value} {gb : Nat} {X : Array Value}
theorem RfM.below (h : RfM w0 F S sv fv gb X W) (hb : Below W.heap.size W W') : RfM w0 F S sv fv gb X W' :=
  ⟨h.bel.trans (hb.mono h.bel.size), own_below h.own hb, own_below h.fr hb, (hb.block _ (lt_of_block h.box)).trans h.box⟩
theorem ownF_ne {w : World} {base n : Nat} {sv : Value} {xs : List Value} {g : Nat} {cs : Array Value} {T : TypeId} (h : w.ownsRow base 60 2 sv n xs) (hg : w.heap[g]? = some (.cells cs T (0, 0))) (hT : T ≠ 60) : some g ≠ sv.ownBlock := by
  rcases h.2 with ⟨e, _⟩ | ⟨b, cap, cur, e, _, hb, _⟩
  · rw [e]; simp [Value.ownBlock]
  · rw [e]
    intro q
    have q' : g = b := by simpa [Value.ownBlock] using q
    subst q'
    rw [hg] at hb
    injection hb with hb
    injection hb with _ h2 _
    exact hT h2
theorem own_apart' {w : World} {base n m : Nat} {sv fv : Value} {xs ys : List Value} (h : w.ownsRow base 25 23 sv n xs) (h' : w.ownsRow base 60 2 fv m ys) : sv.ownBlock = none ∨ fv.ownBlock ≠ sv.ownBlock := by
  rcases h.2 with ⟨e, _⟩ | ⟨b, cap, cur, e, _, hb, _⟩
  · exact .inl (by rw [e]; rfl)
  · refine .inr fun q => ?_
    have := ownF_ne h' hb (by decide)
    rw [q, e] at this
    exact this rfl
theorem grown_base {w0 W W' : World} {row : Option Nat} (hb : Below w0.heap.size w0 W) (hg : W.grownBy W' row) (hr : ∀ k, row = some k → w0.heap.size ≤ k) : Below w0.heap.size w0 W' :=
  ⟨hg.os.trans hb.os, hg.tape.trans hb.tape, hg.output.trans hb.output, Nat.le_trans hb.size hg.size, fun q hq => (hg.block q (Nat.lt_of_lt_of_le hq hb.size) fun e => by have := hr q e.symm; omega).trans (hb.block q hq)⟩
/-- The stack has grown. -/
theorem RfM.grown (h : RfM w0 F S sv fv gb X W) {S' : List M} {sv' : Value} (hg : W.grownBy W' sv.ownBlock) (hown : W'.ownsRow w0.heap.size 25 23 sv' S'.length (flatS S')) : RfM w0 F S' sv' fv gb X W' := by
  refine ⟨grown_base h.bel hg fun k hk => (h.own.lt k hk).1, hown, h.fr.kept hg ?_, (hg.block _ (lt_of_block h.box) (own_ne h.own h.box (by decide))).trans h.box⟩
  rcases own_apart h.own h.fr with q | q
  · exact .inl q
  · exact .inr (Ne.symm q)
/-- The frames have grown. -/
theorem RfM.grownF (h : RfM w0 F S sv fv gb X W) {F' : List Fr} {fv' : Value} (hg : W.grownBy W' fv.ownBlock) (hown : W'.ownsRow w0.heap.size 60 2 fv' F'.length (flatF F')) : RfM w0 F' S sv fv' gb X W' := by
  refine ⟨grown_base h.bel hg fun k hk => (h.fr.lt k hk).1, h.own.kept hg ?_, hown, (hg.block _ (lt_of_block h.box) (ownF_ne h.fr h.box (by decide))).trans h.box⟩
  rcases own_apart' h.own h.fr with q | q
  · exact .inl q
  · exact .inr (Ne.symm q)
/-- The last frame goes on elsewhere. -/
theorem RfM.go {r k : Nat} {T : List M} {G : List Fr} (h : RfM w0 (⟨r, k, T⟩ :: G) S sv fv gb X W) {g n cap q : Nat} (hv : fv = .slice (some ⟨g, 0, none⟩) n cap) (hq : G.length = q) (k' : Nat) (T' : List M) : RfM w0 (⟨r, k', T'⟩ :: G) S sv fv gb X (W.setCell ⟨g, q * 2 + 1, none⟩ (.int .i64 (k' : Int))) := by
  have h0 : fv.ownBlock = some g := by rw [hv]; rfl
  have hb := (h.fr.lt g h0).1
  have hgr : W.grownBy (W.setCell ⟨g, q * 2 + 1, none⟩ (.int .i64 (k' : Int))) (some g) := ⟨rfl, rfl, rfl, by simp, fun j hj hr => heap_setCell_other W ⟨g, q * 2 + 1, none⟩ j _ fun e => hr (congrArg some e)⟩
  have hfr := ownF_set h.fr hv k' T'
  rw [hq] at hfr
  rw [← h0] at hgr
  exact h.grownF hgr hfr
end
end Go.Proofs.Ytdpfhhmfamiboaa

/- Masks and frames that are put at a row's end. -/
namespace Go.Proofs.Ytdpfhhmfamiboaa
open Go.RowKit Msk Vx

section
variable {ops : Array Oper} {rest : List Oper} {op : Oper} {a : Act} {w : World} {Q : Exit → Act → World → Prop}
theorem wpList_buildM (hgd : op.guard = none) (x : Operand) (ho : op.op = .buildSlice 54 1 #[(0, x)]) (f : M) (hx : a.eval x = .agg (mv f))
    (h : wpList Try.prog ops Q rest (a.put op.dst (.slice (some ⟨w.heap.size, 0, none⟩) 1 1)) (w.alloc (.cells (mv f) 25))) : wpList Try.prog ops Q (op :: rest) a w :=
  wpList_plain hgd fun _ hK => wp_buildM x ho f hx (hK _ _ h)
theorem mvl_one (f : M) : ∀ u ∈ (mv f).toList, u.oneCell' = true := by
  intro u hu
  have := mv_all f
  rw [Array.all_eq_true_iff_forall_mem] at this
  exact this u (Array.mem_def.2 hu)
theorem wp_appendM {K : Act → World → Prop} (s x : Operand) (ho : op.op = .call { callee := .builtin .append, args := #[s, x], argTypes := #[54, 54] }) (base : Nat) (S : List M) (f : M) (v : Value) (hs : a.eval s = v) (hown : w.ownsRow base 25 23 v S.length (flatS S)) (g : Nat) (hx : a.eval x = .slice (some ⟨g, 0, none⟩) 1 1) (hg : w.heap[g]? = some (.cells (mv f) 25 (0, 0))) (hS : S.length ≤ 50000000) (hb : base ≤ w.heap.size)
    (h : ∀ v' w', w'.ownsRow base 25 23 v' (S ++ [f]).length (flatS (S ++ [f])) → w.grownBy w' v.ownBlock → K (a.put op.dst v') w') : op.wp Try.prog a w K Q := by
  obtain ⟨i0, hi, hz0, hz1, hz2⟩ := info_parts maskInfo9
  refine wp_append_own w s x 54 ho base 25 i0 _ 23 184 masksType hi hz0 hz1 hz2 rfl (by decide) v S.length (flatS S) hs hown ⟨g, 0, none⟩ 1 1 (mv f).toList hx (mvl_len f) ?_ (mvl_one f) (by unfold maxLen; omega) (by omega) hb fun v' w' h1 h2 _ => ?_
  · intro q u hq
    rw [in_add9]
    exact (cell_of_row _ _ _ _ _ _ hg).trans (by rw [Nat.zero_add, ← Array.getElem?_toList]; exact hq)
  · refine h v' w' ?_ h2
    rw [flatS_snoc, List.length_append, List.length_singleton]
    exact h1
theorem wpList_appendM (hgd : op.guard = none) (s x : Operand) (ho : op.op = .call { callee := .builtin .append, args := #[s, x], argTypes := #[54, 54] }) (base : Nat) (S : List M) (f : M) (v : Value) (hs : a.eval s = v) (hown : w.ownsRow base 25 23 v S.length (flatS S)) (g : Nat) (hx : a.eval x = .slice (some ⟨g, 0, none⟩) 1 1) (hg : w.heap[g]? = some (.cells (mv f) 25 (0, 0))) (hS : S.length ≤ 50000000) (hb : base ≤ w.heap.size)
    (h : ∀ v' w', w'.ownsRow base 25 23 v' (S ++ [f]).length (flatS (S ++ [f])) → w.grownBy w' v.ownBlock → wpList Try.prog ops Q rest (a.put op.dst v') w') : wpList Try.prog ops Q (op :: rest) a w :=
  wpList_plain hgd fun _ hK => wp_appendM s x ho base S f v hs hown g hx hg hS hb fun v' w' h1 h2 => hK _ _ (h v' w' h1 h2)
theorem wpList_appendF (hgd : op.guard = none) (s x : Operand) (ho : op.op = .call { callee := .builtin .append, args := #[s, x], argTypes := #[61, 61] }) (base : Nat) (F : List Fr) (r : Nat) (v : Value) (hs : a.eval s = v) (hown : w.ownsRow base 60 2 v F.length (flatF F)) (g : Nat) (hx : a.eval x = .slice (some ⟨g, 0, none⟩) 1 1) (hg : w.heap[g]? = some (.cells #[.int .i64 (r : Int), .int .i64 0] 60 (0, 0))) (hS : F.length ≤ 50000000) (hb : base ≤ w.heap.size)
    (h : ∀ v' w', w'.ownsRow base 60 2 v' (⟨r, 0, []⟩ :: F).length (flatF (⟨r, 0, []⟩ :: F)) → w.grownBy w' v.ownBlock → wpList Try.prog ops Q rest (a.put op.dst v') w') : wpList Try.prog ops Q (op :: rest) a w := by
  obtain ⟨i0, hi, hz0, hz1, hz2⟩ := info_parts frameInfo9
  refine wpList_append_own (w := w) hgd s x 61 ho base 60 i0 _ 2 16 framesType hi hz0 hz1 hz2 rfl (by decide) v F.length (flatF F) hs hown ⟨g, 0, none⟩ 1 1 [.int .i64 (r : Int), .int .i64 0] hx rfl ?_ ?_ (by unfold maxLen; omega) (by omega) hb fun v' w' h1 h2 _ => ?_
  · intro q u hq
    rw [in_add9]
    exact (cell_of_row _ _ _ _ _ _ hg).trans (by rw [Nat.zero_add, ← Array.getElem?_toList]; exact hq)
  · intro u hu
    rcases List.mem_cons.1 hu with rfl | hu
    · rfl
    · rcases List.mem_cons.1 hu with rfl | hu
      · rfl
      · cases hu
  · exact h v' w' h1 h2
end
section
variable {wk : Int → Bool} {day : Int} {cs : List Cd} {m : M} {N n : Nat} {w0 W : World} {G : List Fr} {S : List M} {sv fv : Value} {gb : Nat} {X : Array Value}
theorem RfM.re {r k : Nat} {T : List M} (h : RfM w0 (⟨r, k, T⟩ :: G) S sv fv gb X W) (T' : List M) : RfM w0 (⟨r, k, T'⟩ :: G) S sv fv gb X W := ⟨h.bel, h.own, h.fr, h.box⟩
theorem RfM.out {f : Fr} (h : RfM w0 (f :: G) S sv fv gb X W) (hS : S = stk (f :: G)) (hF : FInv wk day cs m N f G n) : RfI wk day cs m N w0 (f :: G) S n sv fv W :=
  ⟨h.bel, h.own, h.fr, fun e => (by cases e), fun f' G' e => (by cases e; exact ⟨hS, hF⟩)⟩
end
theorem ins_six {a b t : Int} {sp : List (Int × Int)} {k n r : Nat} (h : insE ⟨6, a, b, t, sp⟩ k n r = 0) : 1 ≤ a ∧ a ≤ 127 := by
  have h' : (if (k : Int) + 2 ≤ t ∧ t ≤ n then (if 1 ≤ a ∧ a ≤ 127 then (0 : Int) else 3) else 8) = 0 := h
  split at h'
  · split at h'
    · assumption
    · omega
  · omega
theorem ins_five {a b t : Int} {sp : List (Int × Int)} {k n r : Nat} (h : insE ⟨5, a, b, t, sp⟩ k n r = 0) : -1439 ≤ a ∧ a ≤ 1439 := by
  have h' : (if a ≠ 0 ∧ -1439 ≤ a ∧ a ≤ 1439 then (0 : Int) else 3) = 0 := h
  split at h'
  · omega
  · omega
end Go.Proofs.Ytdpfhhmfamiboaa

/- Regions whose values are known beforehand, where a slot that is read first is written last. It speaks of no program. -/
namespace Go.Proofs.Ytdpfhhmfamiboaa
open Go Go.RowKit
section
variable {P : Program} {ops : Array Oper} {Q : Exit → Act → World → Prop} {id : Nat} {a0 : Act} {w : World}

/-- Only this operation writes the slot. -/
def onlyAt (ops : Array Oper) (s k : Nat) : Bool := (List.range ops.size).all fun j => j == k || (match ops[j]? with | none => true | some o => o.dst != some s)
theorem only_ne {s k j : Nat} {o : Oper} (h : onlyAt ops s k = true) (ho : ops[j]? = some o) (hj : j ≠ k) : o.dst ≠ some s := by
  have h1 := List.all_eq_true.1 h j (by simpa using (Array.getElem?_eq_some_iff.1 ho).1)
  rw [ho] at h1
  simpa [hj] using h1
def StepW (P : Program) (ops : Array Oper) (Q : Exit → Act → World → Prop) (ds : List (Nat × Value)) (a0 : Act) (w : World) : Prop :=
  ∀ (i s : Nat) (v : Value) (o : Oper) (L : Nat → Bool) (A : Act) (W : World), ops[i]? = some o → ds[i]? = some (s, v) → (∀ e ∈ o.after, Region.binds .any e = true → L e.on = true) → Below w.heap.size w W →
    (∀ s, notDst ops s = true → A.tmps.getD s undef = a0.tmps.getD s undef) → (∀ (j s : Nat) (u : Value), ds[j]? = some (s, u) → L j = true → A.tmps.getD s undef = u) →
    L i = false → (∀ (j : Nat) (p : Oper), ops[j]? = some p → L j = true → ∀ e ∈ p.after, Region.binds .any e = true → L e.on = true) → (∀ s k, onlyAt ops s k = true → L k = false → A.tmps.getD s undef = a0.tmps.getD s undef) →
    wpOp P ops Q i (fun a' W' => a' = A.put (some s) v ∧ Below W.heap.size W W') A W
theorem wp_region_wals (hm : P.follows .mixedOrders = true) (hback : backB ops = true) (hdst : dstB ops = true) (hin : inB ops a0.tmps.size = true) (ds : List (Nat × Value))
    (hds : (ops.toList.take ops.size).map (fun o => o.dst) = ds.map (fun p => some p.1)) (hnd : decide (((ops.toList.take ops.size).map (fun o => o.dst)).Nodup) = true)
    (hstep : StepW P ops Q ds a0 w) (hend : ∀ W, Below w.heap.size w W → Q .normal (putAll ds a0) W) : (Code.region id ops true).wp P Q a0 w := by
  have hnd' : (ds.map (fun p => some p.1)).Nodup := by rw [← hds]; exact of_decide_eq_true hnd
  refine wp_region_flow hm hback hdst hin (fun L _ W => Below w.heap.size w W ∧ ∀ (j : Nat) (p : Oper), ops[j]? = some p → L j = true → ∀ e ∈ p.after, Region.binds .any e = true → L e.on = true) (fun j x _ => ∀ s v, ds[j]? = some (s, v) → x = v) ?_ ?_ ?_
  · intro L h
    refine ⟨(Below.refl _ _).drew, fun j p hp hj => ?_⟩
    have := h j (Array.getElem?_eq_some_iff.1 hp).1
    rw [this] at hj; cases hj
  · rintro i o L A W ho hLi hdep ⟨hJ, hc⟩ hdef hkept hhas
    have hi : i < ops.size := (Array.getElem?_eq_some_iff.1 ho).1
    obtain ⟨s, v, hv⟩ := at_dst hds hi ho
    have hd := dst_at hds ho hv
    have hc' : ∀ (j : Nat) (p : Oper), ops[j]? = some p → (decide (i = j) || L j) = true → ∀ e ∈ p.after, Region.binds .any e = true → (decide (i = e.on) || L e.on) = true := by
      intro j p hp hj e he hb
      by_cases hij : i = j
      · subst hij
        rw [ho] at hp
        cases hp
        rw [hdep e he hb]; simp
      · rw [hc j p hp (by simpa [hij] using hj) e he hb]; simp
    refine wpOp_mono ?_ (hstep i s v o L A W ho hv hdep hJ (fun s' h => hkept s' fun j p hp _ => nd h j p hp) (fun j s' u hj hL => ?_) hLi hc (fun s' k h hk => hkept s' fun j p hp hj => ?_))
    · rintro a' W' ⟨rfl, hb⟩
      exact ⟨v, by rw [hd], fun _ s' v' h => by rw [hv] at h; cases h; rfl, fun _ _ _ h => h, hJ.trans (hb.mono hJ.size), hc'⟩
    · have hj' : j < ds.length := (List.getElem?_eq_some_iff.1 hj).1
      have hl : ds.length = ops.size := by have := congrArg List.length hds; simpa using this.symm
      obtain ⟨p, hp⟩ : ∃ p, ops[j]? = some p := ⟨ops[j]'(by omega), Array.getElem?_eq_getElem _⟩
      exact hhas j p hp hL s' (dst_at hds hp hj) s' u hj
    · exact only_ne h hp (fun e => by rw [e, hk] at hj; cases hj)
  · intro L A W hL hJ hdef hsize hkept hhas
    have : A = putAll ds a0 := act_is ds hdef hsize hnd' (fun s h => hkept s fun j p hp e => ?_) (fun j s v hj => ?_)
    · rw [this]; exact hend W hJ.1
    · have hi : j < ops.size := (Array.getElem?_eq_some_iff.1 hp).1
      obtain ⟨s', v, hv⟩ := at_dst hds hi hp
      have := (dst_at hds hp hv).symm.trans e
      cases this
      exact h _ (List.mem_of_getElem? hv) rfl
    · have hj' : j < ds.length := (List.getElem?_eq_some_iff.1 hj).1
      have hl : ds.length = ops.size := by have := congrArg List.length hds; simpa using this.symm
      obtain ⟨p, hp⟩ : ∃ p, ops[j]? = some p := ⟨ops[j]'(by omega), Array.getElem?_eq_getElem _⟩
      exact hhas j p hp s (dst_at hds hp hj) s v hj
end
end Go.Proofs.Ytdpfhhmfamiboaa
