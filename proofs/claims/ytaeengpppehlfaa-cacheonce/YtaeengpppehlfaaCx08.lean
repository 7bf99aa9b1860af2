/- What masks.Shift comes to. -/
import Derived.Test.YtaeengpppehlfaaCx07
import Derived.Deep.QuietTactic
import Derived.BigQuiet
import Derived.Test.YtaeengpppehlfaaCx06
namespace Go.Proofs.Ytaeengpppehlfaa
open Go.RowKit Msk

/-- What is left of a mask that is moved: by minutes later, or earlier. -/
def shf (f : Nat → Bool) (x : Int) (t : Nat) : Bool := decide (t < 1440) && (decide (x ≤ (t : Int)) && (decide ((t : Int) - x < 1440) && f ((t : Int) - x).toNat))

theorem shf_none (f : Nat → Bool) (x : Int) (h : x ≤ -1440 ∨ 1440 ≤ x) : (mv fun _ => false) = mv (shf f x) := mv_ext fun t _ => by
  unfold shf
  by_cases h1 : t < 1440
  · by_cases h2 : x ≤ (t : Int)
    · have : ¬ (t : Int) - x < 1440 := by omega
      simp [this]
    · simp [h2]
  · simp [h1]
theorem shf_up (f : Nat → Bool) (b : Nat) : (mv fun t => (decide (b ≤ t) && f (t - b)) && decide (t < 1440)) = mv (shf f (b : Int)) := mv_ext fun t _ => by
  unfold shf
  by_cases h1 : t < 1440
  · by_cases h2 : b ≤ t
    · have e1 : ((t : Int) - (b : Int)).toNat = t - b := by omega
      have e2 : (b : Int) ≤ (t : Int) := by omega
      have e3 : (t : Int) - (b : Int) < 1440 := by omega
      simp [h1, h2, e1, e3]
    · have e2 : ¬ (b : Int) ≤ (t : Int) := by omega
      simp [h2]
  · simp [h1]
theorem shf_down (f : Nat → Bool) (b : Nat) : (mv fun t => decide (t + b < 1472) && (f (t + b) && decide (t + b < 1440))) = mv (shf f (-(b : Int))) := mv_ext fun t _ => by
  unfold shf
  by_cases h1 : t + b < 1440
  · have e1 : ((t : Int) - -(b : Int)).toNat = t + b := by omega
    have e2 : -(b : Int) ≤ (t : Int) := by omega
    have e3 : (t : Int) - -(b : Int) < 1440 := by omega
    have e4 : t + b < 1472 := by omega
    have e5 : t < 1440 := by omega
    rw [e1]
    simp only [h1, e2, e3, e4, e5, decide_true, Bool.true_and, Bool.and_true]
  · have e3 : ¬ (t : Int) - -(b : Int) < 1440 := by omega
    simp only [h1, e3, decide_false, Bool.and_false, Bool.false_and]

set_option maxRecDepth 10000 in
set_option maxHeartbeats 2000000 in
theorem mshift_any (f : Nat → Bool) (x : Int) (w : World) (hx0 : -9223372036854775808 ≤ x) (hx1 : x ≤ 9223372036854775807) :
    Calls Try.prog 68 #[.agg (mv f), .int .i64 x] w fun e w' => e = .returned (.agg (mv (shf f x))) ∧ Below w.heap.size w w' := by
  have hz := mv_lit
  have h1 : ((w.alloc (.cells (mv f) 25)).alloc (.cells (mv fun _ => false) 25)).heap[w.heap.size]? = some (.cells (mv f) 25 (0, 0)) := by (repeat (first | refine blk_old _ _ _ (by simp only [size_alloc]; omega) ?_ | exact blk_new _ _ _ (by first | rfl | simp only [size_alloc])))
  have h3 : ((w.alloc (.cells (mv f) 25)).alloc (.cells (mv fun _ => false) 25)).heap[w.heap.size + 1]? = some (.cells (mv fun _ => false) 25 (0, 0)) := by (repeat (first | refine blk_old _ _ _ (by simp only [size_alloc]; omega) ?_ | exact blk_new _ _ _ (by first | rfl | simp only [size_alloc])))
  have hb0 : Below w.heap.size w ((w.alloc (.cells (mv f) 25)).alloc (.cells (mv fun _ => false) 25)) := ((Below.refl _ _).alloc (Nat.le_refl _) _).alloc (by simp) _
  rcases (show (x ≤ -1440) ∨ (1440 ≤ x) ∨ (-1440 < x ∧ x < 0) ∨ (0 ≤ x ∧ x < 1440) from by omega) with h | h | ⟨h, h'⟩ | ⟨h, h'⟩
  · rw [← shf_none f x (.inl h)]
    go_enter Try.func68, Try.ntmps68
    go_wp2_with (refine wpList_store_row rfl 25 _ _ rfl _ _ rfl rfl _ _ h3 (maskSize _) (by simp [mv_size]) (mv_all _) ?_)
    refine bodyPost_ret (v := .agg (mv fun _ => false)) ?_ rfl ⟨rfl, below_setRow hb0 (by omega) _⟩
    exact results_cell_row rfl _ _ (w.heap.size + 1) _ _ _ _ rfl (setRow_heap _ _ _ _ _ _ h3) maskType rfl (maskSize _)
  · rw [← shf_none f x (.inr h)]
    have hno : ¬ x ≤ -1440 := by omega
    go_enter Try.func68, Try.ntmps68
    go_wp2_with (refine wpList_store_row rfl 25 _ _ rfl _ _ rfl rfl _ _ h3 (maskSize _) (by simp [mv_size]) (mv_all _) ?_)
    refine bodyPost_ret (v := .agg (mv fun _ => false)) ?_ rfl ⟨rfl, below_setRow hb0 (by omega) _⟩
    exact results_cell_row rfl _ _ (w.heap.size + 1) _ _ _ _ rfl (setRow_heap _ _ _ _ _ _ h3) maskType rfl (maskSize _)
  · obtain ⟨b, hb⟩ : ∃ b : Nat, -x = b := ⟨(-x).toNat, by omega⟩
    have hb2 : b < 1440 := by omega
    have hx : x = -(b : Int) := by omega
    have hshf := shf_down f b
    rw [← hx] at hshf
    rw [← hshf]
    clear hshf hx
    go_enter Try.func68, Try.ntmps68
    go_wp2_with (first
      | (refine wpList_load_row rfl 25 _ rfl _ rfl _ _ _ _ h1 maskType rfl (maskSize _) ?_)
      | (go_at_call 60; refine (trim_any _ _).mono ?_; rintro e w' ⟨rfl, hb'⟩; have ho' := (hb'.block _ (lt_of_block h3)).trans h3)
      | (go_at_call 79; refine (earlier_any _ _ hb2 _).mono ?_; rintro e w'' ⟨rfl, hb''⟩; have ho'' := (hb''.block _ (lt_of_block ho')).trans ho')
      | (refine wpList_store_row rfl 25 _ _ rfl _ _ rfl rfl _ _ ho'' (maskSize _) (by simp [mv_size]) (mv_all _) ?_))
    refine bodyPost_ret (v := .agg (mv fun t => decide (t + b < 1472) && (f (t + b) && decide (t + b < 1440)))) ?_ rfl ⟨rfl, ?_⟩
    · exact results_cell_row rfl _ _ (w.heap.size + 1) _ _ _ _ rfl (setRow_heap _ _ _ _ _ _ ho'') maskType rfl (maskSize _)
    · have hb1 := hb0.trans (hb'.mono hb0.size)
      exact below_setRow (hb1.trans (hb''.mono hb1.size)) (by omega) _
  · obtain ⟨b, rfl⟩ : ∃ b : Nat, x = b := ⟨x.toNat, by omega⟩
    rw [← shf_up f b]
    have hb2 : b < 1440 := by omega
    go_enter Try.func68, Try.ntmps68
    go_wp2_with (first
      | (refine wpList_load_row rfl 25 _ rfl _ rfl _ _ _ _ h1 maskType rfl (maskSize _) ?_)
      | (go_at_call 80; refine (later_any _ _ hb2 _).mono ?_; rintro e w' ⟨rfl, hb'⟩; have ho' := (hb'.block _ (lt_of_block h3)).trans h3)
      | (go_at_call 60; refine (trim_any _ _).mono ?_; rintro e w'' ⟨rfl, hb''⟩; have ho'' := (hb''.block _ (lt_of_block ho')).trans ho')
      | (refine wpList_store_row rfl 25 _ _ rfl _ _ rfl rfl _ _ ho'' (maskSize _) (by simp [mv_size]) (mv_all _) ?_))
    refine bodyPost_ret (v := .agg (mv fun t => (decide (b ≤ t) && f (t - b)) && decide (t < 1440))) ?_ rfl ⟨rfl, ?_⟩
    · exact results_cell_row rfl _ _ (w.heap.size + 1) _ _ _ _ rfl (setRow_heap _ _ _ _ _ _ ho'') maskType rfl (maskSize _)
    · have hb1 := hb0.trans (hb'.mono hb0.size)
      exact below_setRow (hb1.trans (hb''.mono hb1.size)) (by omega) _

end Go.Proofs.Ytaeengpppehlfaa

/- The machine: join, isDayOf. -/
namespace Go.Proofs.Ytaeengpppehlfaa
open Go.RowKit Msk Vx

theorem isDay9 (n : Int) (w : World) (a : 0 ≤ n) (b : n < 146097) : Calls Try.prog 84 #[.int .i64 n] w fun e w' => e = .returned (.bool true) ∧ w' = w := by
  go_enter Try.func84, Try.ntmps84
  go_wp2
  go_ret
  exact ⟨rfl, rfl⟩
/-- Its day of the week. -/
def wkd9 (n : Int) : Int := (n + 5).tmod 7
theorem wkd9_eq (n : Int) (a : 0 ≤ n) : wkd9 n = (n + 5) % 7 := by
  unfold wkd9
  rw [Int.tmod_eq_emod_of_nonneg (by omega)]
theorem wkd9_bd (n : Int) (a : 0 ≤ n) : 0 ≤ wkd9 n ∧ wkd9 n < 7 := by
  rw [wkd9_eq n a]
  omega
set_option maxHeartbeats 400000 in
theorem week9 (n : Int) (w : World) (a : 0 ≤ n) (b : n < 146097) : Calls Try.prog 81 #[.int .i64 n] w fun e w' => e = .returned (.int .i64 (wkd9 n)) ∧ w' = w := by
  have c1 := isDay9 n w a b
  have hb := wkd9_bd n a
  have hw : (n + 5).tmod 7 = wkd9 n := rfl
  go_enter Try.func81, Try.ntmps81
  go_wp2_with fail
  refine c1.mono ?_
  rintro e w' ⟨rfl, rfl⟩
  clear c1
  go_wp2_with fail
  go_ret
  exact ⟨rfl, rfl⟩
/-- Is the day's bit set? -/
def wkB9 (n a : Int) : Bool := bits BinOp.and IntKind.i64 (a / 2 ^ (wkd9 n).toNat) 1 == 1
set_option maxRecDepth 100000 in
set_option maxHeartbeats 1000000 in
theorem isDayOf6 (w0 : World) (gm : Nat) (lv : Value) (n k : Int) (S : List M) (x b t : Int) (sv : Value) (W : World) (h : VSt w0 gm lv n S k W) (a0 : 0 ≤ n) (a1 : n < 146097) :
    Calls Try.prog 69 #[.pointer (some ⟨gm, 0, none⟩), .agg #[.int .i64 6, .int .i64 x, .int .i64 b, .int .i64 t, sv]] W fun r w' => r = .returned (.bool (wkB9 n x)) ∧ Below W.heap.size W w' := by
  obtain ⟨_, _, s0, nM, _⟩ := h
  have k0 := (cell_of_row _ _ 1 _ _ _ nM).trans rfl
  have bA := (Below.refl W.heap.size W).alloc (Nat.le_refl _) (.cells #[.int .i64 6, .int .i64 x, .int .i64 b, .int .i64 t, sv] 65)
  have nA := heap_alloc_new W (.cells #[.int .i64 6, .int .i64 x, .int .i64 b, .int .i64 t, sv] 65)
  have k0' := (bA.cell (block_lt_of_cell k0)).trans k0
  have z0 := (cell_of_row _ _ 0 _ _ _ nA).trans rfl
  have z1 := (cell_of_row _ _ 1 _ _ _ nA).trans rfl
  have hb := wkd9_bd n a0
  have cw := fun W => week9 n W a0 a1
  generalize hwA : W.alloc (.cells #[.int .i64 6, .int .i64 x, .int .i64 b, .int .i64 t, sv] 65) = wA at *
  clear nM nA k0
  go_enter Try.func69, Try.ntmps69
  go_wp2_with fail
  go_quiet ((go_at_call 81; exact Calls.quiet_of_same (cw _)))
  go_wp2_with fail
  go_ret
  exact ⟨rfl, below_drewN bA nq⟩
set_option maxRecDepth 100000 in
set_option maxHeartbeats 1000000 in
theorem isDayOf7 (w0 : World) (gm : Nat) (lv : Value) (n k : Int) (S : List M) (x b t : Int) (sv : Value) (W : World) (h : VSt w0 gm lv n S k W) :
    Calls Try.prog 69 #[.pointer (some ⟨gm, 0, none⟩), .agg #[.int .i64 7, .int .i64 x, .int .i64 b, .int .i64 t, sv]] W fun r w' => r = .returned (.bool (decide (x ≤ n) && decide (n ≤ b))) ∧ Below W.heap.size W w' := by
  obtain ⟨_, _, s0, nM, _⟩ := h
  have k0 := (cell_of_row _ _ 1 _ _ _ nM).trans rfl
  have bA := (Below.refl W.heap.size W).alloc (Nat.le_refl _) (.cells #[.int .i64 7, .int .i64 x, .int .i64 b, .int .i64 t, sv] 65)
  have nA := heap_alloc_new W (.cells #[.int .i64 7, .int .i64 x, .int .i64 b, .int .i64 t, sv] 65)
  have k0' := (bA.cell (block_lt_of_cell k0)).trans k0
  have z0 := (cell_of_row _ _ 0 _ _ _ nA).trans rfl
  have z1 := (cell_of_row _ _ 1 _ _ _ nA).trans rfl
  have z2 := (cell_of_row _ _ 2 _ _ _ nA).trans rfl
  generalize hwA : W.alloc (.cells #[.int .i64 7, .int .i64 x, .int .i64 b, .int .i64 t, sv] 65) = wA at *
  clear nM nA k0
  by_cases h1 : x ≤ n
  · by_cases h2 : n ≤ b
    · rw [decide_eq_true h1, decide_eq_true h2]
      go_enter Try.func69, Try.ntmps69
      go_wp2_with fail
      go_quiet (fail)
      go_wp2_with fail
      go_ret
      exact ⟨rfl, below_drewN bA nq⟩
    · rw [decide_eq_true h1, decide_eq_false h2]
      have hd2 : decide (n ≤ b) = false := decide_eq_false h2
      go_enter Try.func69, Try.ntmps69
      go_wp2_with fail
      go_quiet (fail)
      go_wp2_with fail
      go_ret
      first
        | exact ⟨rfl, below_drewN bA nq⟩
        | exact ⟨congrArg (fun x => Ending.returned (.bool x)) hd2, below_drewN bA nq⟩
  · rw [decide_eq_false h1]
    have hd1 : decide (x ≤ n) = false := decide_eq_false h1
    go_enter Try.func69, Try.ntmps69
    go_wp2_with fail
    go_quiet (fail)
    go_wp2_with fail
    go_ret
    exact ⟨rfl, below_drewN bA nq⟩
set_option maxRecDepth 100000 in
set_option maxHeartbeats 4000000 in
theorem join_any (K : Nat) (F : M → M → M) (eK : ∀ args w, (callFunc K args).run Try.prog w = .ok (.enter K args) w) (hK : ∀ (f g : M) (W : World), Calls Try.prog K #[.agg (mv f), .agg (mv g)] W fun e w' => e = .returned (.agg (mv (F f g))) ∧ Below W.heap.size W w')
    (w0 : World) (gm : Nat) (lv : Value) (day k : Int) (S : List M) (f g : M) (W : World) (h : VSt w0 gm lv day (S ++ [f, g]) k W) (hS : S.length ≤ 900) :
    Calls Try.prog 65 #[.pointer (some ⟨gm, 0, none⟩), .func (.func K) #[] #[]] W fun e W' => e = .returned (.tuple #[]) ∧ VSt w0 gm lv day (S ++ [F f g]) k W' := by
  have e0 : S ++ [f, g] = (S ++ [f]) ++ [g] := by simp
  rw [e0] at h
  have c1 := take_any w0 gm lv day k (S ++ [f]) g W h (by rw [List.length_append]; simp; omega)
  have hz := mv_lit
  have HK := hidv hK
  clear hK h e0
  go_enter Try.func65, Try.ntmps65
  go_wp2_with fail
  refine c1.mono ?_
  rintro e w1 ⟨rfl, h1, _⟩
  clear c1
  have bA := (Below.refl w1.heap.size w1).alloc (Nat.le_refl _) (.cells (mv fun _ => false) 25)
  have nA := heap_alloc_new w1 (.cells (mv fun _ => false) 25)
  generalize hwA : w1.alloc (.cells (mv fun _ => false) 25) = wA at *
  have bB := below_setRow bA (Nat.le_refl _) (mv g)
  have nB := setRow_heap _ _ _ (mv g) _ _ nA
  have h2 := h1.below bB
  obtain ⟨_, _, sv1, nM1, _⟩ := h1
  have hg1 : w1.heap.size ≠ gm := fun e => by
    have := lt_of_block nM1
    omega
  generalize hwB : wA.setRow w1.heap.size (mv g) = wB at *
  have c2 := take_any w0 gm lv day k S f wB h2 (by omega)
  clear h2 bA bB nM1
  go_wp2_with (refine wpList_store_row rfl 25 _ _ rfl _ _ rfl rfl _ _ nA (maskSize _) (by simp [mv_size]) (mv_all _) ?_)
  refine c2.mono ?_
  rintro e w2 ⟨rfl, h3, hfr⟩
  have nG := (hfr _ (lt_of_block nB) hg1).trans nB
  clear c2 hwA hwB nA nB hfr
  have bC := (Below.refl w2.heap.size w2).alloc (Nat.le_refl _) (.cells (mv fun _ => false) 25)
  have nC := heap_alloc_new w2 (.cells (mv fun _ => false) 25)
  generalize hwC : w2.alloc (.cells (mv fun _ => false) 25) = wC at *
  have bD := below_setRow bC (Nat.le_refl _) (mv f)
  have nD := setRow_heap _ _ _ (mv f) _ _ nC
  have nG2 := (bD.block _ (lt_of_block nG)).trans nG
  have h4 := h3.below bD
  generalize hwD : wC.setRow w2.heap.size (mv f) = wD at *
  have c3 := HK.out f g wD
  clear h3 bC bD nG
  go_wp2_with (first
    | (refine wpList_store_row rfl 25 _ _ rfl _ _ rfl rfl _ _ nC (maskSize _) (by simp [mv_size]) (mv_all _) ?_)
    | (refine wpList_load_row rfl 25 _ rfl _ rfl _ _ _ _ nD maskType rfl (maskSize _) ?_)
    | (refine wpList_load_row rfl 25 _ rfl _ rfl _ _ _ _ nG2 maskType rfl (maskSize _) ?_))
  refine c3.mono ?_
  rintro e w5 ⟨rfl, b5⟩
  have h5 := h4.below b5
  have c4 := put_any w0 gm lv day k S (F f g) w5 h5 (by omega)
  clear c3 h4 b5 h5 nC nD nG2 hwC hwD
  go_wp2_with fail
  refine c4.mono ?_
  rintro e w6 ⟨rfl, h6, _⟩
  have HN := hidv h6
  clear c4 h6
  go_wp2_with fail
  exact ⟨rfl, _, results_none rfl _ _ _, rfl, HN.out⟩
end Go.Proofs.Ytaeengpppehlfaa

/- The machine's step, kind by kind. Written by genvmk.py. -/
namespace Go.Proofs.Ytaeengpppehlfaa
open Go.RowKit Msk Vx

theorem spM_eq (l : List (Int × Int)) : spM l = inl l := rfl
theorem shM_eq (f : M) (x : Int) : shM f x = shf f x := rfl
set_option maxRecDepth 100000 in
set_option maxHeartbeats 4000000 in
theorem step_1 (w0 : World) (gm : Nat) (lv : Value) (day c : Int) (S : List M) (a b t : Int) (sv : Value) (sp : List (Int × Int)) (k : Nat) (W : World) (h : VSt w0 gm lv day S c W) (hr : RowV W sv sp) (hk : k ≤ 2000) (hS : S.length ≤ 900) :
    Calls Try.prog 48 #[.pointer (some ⟨gm, 0, none⟩), .agg #[.int .i64 1, .int .i64 a, .int .i64 b, .int .i64 t, sv], .int .i64 (k : Int)] W fun e W' => e = .returned (.int .i64 ((k + 1 : Nat) : Int)) ∧ VSt w0 gm lv day (S ++ [spM sp]) c W' := by
  have bX := (Below.refl W.heap.size W).alloc (Nat.le_refl _) (.cells #[.int .i64 1, .int .i64 a, .int .i64 b, .int .i64 t, sv] 65)
  have nX := heap_alloc_new W (.cells #[.int .i64 1, .int .i64 a, .int .i64 b, .int .i64 t, sv] 65)
  have hX := h.below bX
  have z0 := (cell_of_row _ _ 0 _ _ _ nX).trans rfl
  have z1 := (cell_of_row _ _ 1 _ _ _ nX).trans rfl
  have z3 := (cell_of_row _ _ 3 _ _ _ nX).trans rfl
  have z4 := (cell_of_row _ _ 4 _ _ _ nX).trans rfl
  have hk0 : (0 : Int) ≤ (k : Int) := by omega
  have hk1 : (k : Int) ≤ 2000 := by omega
  generalize hwX : W.alloc (.cells #[.int .i64 1, .int .i64 a, .int .i64 b, .int .i64 t, sv] 65) = wX at *
  have c1 := of_anyV sv sp wX (hr.later bX)
  rw [← spM_eq] at c1
  clear h hr bX
  go_enter Try.func48, Try.ntmps48
  go_wp2_with fail
  refine c1.mono ?_
  rintro e w1 ⟨rfl, b1⟩
  have h1 := hX.below b1
  have c2 := put_any w0 gm lv day c S (spM sp) w1 h1 (by omega)
  clear c1 hX b1 h1 z0 z1 z3 z4 nX hwX
  go_wp2_with fail
  refine c2.mono ?_
  rintro e w2 ⟨rfl, h2, _⟩
  have HN := hidv h2
  clear c2 h2
  go_wp2_with fail
  go_ret
  exact ⟨by go_num, HN.out⟩
set_option maxRecDepth 100000 in
set_option maxHeartbeats 4000000 in
theorem step_2 (w0 : World) (gm : Nat) (lv : Value) (day c : Int) (S : List M) (f g : M) (a b t : Int) (sv : Value) (k : Nat) (W : World) (h : VSt w0 gm lv day (S ++ [f, g]) c W) (hk : k ≤ 2000) (hS : S.length ≤ 900) :
    Calls Try.prog 48 #[.pointer (some ⟨gm, 0, none⟩), .agg #[.int .i64 2, .int .i64 a, .int .i64 b, .int .i64 t, sv], .int .i64 (k : Int)] W fun e W' => e = .returned (.int .i64 ((k + 1 : Nat) : Int)) ∧ VSt w0 gm lv day (S ++ [unM f g]) c W' := by
  have bX := (Below.refl W.heap.size W).alloc (Nat.le_refl _) (.cells #[.int .i64 2, .int .i64 a, .int .i64 b, .int .i64 t, sv] 65)
  have nX := heap_alloc_new W (.cells #[.int .i64 2, .int .i64 a, .int .i64 b, .int .i64 t, sv] 65)
  have hX := h.below bX
  have z0 := (cell_of_row _ _ 0 _ _ _ nX).trans rfl
  have z1 := (cell_of_row _ _ 1 _ _ _ nX).trans rfl
  have z3 := (cell_of_row _ _ 3 _ _ _ nX).trans rfl
  have z4 := (cell_of_row _ _ 4 _ _ _ nX).trans rfl
  have hk0 : (0 : Int) ≤ (k : Int) := by omega
  have hk1 : (k : Int) ≤ 2000 := by omega
  generalize hwX : W.alloc (.cells #[.int .i64 2, .int .i64 a, .int .i64 b, .int .i64 t, sv] 65) = wX at *
  have c1 := join_any 66 unM (fun _ _ => by simp [go_sem]) (fun f g W => union_any f g W) w0 gm lv day c S f g wX hX (by omega)
  clear h bX hX nX
  go_enter Try.func48, Try.ntmps48
  go_wp2_with fail
  refine c1.mono ?_
  rintro e w1 ⟨rfl, h1⟩
  have HN := hidv h1
  clear c1 h1 z0 z1 z3 z4 hwX
  go_wp2_with fail
  go_ret
  exact ⟨by go_num, HN.out⟩
set_option maxRecDepth 100000 in
set_option maxHeartbeats 4000000 in
theorem step_3 (w0 : World) (gm : Nat) (lv : Value) (day c : Int) (S : List M) (f g : M) (a b t : Int) (sv : Value) (k : Nat) (W : World) (h : VSt w0 gm lv day (S ++ [f, g]) c W) (hk : k ≤ 2000) (hS : S.length ≤ 900) :
    Calls Try.prog 48 #[.pointer (some ⟨gm, 0, none⟩), .agg #[.int .i64 3, .int .i64 a, .int .i64 b, .int .i64 t, sv], .int .i64 (k : Int)] W fun e W' => e = .returned (.int .i64 ((k + 1 : Nat) : Int)) ∧ VSt w0 gm lv day (S ++ [dfM f g]) c W' := by
  have bX := (Below.refl W.heap.size W).alloc (Nat.le_refl _) (.cells #[.int .i64 3, .int .i64 a, .int .i64 b, .int .i64 t, sv] 65)
  have nX := heap_alloc_new W (.cells #[.int .i64 3, .int .i64 a, .int .i64 b, .int .i64 t, sv] 65)
  have hX := h.below bX
  have z0 := (cell_of_row _ _ 0 _ _ _ nX).trans rfl
  have z1 := (cell_of_row _ _ 1 _ _ _ nX).trans rfl
  have z3 := (cell_of_row _ _ 3 _ _ _ nX).trans rfl
  have z4 := (cell_of_row _ _ 4 _ _ _ nX).trans rfl
  have hk0 : (0 : Int) ≤ (k : Int) := by omega
  have hk1 : (k : Int) ≤ 2000 := by omega
  generalize hwX : W.alloc (.cells #[.int .i64 3, .int .i64 a, .int .i64 b, .int .i64 t, sv] 65) = wX at *
  have c1 := join_any 67 dfM (fun _ _ => by simp [go_sem]) (fun f g W => diff_any f g W) w0 gm lv day c S f g wX hX (by omega)
  clear h bX hX nX
  go_enter Try.func48, Try.ntmps48
  go_wp2_with fail
  refine c1.mono ?_
  rintro e w1 ⟨rfl, h1⟩
  have HN := hidv h1
  clear c1 h1 z0 z1 z3 z4 hwX
  go_wp2_with fail
  go_ret
  exact ⟨by go_num, HN.out⟩
set_option maxRecDepth 100000 in
set_option maxHeartbeats 4000000 in
theorem step_4 (w0 : World) (gm : Nat) (lv : Value) (day c : Int) (S : List M) (f g : M) (a b t : Int) (sv : Value) (k : Nat) (W : World) (h : VSt w0 gm lv day (S ++ [f, g]) c W) (hk : k ≤ 2000) (hS : S.length ≤ 900) :
    Calls Try.prog 48 #[.pointer (some ⟨gm, 0, none⟩), .agg #[.int .i64 4, .int .i64 a, .int .i64 b, .int .i64 t, sv], .int .i64 (k : Int)] W fun e W' => e = .returned (.int .i64 ((k + 1 : Nat) : Int)) ∧ VSt w0 gm lv day (S ++ [boM f g]) c W' := by
  have bX := (Below.refl W.heap.size W).alloc (Nat.le_refl _) (.cells #[.int .i64 4, .int .i64 a, .int .i64 b, .int .i64 t, sv] 65)
  have nX := heap_alloc_new W (.cells #[.int .i64 4, .int .i64 a, .int .i64 b, .int .i64 t, sv] 65)
  have hX := h.below bX
  have z0 := (cell_of_row _ _ 0 _ _ _ nX).trans rfl
  have z1 := (cell_of_row _ _ 1 _ _ _ nX).trans rfl
  have z3 := (cell_of_row _ _ 3 _ _ _ nX).trans rfl
  have z4 := (cell_of_row _ _ 4 _ _ _ nX).trans rfl
  have hk0 : (0 : Int) ≤ (k : Int) := by omega
  have hk1 : (k : Int) ≤ 2000 := by omega
  generalize hwX : W.alloc (.cells #[.int .i64 4, .int .i64 a, .int .i64 b, .int .i64 t, sv] 65) = wX at *
  have c1 := join_any 14 boM (fun _ _ => by simp [go_sem]) (fun f g W => both_any f g W) w0 gm lv day c S f g wX hX (by omega)
  clear h bX hX nX
  go_enter Try.func48, Try.ntmps48
  go_wp2_with fail
  refine c1.mono ?_
  rintro e w1 ⟨rfl, h1⟩
  have HN := hidv h1
  clear c1 h1 z0 z1 z3 z4 hwX
  go_wp2_with fail
  go_ret
  exact ⟨by go_num, HN.out⟩
/-- What is said of the world while a mask is shifted. -/
structure ShJ (w0 : World) (gm : Nat) (lv : Value) (day c : Int) (S : List M) (g g' : M) (gx : Nat) (X : Array Value) (L : Nat → Bool) (W : World) : Prop where
  box : W.heap[gx]? = some (.cells X 65 (0, 0))
  ahead : L 2 = false → VSt w0 gm lv day (S ++ [g]) c W
  mid : L 2 = true → L 6 = false → VSt w0 gm lv day S c W
  fin : L 6 = true → VSt w0 gm lv day (S ++ [g']) c W
theorem ShJ.same {w0 : World} {gm : Nat} {lv : Value} {day c : Int} {S : List M} {g g' : M} {gx : Nat} {X : Array Value} {L : Nat → Bool} {W W' : World} (h : ShJ w0 gm lv day c S g g' gx X L W) (i : Nat) (h2 : i ≠ 2) (h6 : i ≠ 6) (hb : Below W.heap.size W W') : ShJ w0 gm lv day c S g g' gx X (fun k => decide (i = k) || L k) W' := by
  refine ⟨(hb.block _ (lt_of_block h.box)).trans h.box, fun e => ?_, fun e e' => ?_, fun e => ?_⟩
  · exact (h.ahead (Bool.or_eq_false_iff.1 e).2).below hb
  · exact (h.mid (by simpa [h2] using e) (Bool.or_eq_false_iff.1 e').2).below hb
  · exact (h.fin (by simpa [h6] using e)).below hb
set_option maxRecDepth 100000 in
set_option maxHeartbeats 4000000 in
theorem step_5 (w0 : World) (gm : Nat) (lv : Value) (day c : Int) (S : List M) (g : M) (a b t : Int) (sv : Value) (k : Nat) (W : World) (h : VSt w0 gm lv day (S ++ [g]) c W) (hk : k ≤ 2000) (hS : S.length ≤ 900) (ha0 : -1439 ≤ a) (ha1 : a ≤ 1439) :
    Calls Try.prog 48 #[.pointer (some ⟨gm, 0, none⟩), .agg #[.int .i64 5, .int .i64 a, .int .i64 b, .int .i64 t, sv], .int .i64 (k : Int)] W fun e W' => e = .returned (.int .i64 ((k + 1 : Nat) : Int)) ∧ VSt w0 gm lv day (S ++ [shM g a]) c W' := by
  have bX := (Below.refl W.heap.size W).alloc (Nat.le_refl _) (.cells #[.int .i64 5, .int .i64 a, .int .i64 b, .int .i64 t, sv] 65)
  have nX := heap_alloc_new W (.cells #[.int .i64 5, .int .i64 a, .int .i64 b, .int .i64 t, sv] 65)
  have hX := h.below bX
  have z0 := (cell_of_row _ _ 0 _ _ _ nX).trans rfl
  have z1 := (cell_of_row _ _ 1 _ _ _ nX).trans rfl
  have z3 := (cell_of_row _ _ 3 _ _ _ nX).trans rfl
  have z4 := (cell_of_row _ _ 4 _ _ _ nX).trans rfl
  have hk0 : (0 : Int) ≤ (k : Int) := by omega
  have hk1 : (k : Int) ≤ 2000 := by omega
  generalize hwX : W.alloc (.cells #[.int .i64 5, .int .i64 a, .int .i64 b, .int .i64 t, sv] 65) = wX at *
  have HSH : Hid (∀ W, Calls Try.prog 68 #[.agg (mv g), .int .i64 a] W fun e w' => e = .returned (.agg (mv (shM g a))) ∧ Below W.heap.size W w') := fun W => mshift_any g a W (by omega) (by omega)
  have hgx : W.heap.size ≠ gm := fun e => by
    obtain ⟨_, _, _, q, _⟩ := h
    have := lt_of_block q
    omega
  clear h bX z1 z3 z4
  go_enter Try.func48, Try.ntmps48
  go_wp2_with fail
  obtain ⟨gx, hgx'⟩ : ∃ b, W.heap.size = b := ⟨_, rfl⟩
  rw [hgx'] at nX hgx
  simp only [hgx']
  clear hgx' hwX z0
  refine wp_region_JL (ShJ w0 gm lv day c S g (shM g a) gx #[.int .i64 5, .int .i64 a, .int .i64 b, .int .i64 t, sv]) (fun L hL => ⟨nX, fun _ => hX.below (Below.refl _ _).drew, fun e => (by rw [hL 2 (by decide)] at e; cases e), fun e => (by rw [hL 6 (by decide)] at e; cases e)⟩) (by kernel_rfl) (by kernel_rfl) (by kernel_rfl) (by kernel_rfl) [(some 30, .pointer (some ⟨gm, 0, none⟩)), (some 31, .pointer (some ⟨gm, 0, none⟩)), (some 32, .agg (mv g)), (some 33, .pointer (some ⟨gx, 1, none⟩)), (some 34, .int .i64 a), (some 35, .agg (mv (shM g a))), (some 36, .tuple #[])] [(30, .pointer (some ⟨gm, 0, none⟩)), (31, .pointer (some ⟨gm, 0, none⟩)), (32, .agg (mv g)), (33, .pointer (some ⟨gx, 1, none⟩)), (34, .int .i64 a), (35, .agg (mv (shM g a))), (36, .tuple #[])] (by kernel_rfl) (by kernel_rfl) (by kernel_rfl) ?_ ?_
  · intro i' d v o' L A W2 ho hv hLi hdep hc hJ hkept hhas
    match i', ho, hv, hLi with
    | 0, ho, hv, hLi =>
      cases Option.some.inj ho
      cases Option.some.inj hv
      have h0 : A.tmps[0]?.getD undef = .pointer (some ⟨gm, 0, none⟩) := (gd A 0).trans (hkept 0 (by kernel_rfl))
      refine wpOp_step rfl (fun K hK => ?_)
      go_simp
      exact hK _ _ ⟨rfl, hJ.same 0 (by decide) (by decide) (Below.refl _ _)⟩
    | 1, ho, hv, hLi =>
      cases Option.some.inj ho
      cases Option.some.inj hv
      have h0 : A.tmps[0]?.getD undef = .pointer (some ⟨gm, 0, none⟩) := (gd A 0).trans (hkept 0 (by kernel_rfl))
      refine wpOp_step rfl (fun K hK => ?_)
      go_simp
      exact hK _ _ ⟨rfl, hJ.same 1 (by decide) (by decide) (Below.refl _ _)⟩
    | 2, ho, hv, hLi =>
      cases Option.some.inj ho
      cases Option.some.inj hv
      have h31 : A.tmps[31]?.getD undef = .pointer (some ⟨gm, 0, none⟩) := (gd A 31).trans (hhas 1 31 _ rfl (hdep ⟨1, .data⟩ (by simp) rfl))
      refine wpOp_step rfl (fun K hK => ?_)
      go_simp
      refine (take_any w0 gm lv day c S g W2 (hJ.ahead hLi) (by omega)).mono ?_
      rintro e' W' ⟨rfl, hM, hfr⟩
      have hbx := (hfr _ (lt_of_block hJ.box) hgx).trans hJ.box
      have n6 : L 6 = false := by
        cases h : L 6 with
        | false => rfl
        | true =>
          have q5 := hc 6 _ rfl h ⟨5, .data⟩ (by simp) rfl
          have q2 := hc 5 _ rfl q5 ⟨2, .data⟩ (by simp) rfl
          rw [hLi] at q2; cases q2
      exact hK _ _ ⟨rfl, hbx, fun e => by simp at e, fun _ _ => hM, fun e => by simp [n6] at e⟩
    | 3, ho, hv, hLi =>
      cases Option.some.inj ho
      cases Option.some.inj hv
      have h4 : A.tmps[4]?.getD undef = .pointer (some ⟨gx, 0, none⟩) := (gd A 4).trans (hkept 4 (by kernel_rfl))
      have zz := (cell_of_row _ _ 1 _ _ _ hJ.box).trans rfl
      refine wpOp_step rfl (fun K hK => ?_)
      go_simp
      exact hK _ _ ⟨rfl, hJ.same 3 (by decide) (by decide) (Below.refl _ _)⟩
    | 4, ho, hv, hLi =>
      cases Option.some.inj ho
      cases Option.some.inj hv
      have h33 : A.tmps[33]?.getD undef = .pointer (some ⟨gx, 1, none⟩) := (gd A 33).trans (hhas 3 33 _ rfl (hdep ⟨3, .data⟩ (by simp) rfl))
      have zz := (cell_of_row _ _ 1 _ _ _ hJ.box).trans rfl
      refine wpOp_step rfl (fun K hK => ?_)
      go_simp
      exact hK _ _ ⟨rfl, hJ.same 4 (by decide) (by decide) (Below.refl _ _)⟩
    | 5, ho, hv, hLi =>
      cases Option.some.inj ho
      cases Option.some.inj hv
      have h32 : A.tmps[32]?.getD undef = .agg (mv g) := (gd A 32).trans (hhas 2 32 _ rfl (hdep ⟨2, .data⟩ (by simp) rfl))
      have h34 : A.tmps[34]?.getD undef = .int .i64 a := (gd A 34).trans (hhas 4 34 _ rfl (hdep ⟨4, .data⟩ (by simp) rfl))
      refine wpOp_step rfl (fun K hK => ?_)
      go_simp
      refine (HSH.out W2).mono ?_
      rintro e' W' ⟨rfl, hb'⟩
      exact hK _ _ ⟨rfl, hJ.same 5 (by decide) (by decide) hb'⟩
    | 6, ho, hv, hLi =>
      cases Option.some.inj ho
      cases Option.some.inj hv
      have h30 : A.tmps[30]?.getD undef = .pointer (some ⟨gm, 0, none⟩) := (gd A 30).trans (hhas 0 30 _ rfl (hdep ⟨0, .data⟩ (by simp) rfl))
      have h35 : A.tmps[35]?.getD undef = .agg (mv (shM g a)) := (gd A 35).trans (hhas 5 35 _ rfl (hdep ⟨5, .data⟩ (by simp) rfl))
      refine wpOp_step rfl (fun K hK => ?_)
      go_simp
      have q5 : L 5 = true := hdep ⟨5, .data⟩ (by simp) rfl
      have q2 : L 2 = true := hc 5 _ rfl q5 ⟨2, .data⟩ (by simp) rfl
      refine (put_any w0 gm lv day c S (shM g a) W2 (hJ.mid q2 hLi) (by omega)).mono ?_
      rintro e' W' ⟨rfl, hM, hfr⟩
      have hbx := hfr _ _ _ hJ.box (by decide) hgx
      exact hK _ _ ⟨rfl, hbx, fun e => by simp [q2] at e, fun _ e => by simp at e, fun _ => hM⟩
    | kk + 7, ho, hv, hLi => simp at hv
  · intro L W5 hL hJ
    have HN := hidv (hJ.fin (hL 6 (by decide)))
    simp only [putAll_cons, putAll_nil, Act.put, List.setIfInBounds_toArray, List.set_cons_succ, List.set_cons_zero]
    clear hL hJ HSH hX nX
    go_wp2_with fail
    go_ret
    exact ⟨by go_num, HN.out⟩
set_option maxRecDepth 100000 in
set_option maxHeartbeats 4000000 in
theorem step_8 (w0 : World) (gm : Nat) (lv : Value) (day c : Int) (S S' : List M) (c' : Int) (a b t : Int) (sv : Value) (k : Nat) (W : World) (h : VSt w0 gm lv day S c W) (hk : k ≤ 2000)
    (hrun : ∀ W, VSt w0 gm lv day S c W → Calls Try.prog 20 #[.pointer (some ⟨gm, 0, none⟩), .int .i64 a] W fun e W' => e = .returned (.tuple #[]) ∧ VSt w0 gm lv day S' c' W') :
    Calls Try.prog 48 #[.pointer (some ⟨gm, 0, none⟩), .agg #[.int .i64 8, .int .i64 a, .int .i64 b, .int .i64 t, sv], .int .i64 (k : Int)] W fun e W' => e = .returned (.int .i64 ((k + 1 : Nat) : Int)) ∧ VSt w0 gm lv day S' c' W' := by
  have bX := (Below.refl W.heap.size W).alloc (Nat.le_refl _) (.cells #[.int .i64 8, .int .i64 a, .int .i64 b, .int .i64 t, sv] 65)
  have nX := heap_alloc_new W (.cells #[.int .i64 8, .int .i64 a, .int .i64 b, .int .i64 t, sv] 65)
  have hX := h.below bX
  have z0 := (cell_of_row _ _ 0 _ _ _ nX).trans rfl
  have z1 := (cell_of_row _ _ 1 _ _ _ nX).trans rfl
  have z3 := (cell_of_row _ _ 3 _ _ _ nX).trans rfl
  have z4 := (cell_of_row _ _ 4 _ _ _ nX).trans rfl
  have hk0 : (0 : Int) ≤ (k : Int) := by omega
  have hk1 : (k : Int) ≤ 2000 := by omega
  generalize hwX : W.alloc (.cells #[.int .i64 8, .int .i64 a, .int .i64 b, .int .i64 t, sv] 65) = wX at *
  have c1 := hrun wX hX
  clear h bX hX nX hrun
  go_enter Try.func48, Try.ntmps48
  go_wp2_with fail
  refine c1.mono ?_
  rintro e w1 ⟨rfl, h1⟩
  have HN := hidv h1
  clear c1 h1 z0 z1 z3 z4 hwX
  go_wp2_with fail
  go_ret
  exact ⟨by go_num, HN.out⟩
set_option maxRecDepth 100000 in
set_option maxHeartbeats 4000000 in
theorem step_6 (w0 : World) (gm : Nat) (lv : Value) (day c : Int) (S : List M) (a b t : Int) (ps : Option Addr) (ls cs : Nat) (k : Nat) (W : World) (h : VSt w0 gm lv day S c W) (hk : k ≤ 2000) (hS : S.length ≤ 900) (d0 : 0 ≤ day) (d1 : day < 146097) :
    Calls Try.prog 48 #[.pointer (some ⟨gm, 0, none⟩), .agg #[.int .i64 6, .int .i64 a, .int .i64 b, .int .i64 t, .slice ps ls cs], .int .i64 (k : Int)] W fun e W' => e = .returned (.int .i64 (if wkB9 day a = true then ((k + 1 : Nat) : Int) else t)) ∧ VSt w0 gm lv day (if wkB9 day a = true then S else S ++ [noM]) c W' := by
  obtain ⟨sv, hsv⟩ : ∃ v, Value.slice ps ls cs = v := ⟨_, rfl⟩
  have bX := (Below.refl W.heap.size W).alloc (Nat.le_refl _) (.cells #[.int .i64 6, .int .i64 a, .int .i64 b, .int .i64 t, .slice ps ls cs] 65)
  have nX := heap_alloc_new W (.cells #[.int .i64 6, .int .i64 a, .int .i64 b, .int .i64 t, .slice ps ls cs] 65)
  have hX := h.below bX
  have z0 := (cell_of_row _ _ 0 _ _ _ nX).trans rfl
  have z1 := (cell_of_row _ _ 1 _ _ _ nX).trans rfl
  have z3 := (cell_of_row _ _ 3 _ _ _ nX).trans rfl
  have z4 := (cell_of_row _ _ 4 _ _ _ nX).trans rfl
  have hk0 : (0 : Int) ≤ (k : Int) := by omega
  have hk1 : (k : Int) ≤ 2000 := by omega
  generalize hwX : W.alloc (.cells #[.int .i64 6, .int .i64 a, .int .i64 b, .int .i64 t, .slice ps ls cs] 65) = wX at *
  have c1 := isDayOf6 w0 gm lv day c S a b t (.slice ps ls cs) wX hX d0 d1
  have hgx : W.heap.size ≠ gm := fun e => by
    obtain ⟨_, _, _, q, _⟩ := h
    have := lt_of_block q
    omega
  have hz := mv_lit
  clear h bX d0 d1 hsv
  generalize wkB9 day a = q at *
  cases q with
  | true =>
    simp only [if_true]
    go_enter Try.func48, Try.ntmps48
    go_wp2_with (refine wpList_load_row rfl 65 _ rfl _ rfl _ _ _ _ nX insType rfl (by kernel_rfl) ?_)
    refine c1.mono ?_
    rintro e w1 ⟨rfl, b1⟩
    have HN := hidv (hX.below b1)
    clear c1 hX b1 z0 z1 z3 z4 hwX nX
    go_wp2_with fail
    go_ret
    exact ⟨by go_num, HN.out⟩
  | false =>
    simp only [Bool.false_eq_true, if_false]
    go_enter Try.func48, Try.ntmps48
    go_wp2_with (refine wpList_load_row rfl 65 _ rfl _ rfl _ _ _ _ nX insType rfl (by kernel_rfl) ?_)
    refine c1.mono ?_
    rintro e w1 ⟨rfl, b1⟩
    have h1 := hX.below b1
    have nX1 := (b1.block _ (lt_of_block nX)).trans nX
    have c2 := put_any w0 gm lv day c S noM w1 h1 (by omega)
    unfold noM at c2
    clear c1 hX b1 h1 z0 z1 z3 z4 hwX nX
    go_wp2_with fail
    refine c2.mono ?_
    rintro e w2 ⟨rfl, h2, hfr⟩
    have nX2 := hfr _ _ _ nX1 (by decide) hgx
    have z3 := (cell_of_row _ _ 3 _ _ _ nX2).trans rfl
    have HN := hidv h2
    clear c2 h2 hfr nX1 nX2
    go_wp2_with fail
    go_ret
    exact ⟨rfl, HN.out⟩
set_option maxRecDepth 100000 in
set_option maxHeartbeats 4000000 in
theorem step_7 (w0 : World) (gm : Nat) (lv : Value) (day c : Int) (S : List M) (a b t : Int) (ps : Option Addr) (ls cs : Nat) (k : Nat) (W : World) (h : VSt w0 gm lv day S c W) (hk : k ≤ 2000) (hS : S.length ≤ 900) :
    Calls Try.prog 48 #[.pointer (some ⟨gm, 0, none⟩), .agg #[.int .i64 7, .int .i64 a, .int .i64 b, .int .i64 t, .slice ps ls cs], .int .i64 (k : Int)] W fun e W' => e = .returned (.int .i64 (if (decide (a ≤ day) && decide (day ≤ b)) = true then ((k + 1 : Nat) : Int) else t)) ∧ VSt w0 gm lv day (if (decide (a ≤ day) && decide (day ≤ b)) = true then S else S ++ [noM]) c W' := by
  obtain ⟨sv, hsv⟩ : ∃ v, Value.slice ps ls cs = v := ⟨_, rfl⟩
  have bX := (Below.refl W.heap.size W).alloc (Nat.le_refl _) (.cells #[.int .i64 7, .int .i64 a, .int .i64 b, .int .i64 t, .slice ps ls cs] 65)
  have nX := heap_alloc_new W (.cells #[.int .i64 7, .int .i64 a, .int .i64 b, .int .i64 t, .slice ps ls cs] 65)
  have hX := h.below bX
  have z0 := (cell_of_row _ _ 0 _ _ _ nX).trans rfl
  have z1 := (cell_of_row _ _ 1 _ _ _ nX).trans rfl
  have z3 := (cell_of_row _ _ 3 _ _ _ nX).trans rfl
  have z4 := (cell_of_row _ _ 4 _ _ _ nX).trans rfl
  have hk0 : (0 : Int) ≤ (k : Int) := by omega
  have hk1 : (k : Int) ≤ 2000 := by omega
  generalize hwX : W.alloc (.cells #[.int .i64 7, .int .i64 a, .int .i64 b, .int .i64 t, .slice ps ls cs] 65) = wX at *
  have c1 := isDayOf7 w0 gm lv day c S a b t (.slice ps ls cs) wX hX
  have hgx : W.heap.size ≠ gm := fun e => by
    obtain ⟨_, _, _, q, _⟩ := h
    have := lt_of_block q
    omega
  have hz := mv_lit
  clear h bX hsv
  generalize (decide (a ≤ day) && decide (day ≤ b)) = q at *
  cases q with
  | true =>
    simp only [if_true]
    go_enter Try.func48, Try.ntmps48
    go_wp2_with (refine wpList_load_row rfl 65 _ rfl _ rfl _ _ _ _ nX insType rfl (by kernel_rfl) ?_)
    refine c1.mono ?_
    rintro e w1 ⟨rfl, b1⟩
    have HN := hidv (hX.below b1)
    clear c1 hX b1 z0 z1 z3 z4 hwX nX
    go_wp2_with fail
    go_ret
    exact ⟨by go_num, HN.out⟩
  | false =>
    simp only [Bool.false_eq_true, if_false]
    go_enter Try.func48, Try.ntmps48
    go_wp2_with (refine wpList_load_row rfl 65 _ rfl _ rfl _ _ _ _ nX insType rfl (by kernel_rfl) ?_)
    refine c1.mono ?_
    rintro e w1 ⟨rfl, b1⟩
    have h1 := hX.below b1
    have nX1 := (b1.block _ (lt_of_block nX)).trans nX
    have c2 := put_any w0 gm lv day c S noM w1 h1 (by omega)
    unfold noM at c2
    clear c1 hX b1 h1 z0 z1 z3 z4 hwX nX
    go_wp2_with fail
    refine c2.mono ?_
    rintro e w2 ⟨rfl, h2, hfr⟩
    have nX2 := hfr _ _ _ nX1 (by decide) hgx
    have z3 := (cell_of_row _ _ 3 _ _ _ nX2).trans rfl
    have HN := hidv h2
    clear c2 h2 hfr nX1 nX2
    go_wp2_with fail
    go_ret
    exact ⟨rfl, HN.out⟩
end Go.Proofs.Ytaeengpppehlfaa

/- The machine runs a rule's code. -/
namespace Go.Proofs.Ytaeengpppehlfaa
open Go.RowKit Msk Vx

theorem mst_cast {w0 : World} {gm : Nat} {lv : Value} {day c c' : Int} {S S' : List M} {W : World} (h : VSt w0 gm lv day S c W) (e1 : S = S') (e2 : c = c') : VSt w0 gm lv day S' c' W := by
  subst e1 e2
  exact h
set_option maxRecDepth 10000 in
set_option maxHeartbeats 1000000 in
theorem step_all {ev : Nat → M × Nat} {x : In} {sv : Value} {s : Vx.St} {B : List M} {c : Int} {W w0 : World} {gm : Nat} {lv : Value} {day : Int} {n r : Nat} (h : VSt w0 gm lv day (B ++ s.S) c W) (hr : RowV W sv x.sp) (hi : insE x s.k n r = 0) (hk : s.k ≤ 2000) (hS : B.length + s.S.length ≤ 900) (htk : tk x ≤ s.S.length)
    (d0 : 0 ≤ day) (d1 : day < 146097)
    (hrun : x.op = 8 → ∀ W, VSt w0 gm lv day (B ++ s.S) c W → Calls Try.prog 20 #[.pointer (some ⟨gm, 0, none⟩), .int .i64 x.a] W fun e W' => e = .returned (.tuple #[]) ∧ VSt w0 gm lv day (B ++ s.S ++ [(ev x.a.toNat).1]) (c + (ev x.a.toNat).2) W') :
    Calls Try.prog 48 #[.pointer (some ⟨gm, 0, none⟩), .agg #[.int .i64 x.op, .int .i64 x.a, .int .i64 x.b, .int .i64 x.to, sv], .int .i64 (s.k : Int)] W fun e W' => e = .returned (.int .i64 ((stepV (wkB9 day) day ev x s).k : Int)) ∧ VSt w0 gm lv day (B ++ (stepV (wkB9 day) day ev x s).S) (c + (((stepV (wkB9 day) day ev x s).n : Int) - (s.n + 1))) W' := by
  have hl : (B ++ s.S).length ≤ 900 := by rw [List.length_append]; exact hS
  rcases ins_kinds hi with ho | ho | ho | ho | ho | ho | ho
  · have e : stepV (wkB9 day) day ev x s = ⟨s.k + 1, s.S ++ [spM x.sp], s.n + 1⟩ := by simp [stepV, ho]
    rw [e, ho]
    refine (step_1 w0 gm lv day c (B ++ s.S) x.a x.b x.to sv x.sp s.k W h hr hk hl).mono ?_
    rintro e' W' ⟨rfl, h'⟩
    exact ⟨rfl, mst_cast h' (by simp) (by simp)⟩
  · have e : stepV (wkB9 day) day ev x s = ⟨s.k + 1, pop2 unM s.S, s.n + 1⟩ := by simp [stepV, ho]
    have h2 : tk x = 2 := by simp [tk, ho]
    obtain ⟨T, f, g, hT⟩ := last2 (S := s.S) (by omega)
    rw [e, ho]
    dsimp only
    rw [hT] at h hl ⊢
    rw [pop2_eq]
    refine (step_2 w0 gm lv day c (B ++ T) f g x.a x.b x.to sv s.k W (mst_cast h (by simp) rfl) hk (by simp at hl ⊢; omega)).mono ?_
    rintro e' W' ⟨rfl, h'⟩
    exact ⟨rfl, mst_cast h' (by simp) (by simp)⟩
  · have e : stepV (wkB9 day) day ev x s = ⟨s.k + 1, pop2 dfM s.S, s.n + 1⟩ := by simp [stepV, ho]
    have h2 : tk x = 2 := by simp [tk, ho]
    obtain ⟨T, f, g, hT⟩ := last2 (S := s.S) (by omega)
    rw [e, ho]
    dsimp only
    rw [hT] at h hl ⊢
    rw [pop2_eq]
    refine (step_3 w0 gm lv day c (B ++ T) f g x.a x.b x.to sv s.k W (mst_cast h (by simp) rfl) hk (by simp at hl ⊢; omega)).mono ?_
    rintro e' W' ⟨rfl, h'⟩
    exact ⟨rfl, mst_cast h' (by simp) (by simp)⟩
  · have e : stepV (wkB9 day) day ev x s = ⟨s.k + 1, pop2 boM s.S, s.n + 1⟩ := by simp [stepV, ho]
    have h2 : tk x = 2 := by simp [tk, ho]
    obtain ⟨T, f, g, hT⟩ := last2 (S := s.S) (by omega)
    rw [e, ho]
    dsimp only
    rw [hT] at h hl ⊢
    rw [pop2_eq]
    refine (step_4 w0 gm lv day c (B ++ T) f g x.a x.b x.to sv s.k W (mst_cast h (by simp) rfl) hk (by simp at hl ⊢; omega)).mono ?_
    rintro e' W' ⟨rfl, h'⟩
    exact ⟨rfl, mst_cast h' (by simp) (by simp)⟩
  · have e : stepV (wkB9 day) day ev x s = ⟨s.k + 1, pop1 (fun f => shM f x.a) s.S, s.n + 1⟩ := by simp [stepV, ho]
    have h2 : tk x = 1 := by simp [tk, ho]
    have hrng : -1439 ≤ x.a ∧ x.a ≤ 1439 := by
      simp only [insE, ho] at hi
      simp only [show ¬ ((5 : Int) = 2 ∨ (5 : Int) = 3 ∨ (5 : Int) = 4) by omega, show ¬ (5 : Int) = 1 by omega, if_false, if_true] at hi
      by_cases hh : x.a ≠ 0 ∧ -1439 ≤ x.a ∧ x.a ≤ 1439
      · exact hh.2
      · rw [if_neg hh] at hi; simp at hi
    obtain ⟨T, g, hT⟩ := last1 (S := s.S) (by omega)
    rw [e, ho]
    dsimp only
    rw [hT] at h hl ⊢
    rw [pop1_eq]
    refine (step_5 w0 gm lv day c (B ++ T) g x.a x.b x.to sv s.k W (mst_cast h (by simp) rfl) hk (by simp at hl ⊢; omega) hrng.1 hrng.2).mono ?_
    rintro e' W' ⟨rfl, h'⟩
    exact ⟨rfl, mst_cast h' (by simp) (by simp)⟩
  · have e : stepV (wkB9 day) day ev x s = ⟨s.k + 1, s.S ++ [(ev x.a.toNat).1], s.n + 1 + (ev x.a.toNat).2⟩ := by simp [stepV, ho]
    rw [e]
    have hr' := hrun ho
    rw [ho]
    refine (step_8 w0 gm lv day c (B ++ s.S) (B ++ s.S ++ [(ev x.a.toNat).1]) (c + (ev x.a.toNat).2) x.a x.b x.to sv s.k W h hk hr').mono ?_
    rintro e' W' ⟨rfl, h'⟩
    exact ⟨rfl, mst_cast h' (by simp) (by push_cast; omega)⟩
  · have hto := ins_to hi ho
    obtain ⟨ps, cs, rfl, _, _⟩ := hr.form
    have e : stepV (wkB9 day) day ev x s = if onD (wkB9 day) day x = true then ⟨s.k + 1, s.S, s.n + 1⟩ else ⟨x.to.toNat, s.S ++ [noM], s.n + 1⟩ := by
      unfold isG at ho
      unfold stepV
      rw [if_neg (by omega), if_neg (by omega), if_neg (by omega), if_neg (by omega), if_neg (by omega), if_neg (by omega)]
    rw [e]
    have hto2 : ((x.to.toNat : Nat) : Int) = x.to := by omega
    rcases ho with ho | ho
    · have e6 : onD (wkB9 day) day x = wkB9 day x.a := by simp [onD, ho]
      rw [ho, e6]
      refine (step_6 w0 gm lv day c (B ++ s.S) x.a x.b x.to ps x.sp.length cs s.k W h hk hl d0 d1).mono ?_
      rintro e' W' ⟨rfl, h'⟩
      cases hq : wkB9 day x.a with
      | true =>
        rw [hq] at h'
        exact ⟨rfl, mst_cast h' rfl (by simp)⟩
      | false =>
        rw [hq] at h'
        exact ⟨congrArg (fun q => Ending.returned (.int .i64 q)) hto2.symm, mst_cast h' (by simp) (by simp)⟩
    · have e7 : onD (wkB9 day) day x = (decide (x.a ≤ day) && decide (day ≤ x.b)) := by
        unfold onD
        rw [if_neg (by omega)]
      rw [ho, e7]
      refine (step_7 w0 gm lv day c (B ++ s.S) x.a x.b x.to ps x.sp.length cs s.k W h hk hl).mono ?_
      rintro e' W' ⟨rfl, h'⟩
      cases hq : (decide (x.a ≤ day) && decide (day ≤ x.b)) with
      | true =>
        rw [hq] at h'
        exact ⟨rfl, mst_cast h' rfl (by simp)⟩
      | false =>
        rw [hq] at h'
        exact ⟨congrArg (fun q => Ending.returned (.int .i64 q)) hto2.symm, mst_cast h' (by simp) (by simp)⟩
/-- A step is counted. -/
theorem VSt.count {w0 W : World} {gm : Nat} {lv : Value} {day k : Int} {S : List M} (h : VSt w0 gm lv day S k W) (k' : Int) : VSt w0 gm lv day S k' (W.setCell ⟨gm, 3, none⟩ (.int .i64 k')) := by
  obtain ⟨h1, h2, sv, h3, h4⟩ := h
  have hne := own_ne h4 h3 (by decide)
  refine ⟨h1.setCell (p := ⟨gm, 3, none⟩) h2 _, h2, sv, heap_setCell_same W gm 3 _ _ _ h3, ?_⟩
  exact h4.kept (row := some gm) ⟨rfl, rfl, rfl, by simp, fun q hq hr => heap_setCell_other W ⟨gm, 3, none⟩ q _ fun e => hr (congrArg some e)⟩ (.inr fun e => hne e.symm)
def RRel (wk : Int → Bool) (day : Int) (ev : Nat → M × Nat) (cs : List Cd) (l : List In) (R : Vx.St) (w0 : World) (gm : Nat) (lv : Value) (B : List M) (c : Int) (t : Value) (wr : World) : Prop := ∃ s : Vx.St, t = .int .i64 (s.k : Int) ∧ SInv cs l s ∧ runV wk day ev l s = R ∧ VSt w0 gm lv day (B ++ s.S) (c + s.n) wr
set_option maxRecDepth 100000 in
set_option maxHeartbeats 4000000 in
theorem run_all (cs : List Cd) (lv : Value) (w0 : World) (gm : Nat) (day : Int) (hR : Right cs) (hin : InV w0 lv cs) (d0 : 0 ≤ day) (d1 : day < 146097) : ∀ (d r : Nat) (B : List M) (c : Int) (W : World), r < cs.length → rk (callE cs) cs.length r < d → VSt w0 gm lv day B c W → (B.length : Int) + (cs.getD r cd0).high ≤ 800 → 0 ≤ c → c + (cs.getD r cd0).steps ≤ 1000000 →
    Calls Try.prog 20 #[.pointer (some ⟨gm, 0, none⟩), .int .i64 (r : Int)] W fun e W' => e = .returned (.tuple #[]) ∧ VSt w0 gm lv day (B ++ [(evV (wkB9 day) day cs d r).1]) (c + (evV (wkB9 day) day cs d r).2) W'
  | 0, _, _, _, _, _, hd, _, _, _, _ => by omega
  | d + 1, r, B, c, W, hr, hd, hM, hB, hc0, hc1 => by
    have ih := run_all cs lv w0 gm day hR hin d0 d1 d
    obtain ⟨u, hu⟩ : ∃ u, cs[r]? = some u := ⟨cs[r], List.getElem?_eq_getElem hr⟩
    rw [cd_at hu] at hB hc1
    have hal := alone_ins (hR.alone r u hu)
    have hfit := hR.fit r u hu
    obtain ⟨hr1, hr2, hr3, hr4, hr5, hr6⟩ := hR.run (wk := wkB9 day) (day := day) (d + 1) r u hu hd
    rw [Nat.add_sub_cancel] at hr3 hr4 hr5 hr6
    have hup : Up (wkB9 day) day (evV (wkB9 day) day cs d) u.ins := up_of hal.2.2
    obtain ⟨p, cp, elv, hlen, hcc⟩ := hin.form
    obtain ⟨sv, hins, g, o, rfl, e0, _, _⟩ := hcc r u hu
    obtain ⟨pu, cu, rfl, hlu, hcu⟩ := hins.form
    have HCU := hidv hcu
    have HIH := hidv ih
    have HAL := hidv hal.2.2
    have HFIT := hidv hfit
    have HUP := hidv hup
    have HRT := hidv hR
    have HU := hidv hu
    have HST : Hid (∀ i, 0 ≤ (cs.getD i cd0).steps) := hR.steps0
    have HEV : Hid (∀ (j : Nat) (x : In), u.ins[j]? = some x → x.op = 8 → ((evV (wkB9 day) day cs d x.a.toNat).2 : Int) ≤ (cs.getD x.a.toNat cd0).steps) := fun j x hx ho => by
      obtain ⟨q1, _, q3⟩ := hR.call hu hx ho
      have hg : cs[x.a.toNat]? = some cs[x.a.toNat] := List.getElem?_eq_getElem q1
      rw [cd_at hg]
      exact (hR.run (wk := wkB9 day) (day := day) d _ _ hg (by omega)).2.1
    have hln : u.ins.length ≤ 2000 := hal.1.2
    have hstp : u.steps ≤ 20000 := hal.2.1.2.2
    have f0 := (hM.bel.cell (block_lt_of_cell e0)).trans e0
    have hi0 : (0 : Int) ≤ (r : Int) := by omega
    have hi1 : (r : Int) < (cs.length : Int) := by omega
    have hul : (0 : Int) ≤ (u.ins.length : Int) := by omega
    have nM : ∃ sv, W.heap[gm]? = some (.cells #[lv, .int .i64 day, sv, .int .i64 c] 56 (0, 0)) := by
      obtain ⟨_, _, s1, q, _⟩ := hM
      exact ⟨s1, q⟩
    obtain ⟨s1, nM⟩ := nM
    rw [elv] at nM
    have zM := (cell_of_row _ _ 0 _ _ _ nM).trans rfl
    have HM := hidv hM
    have HR5 := hidv hr5
    have HR6 := hidv hr6
    clear hal hfit hr1 hr2 hr3 hr4 hr5 hr6 hup hcc hins hcu ih hR hu hM nM hin elv
    go_enter Try.func20, Try.ntmps20
    go_wp2_with fail
    have hM := HM.out
    clear HM zM f0 e0
    go_loopw [5] (fun t wr => RRel (wkB9 day) day (evV (wkB9 day) day cs d) cs u.ins (runV (wkB9 day) day (evV (wkB9 day) day cs d) u.ins ⟨0, [], 0⟩) w0 gm lv B c t wr) (fun t _ => u.ins.length - (intOf t).toNat)
    case atStart => exact ⟨⟨0, [], 0⟩, rfl, SInv.nil, rfl, mst_cast hM (by simp) (by simp)⟩
    case round =>
      obtain ⟨s, rfl, hI, hrv, hMs⟩ := hrel
      clear hM
      have hk0 : (0 : Int) ≤ (s.k : Int) := by omega
      have hsle := hI.le
      have hsst := hI.st
      have hshi := hI.hi
      by_cases hlt : s.k < u.ins.length
      · have hlt' : (s.k : Int) < (u.ins.length : Int) := by omega
        obtain ⟨x, hx⟩ : ∃ x, u.ins[s.k]? = some x := ⟨u.ins[s.k], List.getElem?_eq_getElem hlt⟩
        obtain ⟨sk, hrow, g2, o2, hpe, k0, k1, k2, k3, k4⟩ := HCU.out s.k _ hx
        subst hpe
        have hie := HAL.out _ _ hx
        have hnext := hI.step (wk := wkB9 day) (day := day) (ev := evV (wkB9 day) day cs d) HFIT.out.well hx hie HST.out (HEV.out _ _ hx)
        have hrs := runV_step HUP.out hx
        have hm1 : stS cs u.ins s.k ≤ u.steps := by
          rw [← HFIT.out.steps]
          exact stS_mono HST.out (by omega)
        have hm2 : hAt u.ins s.k ≤ u.high := by
          rw [← HFIT.out.high]
          exact hAt_top (by omega)
        have htk := HFIT.out.well.tk _ _ hx
        have hM2 := hMs.count (c + s.n + 1)
        obtain ⟨_, _, s2, nM2, _⟩ := hMs
        have z3 := (cell_of_row _ _ 3 _ _ _ nM2).trans rfl
        have y3 := frozen_of_row _ _ 3 _ _ nM2
        have q0 := (hM2.bel.cell (block_lt_of_cell k0)).trans k0
        have q1 := (hM2.bel.cell (block_lt_of_cell k1)).trans k1
        have q2 := (hM2.bel.cell (block_lt_of_cell k2)).trans k2
        have q3 := (hM2.bel.cell (block_lt_of_cell k3)).trans k3
        have q4 := (hM2.bel.cell (block_lt_of_cell k4)).trans k4
        have cS := step_all (ev := evV (wkB9 day) day cs d) (x := x) (sv := sk) (s := s) (B := B) (r := cs.length) hM2 (hrow.later hM2.bel) hie (by omega) (by omega) (by omega) d0 d1 (fun ho W' hW' => by
          obtain ⟨v1, v2, v3⟩ := HRT.out.call HU.out hx ho
          have h8 := stS_step (cs := cs) hx
          rw [if_pos ho] at h8
          have h9 : stS cs u.ins (s.k + 1) ≤ u.steps := by
            rw [← HFIT.out.steps]
            exact stS_mono HST.out (by omega)
          have h10 := call_top (cs := cs) hx hlt ho
          rw [HFIT.out.high] at h10
          have := HIH.out x.a.toNat (B ++ s.S) (c + s.n + 1) W' v1 (by omega) hW' (by rw [List.length_append]; push_cast; omega) (by omega) (by omega)
          rw [v2] at this
          exact this)
        have HN : Hid (∀ W', VSt w0 gm lv day (B ++ (stepV (wkB9 day) day (evV (wkB9 day) day cs d) x s).S) (c + s.n + 1 + (((stepV (wkB9 day) day (evV (wkB9 day) day cs d) x s).n : Int) - (s.n + 1))) W' → RRel (wkB9 day) day (evV (wkB9 day) day cs d) cs u.ins (runV (wkB9 day) day (evV (wkB9 day) day cs d) u.ins ⟨0, [], 0⟩) w0 gm lv B c (.int .i64 ((stepV (wkB9 day) day (evV (wkB9 day) day cs d) x s).k : Int)) W') := fun W' hW' => ⟨_, rfl, hnext.1, hrs.symm.trans hrv, mst_cast hW' rfl (by omega)⟩
        have hgt := hnext.2
        have hc2 : c + s.n + 1 ≤ 2000000 := by omega
        have hc3 : 0 ≤ c + s.n := by omega
        obtain ⟨k', hk'⟩ : ∃ q, (stepV (wkB9 day) day (evV (wkB9 day) day cs d) x s).k = q := ⟨_, rfl⟩
        rw [hk'] at cS HN hgt
        generalize (stepV (wkB9 day) day (evV (wkB9 day) day cs d) x s).S = S' at *
        generalize (stepV (wkB9 day) day (evV (wkB9 day) day cs d) x s).n = n' at *
        clear hk' hnext hrs hI hrv hx hie htk hM2 nM2 HIH HRT HAL HFIT HUP HEV HST HU HCU HR5 HR6 hrow
        generalize hwS : wr.setCell ⟨gm, 3, none⟩ (.int .i64 (c + s.n + 1)) = wS at *
        go_wp2_with fail
        refine cS.mono ?_
        rintro e w2 ⟨rfl, h2⟩
        have HN2 := hidv (HN.out _ h2)
        clear cS h2 HN
        go_wp2_with fail
        go_roundw
        case rel => exact HN2.out
        case measure => simp [intOf]; omega
      · have hlt' : ¬ (s.k : Int) < (u.ins.length : Int) := by omega
        have hend := runV_end (wk := wkB9 day) (day := day) (ev := evV (wkB9 day) day cs d) (show s.k = u.ins.length by omega)
        have hs : s = runV (wkB9 day) day (evV (wkB9 day) day cs d) u.ins ⟨0, [], 0⟩ := hend.symm.trans hrv
        have HN : Hid (VSt w0 gm lv day (B ++ [(evV (wkB9 day) day cs (d + 1) r).1]) (c + (evV (wkB9 day) day cs (d + 1) r).2) wr) := by
          show VSt _ _ _ _ _ _ _
          rw [← HR5.out, ← HR6.out, ← hs]
          exact hMs
        clear hMs hs hend hrv hI HIH HRT HAL HFIT HUP HEV HST HU HCU HR5 HR6
        go_wp2_with fail
        exact ⟨rfl, _, results_none rfl _ _ _, rfl, HN.out⟩
end Go.Proofs.Ytaeengpppehlfaa
