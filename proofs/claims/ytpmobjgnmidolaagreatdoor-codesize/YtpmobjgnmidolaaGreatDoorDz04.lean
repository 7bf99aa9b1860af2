/- What masks.Shift comes to. -/
import Derived.Test.YtpmobjgnmidolaaGreatDoorDz03
import Derived.Test.YtpmobjgnmidolaaGreatDoorDz02
import Derived.Below
import Derived.Deep.RegionHeld3
import Derived.Deep.DrawnRows
namespace Go.Proofs.YtpmobjgnmidolaaGreatDoor
open Go.RowKit Msk
def shf (f : Nat → Bool) (x : Int) (t : Nat) : Bool := decide (t < 1440) && (decide (x ≤ (t : Int)) && (decide ((t : Int) - x < 1440) && f ((t : Int) - x).toNat))
theorem shf_none (f : Nat → Bool) (x : Int) (h : x ≤ -1440 ∨ 1440 ≤ x) : (mv fun _ => false) = mv (shf f x) := mv_ext fun t _ => by
  unfold shf
  by_cases h1 : t < 1440
  · by_cases h2 : x ≤ (t : Int)
    · have : ¬ (t : Int) - x < 1440 := by omega
      simp [this]
    · simp [h2]
  · simp [h1]
theorem shf_up (f : Nat → Bool) (b : Nat) : (mv fun t => (decide (b ≤ t) && f (t - b)) && decide (t < 1440)) = mv (shf f (b : Int)) := mv_ext fun t _ => by
  unfold shf
  by_cases h1 : t < 1440
  · by_cases h2 : b ≤ t
    · have e1 : ((t : Int) - (b : Int)).toNat = t - b := by omega
      have e2 : (b : Int) ≤ (t : Int) := by omega
      have e3 : (t : Int) - (b : Int) < 1440 := by omega
      simp [h1, h2, e1, e3]
    · have e2 : ¬ (b : Int) ≤ (t : Int) := by omega
      simp [h2]
  · simp [h1]
theorem shf_down (f : Nat → Bool) (b : Nat) : (mv fun t => decide (t + b < 1472) && (f (t + b) && decide (t + b < 1440))) = mv (shf f (-(b : Int))) := mv_ext fun t _ => by
  unfold shf
  by_cases h1 : t + b < 1440
  · have e1 : ((t : Int) - -(b : Int)).toNat = t + b := by omega
    have e2 : -(b : Int) ≤ (t : Int) := by omega
    have e3 : (t : Int) - -(b : Int) < 1440 := by omega
    have e4 : t + b < 1472 := by omega
    have e5 : t < 1440 := by omega
    rw [e1]
    simp only [h1, e2, e3, e4, e5, decide_true, Bool.true_and, Bool.and_true]
  · have e3 : ¬ (t : Int) - -(b : Int) < 1440 := by omega
    simp only [h1, e3, decide_false, Bool.and_false, Bool.false_and]
set_option maxRecDepth 10000 in
set_option maxHeartbeats 2000000 in
theorem mshift_any (f : Nat → Bool) (x : Int) (w : World) (hx0 : -9223372036854775808 ≤ x) (hx1 : x ≤ 9223372036854775807) :
    Calls Tryz.prog 107 #[.agg (mv f), .int .i64 x] w fun e w' => e = .returned (.agg (mv (shf f x))) ∧ Below w.heap.size w w' := by
  have hz := mv_lit
  have h1 : ((w.alloc (.cells (mv f) 41)).alloc (.cells (mv fun _ => false) 41)).heap[w.heap.size]? = some (.cells (mv f) 41 (0, 0)) := by (repeat (first | refine blk_old _ _ _ (by simp only [size_alloc]; omega) ?_ | exact blk_new _ _ _ (by first | rfl | simp only [size_alloc])))
  have h3 : ((w.alloc (.cells (mv f) 41)).alloc (.cells (mv fun _ => false) 41)).heap[w.heap.size + 1]? = some (.cells (mv fun _ => false) 41 (0, 0)) := by (repeat (first | refine blk_old _ _ _ (by simp only [size_alloc]; omega) ?_ | exact blk_new _ _ _ (by first | rfl | simp only [size_alloc])))
  have hb0 : Below w.heap.size w ((w.alloc (.cells (mv f) 41)).alloc (.cells (mv fun _ => false) 41)) := ((Below.refl _ _).alloc (Nat.le_refl _) _).alloc (by simp) _
  rcases (show (x ≤ -1440) ∨ (1440 ≤ x) ∨ (-1440 < x ∧ x < 0) ∨ (0 ≤ x ∧ x < 1440) from by omega) with h | h | ⟨h, h'⟩ | ⟨h, h'⟩
  · rw [← shf_none f x (.inl h)]
    go_enter Tryz.func107, Tryz.ntmps107
    go_wp2_with (refine wpList_store_row rfl 41 _ _ rfl _ _ rfl rfl _ _ h3 (maskSize _) (by simp [mv_size]) (mv_all _) ?_)
    refine bodyPost_ret (v := .agg (mv fun _ => false)) ?_ rfl ⟨rfl, below_setRow hb0 (by omega) _⟩
    exact results_cell_row rfl _ _ (w.heap.size + 1) _ _ _ _ rfl (setRow_heap _ _ _ _ _ _ h3) maskType rfl (maskSize _)
  · rw [← shf_none f x (.inr h)]
    have hno : ¬ x ≤ -1440 := by omega
    go_enter Tryz.func107, Tryz.ntmps107
    go_wp2_with (refine wpList_store_row rfl 41 _ _ rfl _ _ rfl rfl _ _ h3 (maskSize _) (by simp [mv_size]) (mv_all _) ?_)
    refine bodyPost_ret (v := .agg (mv fun _ => false)) ?_ rfl ⟨rfl, below_setRow hb0 (by omega) _⟩
    exact results_cell_row rfl _ _ (w.heap.size + 1) _ _ _ _ rfl (setRow_heap _ _ _ _ _ _ h3) maskType rfl (maskSize _)
  · obtain ⟨b, hb⟩ : ∃ b : Nat, -x = b := ⟨(-x).toNat, by omega⟩
    have hb2 : b < 1440 := by omega
    have hx : x = -(b : Int) := by omega
    have hshf := shf_down f b
    rw [← hx] at hshf
    rw [← hshf]
    clear hshf hx
    go_enter Tryz.func107, Tryz.ntmps107
    go_wp2_with (first
      | (refine wpList_load_row rfl 41 _ rfl _ rfl _ _ _ _ h1 maskType rfl (maskSize _) ?_)
      | (go_at_call 101; refine (trim_any _ _).mono ?_; rintro e w' ⟨rfl, hb'⟩; have ho' := (hb'.block _ (lt_of_block h3)).trans h3)
      | (go_at_call 120; refine (earlier_any _ _ hb2 _).mono ?_; rintro e w'' ⟨rfl, hb''⟩; have ho'' := (hb''.block _ (lt_of_block ho')).trans ho')
      | (refine wpList_store_row rfl 41 _ _ rfl _ _ rfl rfl _ _ ho'' (maskSize _) (by simp [mv_size]) (mv_all _) ?_))
    refine bodyPost_ret (v := .agg (mv fun t => decide (t + b < 1472) && (f (t + b) && decide (t + b < 1440)))) ?_ rfl ⟨rfl, ?_⟩
    · exact results_cell_row rfl _ _ (w.heap.size + 1) _ _ _ _ rfl (setRow_heap _ _ _ _ _ _ ho'') maskType rfl (maskSize _)
    · have hb1 := hb0.trans (hb'.mono hb0.size)
      exact below_setRow (hb1.trans (hb''.mono hb1.size)) (by omega) _
  · obtain ⟨b, rfl⟩ : ∃ b : Nat, x = b := ⟨x.toNat, by omega⟩
    rw [← shf_up f b]
    have hb2 : b < 1440 := by omega
    go_enter Tryz.func107, Tryz.ntmps107
    go_wp2_with (first
      | (refine wpList_load_row rfl 41 _ rfl _ rfl _ _ _ _ h1 maskType rfl (maskSize _) ?_)
      | (go_at_call 121; refine (later_any _ _ hb2 _).mono ?_; rintro e w' ⟨rfl, hb'⟩; have ho' := (hb'.block _ (lt_of_block h3)).trans h3)
      | (go_at_call 101; refine (trim_any _ _).mono ?_; rintro e w'' ⟨rfl, hb''⟩; have ho'' := (hb''.block _ (lt_of_block ho')).trans ho')
      | (refine wpList_store_row rfl 41 _ _ rfl _ _ rfl rfl _ _ ho'' (maskSize _) (by simp [mv_size]) (mv_all _) ?_))
    refine bodyPost_ret (v := .agg (mv fun t => (decide (b ≤ t) && f (t - b)) && decide (t < 1440))) ?_ rfl ⟨rfl, ?_⟩
    · exact results_cell_row rfl _ _ (w.heap.size + 1) _ _ _ _ rfl (setRow_heap _ _ _ _ _ _ ho'') maskType rfl (maskSize _)
    · have hb1 := hb0.trans (hb'.mono hb0.size)
      exact below_setRow (hb1.trans (hb''.mono hb1.size)) (by omega) _
end Go.Proofs.YtpmobjgnmidolaaGreatDoor

/- Code, plainly: who calls whom; what is wrong with an instruction, with a rule's code, with all. -/
namespace Vx
abbrev Way (E : Nat → Nat → Bool) (i k : Nat) : Prop := Relation.TransGen (fun a b => E a b = true) i k
def wars (E : Nat → Nat → Bool) : Nat → Nat → Nat → Bool
  | 0, i, k => E i k
  | m + 1, i, k => wars E m i k || (wars E m i m && wars E m m k)
theorem wars_mono {E : Nat → Nat → Bool} {m i k : Nat} (h : wars E m i k = true) : ∀ d, wars E (m + d) i k = true
  | 0 => h
  | d + 1 => by
    show wars E ((m + d) + 1) i k = true
    simp only [wars, wars_mono h d, Bool.true_or]
theorem wars_cat {E : Nat → Nat → Bool} {m i j k : Nat} (hj : j < m) (h1 : wars E m i j = true) (h2 : wars E m j k = true) : wars E m i k = true := by
  induction m generalizing i j k with
  | zero => omega
  | succ m ih =>
    by_cases hjm : j = m
    · subst hjm
      simp only [wars, Bool.or_eq_true, Bool.and_eq_true] at h1 h2 ⊢
      have a : wars E j i j = true := by
        rcases h1 with h | ⟨h, _⟩ <;> exact h
      have b : wars E j j k = true := by
        rcases h2 with h | ⟨_, h⟩ <;> exact h
      exact .inr ⟨a, b⟩
    · have hj' : j < m := by omega
      simp only [wars, Bool.or_eq_true, Bool.and_eq_true] at h1 h2 ⊢
      rcases h1 with h1 | ⟨h1, h1'⟩
      · rcases h2 with h2 | ⟨h2, h2'⟩
        · exact .inl (ih hj' h1 h2)
        · exact .inr ⟨ih hj' h1 h2, h2'⟩
      · rcases h2 with h2 | ⟨h2, h2'⟩
        · exact .inr ⟨h1, ih hj' h1' h2⟩
        · exact .inr ⟨h1, h2'⟩
def rk (E : Nat → Nat → Bool) (n i : Nat) : Nat := Msk.cnt (fun k => wars E n i k) n
theorem cnt_mono {f g : Nat → Bool} : ∀ {n : Nat}, (∀ k, k < n → f k = true → g k = true) → Msk.cnt f n ≤ Msk.cnt g n
  | 0, _ => Nat.le_refl _
  | n + 1, h => by
    have ih := cnt_mono (f := f) (g := g) (n := n) (fun k hk => h k (by omega))
    simp only [Msk.cnt]
    have := h n (by omega)
    cases hf : f n with
    | false => cases g n <;> simp <;> omega
    | true => rw [this hf]; simp; omega
theorem cnt_less {f g : Nat → Bool} : ∀ {n s : Nat}, s < n → (∀ k, k < n → f k = true → g k = true) → f s = false → g s = true → Msk.cnt f n < Msk.cnt g n
  | 0, _, hs, _, _, _ => by omega
  | n + 1, s, hs, h, h1, h2 => by
    simp only [Msk.cnt]
    by_cases e : s = n
    · subst e
      have := cnt_mono (f := f) (g := g) (n := s) (fun k hk => h k (by omega))
      rw [h1, h2]; simp; omega
    · have ih := cnt_less (f := f) (g := g) (n := n) (s := s) (by omega) (fun k hk => h k (by omega)) h1 h2
      have := h n (by omega)
      cases hf : f n with
      | false => cases g n <;> simp <;> omega
      | true => rw [this hf]; simp; omega
theorem rk_less {E : Nat → Nat → Bool} {n i s : Nat} (hs : s < n) (hE : E i s = true) (hc : wars E n s s = false) : rk E n s < rk E n i := by
  have h0 : wars E n i s = true := by have := wars_mono (E := E) (m := 0) hE n; simpa using this
  exact cnt_less hs (fun k _ hk => wars_cat hs h0 hk) hc h0
structure In where
  op : Int
  a : Int
  b : Int
  to : Int
  sp : List (Int × Int)
structure Cd where
  ins : List In
  high : Int
  steps : Int
def in0 : In := ⟨0, 0, 0, 0, []⟩
def cd0 : Cd := ⟨[], 0, 0⟩
def risL : List (Int × Int) → Int → Bool
  | [], _ => true
  | s :: l, e => if s.1 ≤ e ∨ s.2 ≤ s.1 ∨ 1440 < s.2 then false else risL l s.2
def insE (x : In) (k n rules : Nat) : Int :=
  if x.op = 2 ∨ x.op = 3 ∨ x.op = 4 then 0
  else if x.op = 1 then (if risL x.sp (-1) = true then 0 else 2)
  else if x.op = 5 then (if x.a ≠ 0 ∧ -1439 ≤ x.a ∧ x.a ≤ 1439 then 0 else 3)
  else if x.op = 6 then (if (k : Int) + 2 ≤ x.to ∧ x.to ≤ n then (if 1 ≤ x.a ∧ x.a ≤ 127 then 0 else 3) else 8)
  else if x.op = 7 then (if (k : Int) + 2 ≤ x.to ∧ x.to ≤ n then (if 0 ≤ x.a ∧ x.a ≤ x.b ∧ x.b < 146097 then 0 else 3) else 8)
  else if x.op = 8 then (if 0 ≤ x.a ∧ x.a < rules then 0 else 6)
  else 1
def insL : List In → Nat → Nat → Nat → Int
  | [], _, _, _ => 0
  | x :: l, k, n, r => if insE x k n r ≠ 0 then insE x k n r else insL l (k + 1) n r
theorem insL_ok {n r : Nat} : ∀ {l : List In} {k : Nat}, insL l k n r = 0 → ∀ j x, l[j]? = some x → insE x (k + j) n r = 0
  | [], _, _, j, x, hj => by simp at hj
  | y :: l, k, h, j, x, hj => by
    by_cases hy : insE y k n r = 0
    · have h' : insL l (k + 1) n r = 0 := by simpa [insL, hy] using h
      cases j with
      | zero => simp at hj; subst hj; simpa using hy
      | succ j =>
        have := insL_ok h' j x (by simpa using hj)
        rw [show k + (j + 1) = k + 1 + j by omega]; exact this
    · exfalso
      simp [insL, hy] at h
def aloneE (c : Cd) (rules : Nat) : Int :=
  if ¬ (1 ≤ c.ins.length ∧ c.ins.length ≤ 2000) then 5
  else if ¬ ((1 ≤ c.high ∧ c.high ≤ 100) ∧ (1 ≤ c.steps ∧ c.steps ≤ 20000)) then 4
  else insL c.ins 0 c.ins.length rules
def eff (x : In) : Int := if x.op = 1 ∨ x.op = 8 then 1 else if x.op = 2 ∨ x.op = 3 ∨ x.op = 4 then -1 else 0
def tk (x : In) : Int := if x.op = 5 then 1 else if x.op = 2 ∨ x.op = 3 ∨ x.op = 4 then 2 else 0
def isG (x : In) : Prop := x.op = 6 ∨ x.op = 7
def hAt (l : List In) : Nat → Int
  | 0 => 0
  | j + 1 => hAt l j + eff (l.getD j in0)
def mxH (cs : List Cd) (l : List In) : Nat → Int
  | 0 => 0
  | j + 1 => max (if (l.getD j in0).op = 8 then max (mxH cs l j) (hAt l j + (cs.getD (l.getD j in0).a.toNat cd0).high) else mxH cs l j) (hAt l (j + 1))
def stS (cs : List Cd) (l : List In) : Nat → Int
  | 0 => 0
  | j + 1 => stS cs l j + 1 + (if (l.getD j in0).op = 8 then (cs.getD (l.getD j in0).a.toNat cd0).steps else 0)
theorem getD_of {l : List In} {j : Nat} {x : In} (h : l[j]? = some x) : l.getD j in0 = x := by simp [List.getD, h]
theorem hAt_step {l : List In} {j : Nat} {x : In} (h : l[j]? = some x) : hAt l (j + 1) = hAt l j + eff x := by rw [hAt, getD_of h]
theorem mxH_step {cs : List Cd} {l : List In} {j : Nat} {x : In} (h : l[j]? = some x) : mxH cs l (j + 1) = max (if x.op = 8 then max (mxH cs l j) (hAt l j + (cs.getD x.a.toNat cd0).high) else mxH cs l j) (hAt l (j + 1)) := by rw [mxH, getD_of h]
theorem stS_step {cs : List Cd} {l : List In} {j : Nat} {x : In} (h : l[j]? = some x) : stS cs l (j + 1) = stS cs l j + 1 + (if x.op = 8 then (cs.getD x.a.toNat cd0).steps else 0) := by rw [stS, getD_of h]
theorem hAt_mx (cs : List Cd) (l : List In) : ∀ j, hAt l j ≤ mxH cs l j
  | 0 => Int.le_refl _
  | j + 1 => by
    simp only [mxH]
    omega
structure WellV (l : List In) : Prop where
  tk : ∀ j x, l[j]? = some x → tk x ≤ hAt l j
  to : ∀ j x, l[j]? = some x → isG x → hAt l x.to.toNat = hAt l j + 1
  fin : hAt l l.length = 1
structure FitV (cs : List Cd) (c : Cd) : Prop where
  well : WellV c.ins
  high : mxH cs c.ins c.ins.length = c.high
  steps : stS cs c.ins c.ins.length = c.steps
def callE (cs : List Cd) (i k : Nat) : Bool := (cs.getD i cd0).ins.any fun x => decide (x.op = 8) && decide (x.a = (k : Int))
structure Right (cs : List Cd) : Prop where
  len : cs.length ≤ 40
  alone : ∀ (i : Nat) (c : Cd), cs[i]? = some c → aloneE c cs.length = 0
  cyc : ∀ i, i < cs.length → wars (callE cs) cs.length i i = false
  fit : ∀ (i : Nat) (c : Cd), cs[i]? = some c → FitV cs c
theorem cd_at {cs : List Cd} {i : Nat} {c : Cd} (h : cs[i]? = some c) : cs.getD i cd0 = c := by simp [List.getD, h]
theorem alone_ins {c : Cd} {r : Nat} (h : aloneE c r = 0) : (1 ≤ c.ins.length ∧ c.ins.length ≤ 2000) ∧ ((1 ≤ c.high ∧ c.high ≤ 100) ∧ (1 ≤ c.steps ∧ c.steps ≤ 20000)) ∧ ∀ j x, c.ins[j]? = some x → insE x j c.ins.length r = 0 := by
  unfold aloneE at h
  by_cases h1 : 1 ≤ c.ins.length ∧ c.ins.length ≤ 2000
  · rw [if_neg (fun e => e h1)] at h
    by_cases h2 : (1 ≤ c.high ∧ c.high ≤ 100) ∧ (1 ≤ c.steps ∧ c.steps ≤ 20000)
    · rw [if_neg (fun e => e h2)] at h
      refine ⟨h1, h2, fun j x hj => ?_⟩
      have := insL_ok h j x hj
      simpa using this
    · rw [if_pos h2] at h; simp at h
  · rw [if_pos h1] at h; simp at h
theorem ins_call {x : In} {k n r : Nat} (h : insE x k n r = 0) (ho : x.op = 8) : 0 ≤ x.a ∧ x.a < r := by
  simp only [insE, ho] at h
  simp only [show ¬ ((8 : Int) = 2 ∨ (8 : Int) = 3 ∨ (8 : Int) = 4) by omega, show ¬ (8 : Int) = 1 by omega, show ¬ (8 : Int) = 5 by omega, show ¬ (8 : Int) = 6 by omega, show ¬ (8 : Int) = 7 by omega, if_false, if_true] at h
  by_cases hh : 0 ≤ x.a ∧ x.a < r
  · exact hh
  · rw [if_neg hh] at h; simp at h
theorem ins_to {x : In} {k n r : Nat} (h : insE x k n r = 0) (ho : isG x) : (k : Int) + 2 ≤ x.to ∧ x.to ≤ n := by
  rcases ho with ho | ho
  · simp only [insE, ho] at h
    simp only [show ¬ ((6 : Int) = 2 ∨ (6 : Int) = 3 ∨ (6 : Int) = 4) by omega, show ¬ (6 : Int) = 1 by omega, show ¬ (6 : Int) = 5 by omega, if_false, if_true] at h
    by_cases hh : (k : Int) + 2 ≤ x.to ∧ x.to ≤ n
    · exact hh
    · rw [if_neg hh] at h; simp at h
  · simp only [insE, ho] at h
    simp only [show ¬ ((7 : Int) = 2 ∨ (7 : Int) = 3 ∨ (7 : Int) = 4) by omega, show ¬ (7 : Int) = 1 by omega, show ¬ (7 : Int) = 5 by omega, show ¬ (7 : Int) = 6 by omega, if_false, if_true] at h
    by_cases hh : (k : Int) + 2 ≤ x.to ∧ x.to ≤ n
    · exact hh
    · rw [if_neg hh] at h; simp at h
end Vx

/-
  Plain facts about the spans of a mask, that speak of no program: minute by minute, and span by span.
-/
namespace Msk
def rs (f : Nat → Bool) : Nat → List (Int × Int)
  | 0 => []
  | n + 1 => if f n then (if n ≠ 0 ∧ f (n - 1) = true then (rs f n).dropLast ++ [(((rs f n).getLastD (0, 0)).1, (n : Int) + 1)] else rs f n ++ [((n : Int), (n : Int) + 1)]) else rs f n
theorem rs_skip (f : Nat → Bool) (n : Nat) : ∀ k, (∀ i, n ≤ i → i < n + k → f i = false) → rs f (n + k) = rs f n
  | 0, _ => rfl
  | k + 1, h => by
    have ih := rs_skip f n k fun i a b => h i a (by omega)
    have e : f (n + k) = false := h _ (by omega) (by omega)
    rw [← Nat.add_assoc, rs, ih, e]; simp
theorem rs_run (f : Nat → Bool) (a : Nat) (h0 : a = 0 ∨ f (a - 1) = false) : ∀ k, (∀ i, a ≤ i → i < a + (k + 1) → f i = true) → rs f (a + (k + 1)) = rs f a ++ [((a : Int), ((a + (k + 1) : Nat) : Int))]
  | 0, h => by
    have e : f a = true := h a (by omega) (by omega)
    rw [Nat.zero_add, rs, e]
    have : ¬ (a ≠ 0 ∧ f (a - 1) = true) := by
      rintro ⟨h1, h2⟩
      rcases h0 with h0 | h0
      · exact h1 h0
      · rw [h0] at h2; cases h2
    rw [if_pos rfl, if_neg this]
    simp
  | k + 1, h => by
    have ih := rs_run f a h0 k fun i x y => h i x (by omega)
    have e : f (a + (k + 1)) = true := h _ (by omega) (by omega)
    have e2 : f (a + (k + 1) - 1) = true := h _ (by omega) (by omega)
    rw [← Nat.add_assoc a (k + 1) 1, rs, ih, e, if_pos rfl, if_pos ⟨by omega, e2⟩]
    simp
theorem rs_next (f : Nat → Bool) (p a b : Nat) (h1 : p ≤ a) (h2 : a < b) (hp : p = 0 ∨ f p = false) (hno : ∀ i, p ≤ i → i < a → f i = false) (hyes : ∀ i, a ≤ i → i < b → f i = true) :
    rs f b = rs f p ++ [((a : Int), (b : Int))] := by
  have e1 : rs f a = rs f p := by
    have := rs_skip f p (a - p) fun i x y => hno i x (by omega)
    rw [Nat.add_sub_cancel' h1] at this; exact this
  have h0 : a = 0 ∨ f (a - 1) = false := by
    by_cases ha : a = 0
    · exact .inl ha
    · right
      by_cases hpa : p = a
      · subst hpa
        rcases hp with hp | hp
        · exact absurd hp ha
        · have := hyes p (by omega) h2; rw [hp] at this; cases this
      · exact hno _ (by omega) (by omega)
  obtain ⟨k, rfl⟩ : ∃ k, b = a + (k + 1) := ⟨b - a - 1, by omega⟩
  rw [rs_run f a h0 k hyes, e1]
theorem rs_end (f : Nat → Bool) (p n : Nat) (h : p ≤ n) (hno : ∀ i, p ≤ i → i < n → f i = false) : rs f n = rs f p := by
  have := rs_skip f p (n - p) fun i x y => hno i x (by omega)
  rw [Nat.add_sub_cancel' h] at this; exact this
def good (last : Int) (n : Int) : List (Int × Int) → Prop
  | [] => True
  | s :: l => last < s.1 ∧ s.1 < s.2 ∧ s.2 ≤ n ∧ good s.2 n l
def endOf (last : Int) : List (Int × Int) → Int
  | [] => last
  | s :: l => endOf s.2 l
theorem good_snoc (n a b : Int) (hb : b ≤ n) (hab : a < b) : ∀ (l : List (Int × Int)) (last : Int), good last n l → endOf last l < a → good last n (l ++ [(a, b)])
  | [], _, _, h => ⟨h, hab, hb, trivial⟩
  | s :: l, _, ⟨h1, h2, h3, h4⟩, h => ⟨h1, h2, h3, good_snoc n a b hb hab l s.2 h4 h⟩
theorem endOf_snoc (a b : Int) : ∀ (l : List (Int × Int)) (last : Int), endOf last (l ++ [(a, b)]) = b
  | [], _ => rfl
  | _ :: l, _ => endOf_snoc a b l _
theorem good_mono (n m : Int) (h : n ≤ m) : ∀ (l : List (Int × Int)) (last : Int), good last n l → good last m l
  | [], _, _ => trivial
  | _ :: l, _, ⟨h1, h2, h3, h4⟩ => ⟨h1, h2, Int.le_trans h3 h, good_mono n m h l _ h4⟩
def len : List (Int × Int) → Int
  | [] => 0
  | s :: l => (s.2 - s.1) + len l
theorem len_snoc (a b : Int) : ∀ l : List (Int × Int), len (l ++ [(a, b)]) = len l + (b - a)
  | [] => by simp [len]
  | s :: l => by have := len_snoc a b l; simp only [List.cons_append, len, this]; omega
structure Runs (f : Nat → Bool) (n : Nat) (l : List (Int × Int)) : Prop where
  good : good (-1) n l
  last : endOf (-1) l ≤ n
  many : len l = Msk.cnt f n
  has : ∀ i, i < n → (l.any fun s => decide (s.1 ≤ (i : Int)) && decide ((i : Int) < s.2)) = f i
  few : l.length ≤ n
theorem Runs.zero (f : Nat → Bool) : Runs f 0 [] := ⟨trivial, by simp [endOf], by simp [len, Msk.cnt], fun i hi => by omega, by simp⟩
theorem Runs.skip {f : Nat → Bool} {n : Nat} {l : List (Int × Int)} (h : Runs f n l) (m : Nat) (hm : n ≤ m) (hno : ∀ i, n ≤ i → i < m → f i = false) : Runs f m l := by
  refine ⟨good_mono _ _ (by omega) _ _ h.good, by have := h.last; omega, ?_, ?_, by have := h.few; omega⟩
  · have e : m = n + (m - n) := by omega
    rw [h.many, e, cnt_add, cnt_false (f := fun j => f (n + j)) fun j hj => hno _ (by omega) (by omega)]
    rfl
  · intro i hi
    by_cases hin : i < n
    · exact h.has i hin
    · rw [hno i (by omega) hi]
      have hg := h.good
      have key : ∀ (l : List (Int × Int)) (last : Int), Msk.good last n l → (l.any fun s => decide (s.1 ≤ (i : Int)) && decide ((i : Int) < s.2)) = false := by
        intro l
        induction l with
        | nil => intro _ _; rfl
        | cons s l ih =>
          intro last hl
          obtain ⟨h1, h2, h3, h4⟩ := hl
          have : ¬ (i : Int) < s.2 := by omega
          simp [ih _ h4, this]
      exact key l _ hg
theorem Runs.run {f : Nat → Bool} {a : Nat} {l : List (Int × Int)} (h : Runs f a l) (ha : endOf (-1) l < a) (b : Nat) (hab : a < b) (hyes : ∀ i, a ≤ i → i < b → f i = true) : Runs f b (l ++ [((a : Int), (b : Int))]) := by
  refine ⟨good_snoc _ _ _ (by omega) (by omega) _ _ (good_mono _ _ (by omega) _ _ h.good) ha, by rw [endOf_snoc]; omega, ?_, ?_, ?_⟩
  · have e : b = a + (b - a) := by omega
    have q : cnt f b = cnt f a + (b - a) := by
      rw [e, cnt_add, cnt_true (f := fun j => f (a + j)) fun j hj => hyes _ (by omega) (by omega)]
      omega
    rw [len_snoc, h.many, q]
    omega
  · intro i hi
    rw [List.any_append]
    by_cases hia : i < a
    · rw [h.has i hia]
      have : ¬ (a : Int) ≤ (i : Int) := by omega
      simp [this]
    · have h1 : (a : Int) ≤ (i : Int) := by omega
      have h2 : (i : Int) < (b : Int) := by omega
      rw [hyes i (by omega) hi]
      simp [h1, h2]
  · have := h.few
    simp only [List.length_append, List.length_cons, List.length_nil]
    omega
structure Seen (f : Nat → Bool) (p : Nat) (l : List (Int × Int)) : Prop where
  runs : Runs f p l
  same : l = rs f p
  gap : (p = 0 ∧ l = []) ∨ f p = false ∨ p = 1440
theorem Seen.zero (f : Nat → Bool) : Seen f 0 [] := ⟨Runs.zero f, rfl, .inl ⟨rfl, rfl⟩⟩
theorem Seen.next {f : Nat → Bool} {p : Nat} {l : List (Int × Int)} (h : Seen f p l) (a b : Nat) (h1 : p ≤ a) (h2 : a < b) (h3 : b ≤ 1440) (hno : ∀ i, p ≤ i → i < a → f i = false)
    (hyes : ∀ i, a ≤ i → i < b → f i = true) (hb : b < 1440 → f b = false) : Seen f b (l ++ [((a : Int), (b : Int))]) := by
  have hp0 : p = 0 ∨ f p = false := by
    rcases h.gap with ⟨g, _⟩ | g | g
    · exact .inl g
    · exact .inr g
    · omega
  refine ⟨(h.runs.skip a h1 hno).run ?_ b h2 hyes, by rw [h.same, rs_next f p a b h1 h2 hp0 hno hyes], ?_⟩
  · have hl := h.runs.last
    rcases h.gap with ⟨_, g⟩ | g | g
    · subst g; simp [endOf]; omega
    · have : a ≠ p := fun e => by
        have := hyes a (Nat.le_refl _) h2
        rw [e, g] at this; cases this
      omega
    · omega
  · by_cases h : b = 1440
    · exact .inr (.inr h)
    · exact .inr (.inl (hb (by omega)))
theorem Seen.all {f : Nat → Bool} {p : Nat} {l : List (Int × Int)} (h : Seen f p l) (hp : p ≤ 1440) (hno : ∀ i, p ≤ i → i < 1440 → f i = false) : l = rs f 1440 ∧ Runs f 1440 l :=
  ⟨by rw [h.same, rs_end f p 1440 hp hno], h.runs.skip 1440 hp hno⟩
end Msk

/- The spans of any mask are as they must be. -/
namespace Msk
theorem run_begin (f : Nat → Bool) : ∀ m, f m = true → ∃ a, a ≤ m ∧ (a = 0 ∨ f (a - 1) = false) ∧ ∀ i, a ≤ i → i ≤ m → f i = true
  | 0, h => ⟨0, Nat.le_refl _, .inl rfl, fun i _ hi => by rw [show i = 0 by omega]; exact h⟩
  | m + 1, h => by
    cases hm : f m with
    | false => exact ⟨m + 1, Nat.le_refl _, .inr hm, fun i h1 h2 => by rw [show i = m + 1 by omega]; exact h⟩
    | true =>
      obtain ⟨a, h1, h2, h3⟩ := run_begin f m hm
      refine ⟨a, by omega, h2, fun i hi hi' => ?_⟩
      by_cases e : i = m + 1
      · rw [e]; exact h
      · exact h3 i hi (by omega)
theorem runs_all (f : Nat → Bool) : ∀ n, Runs f n (rs f n) ∧ ((n = 0 ∨ f (n - 1) = false) → endOf (-1) (rs f n) < n) := by
  intro n
  induction n using Nat.strongRecOn with
  | ind n ih =>
    match n, ih with
    | 0, _ => exact ⟨Runs.zero f, fun _ => by show (-1 : Int) < 0; omega⟩
    | m + 1, ih =>
      cases hm : f m with
      | false =>
        have e : rs f (m + 1) = rs f m := by rw [rs, hm]; rfl
        have h := (ih m (by omega)).1
        rw [e]
        refine ⟨h.skip (m + 1) (by omega) fun i h1 h2 => by rw [show i = m by omega]; exact hm, fun _ => ?_⟩
        have := h.last
        omega
      | true =>
        obtain ⟨a, h1, h2, h3⟩ := run_begin f m hm
        obtain ⟨r1, r2⟩ := ih a (by omega)
        have e := rs_run f a h2 (m - a) (fun i q1 q2 => h3 i q1 (by omega))
        rw [show a + (m - a + 1) = m + 1 by omega] at e
        rw [e]
        refine ⟨r1.run (r2 h2) (m + 1) (by omega) (fun i q1 q2 => h3 i q1 (by omega)), fun h => ?_⟩
        rcases h with h | h
        · omega
        · rw [show m + 1 - 1 = m by omega, hm] at h
          cases h
theorem runs_of (f : Nat → Bool) (n : Nat) : Runs f n (rs f n) := (runs_all f n).1
end Msk

/- Regions that draw their order and yield values that are known beforehand: the frame behind them is written out. It speaks of no program. -/
namespace Go.Proofs.YtpmobjgnmidolaaGreatDoor
open Go Go.RowKit
def putAll (ds : List (Nat × Value)) (a : Act) : Act := ds.foldl (fun a p => a.put (some p.1) p.2) a
theorem putAll_nil (a : Act) : putAll [] a = a := rfl
theorem putAll_cons (p : Nat × Value) (ds : List (Nat × Value)) (a : Act) : putAll (p :: ds) a = putAll ds (a.put (some p.1) p.2) := rfl
theorem putAll_defers : ∀ (ds : List (Nat × Value)) (a : Act), (putAll ds a).defers = a.defers
  | [], _ => rfl
  | p :: ds, a => (putAll_defers ds (a.put (some p.1) p.2)).trans rfl
theorem putAll_size : ∀ (ds : List (Nat × Value)) (a : Act), (putAll ds a).tmps.size = a.tmps.size
  | [], _ => rfl
  | p :: ds, a => (putAll_size ds (a.put (some p.1) p.2)).trans (by simp [Act.put])
theorem putAll_other : ∀ (ds : List (Nat × Value)) (a : Act) (s : Nat), (∀ p ∈ ds, p.1 ≠ s) → (putAll ds a).tmps.getD s undef = a.tmps.getD s undef
  | [], _, _, _ => rfl
  | p :: ds, a, s, h => by
    rw [putAll_cons, putAll_other ds _ s (fun q hq => h q (List.mem_cons_of_mem _ hq))]
    exact getD_set_other _ _ _ _ (h p List.mem_cons_self)
theorem putAll_same : ∀ (ds : List (Nat × Value)) (a : Act) (j s : Nat) (v : Value), (ds.map (fun p => some p.1)).Nodup → s < a.tmps.size → ds[j]? = some (s, v) → (putAll ds a).tmps.getD s undef = v
  | [], _, _, _, _, _, _, h => by simp at h
  | p :: ds, a, 0, s, v, hn, hs, h => by
    simp at h
    subst h
    rw [putAll_cons, putAll_other ds _ s ?_]
    · exact getD_set_same _ _ _ hs
    · intro q hq e
      rw [List.map_cons, List.nodup_cons] at hn
      exact hn.1 (List.mem_map.2 ⟨q, hq, by rw [e]⟩)
  | p :: ds, a, j + 1, s, v, hn, hs, h => by
    rw [putAll_cons]
    rw [List.map_cons, List.nodup_cons] at hn
    exact putAll_same ds _ j s v hn.2 (by simpa [Act.put] using hs) (by simpa using h)
theorem act_is {A a0 : Act} (ds : List (Nat × Value)) (hd : A.defers = a0.defers) (hs : A.tmps.size = a0.tmps.size) (hn : (ds.map (fun p => some p.1)).Nodup)
    (hk : ∀ s, (∀ p ∈ ds, p.1 ≠ s) → A.tmps.getD s undef = a0.tmps.getD s undef) (hh : ∀ (j s : Nat) (v : Value), ds[j]? = some (s, v) → A.tmps.getD s undef = v) : A = putAll ds a0 := by
  have e1 := putAll_defers ds a0
  have e2 := putAll_size ds a0
  have e3 : ∀ s, s < a0.tmps.size → A.tmps.getD s undef = (putAll ds a0).tmps.getD s undef := by
    intro s hs'
    by_cases h : ∃ p ∈ ds, p.1 = s
    · obtain ⟨p, hp, rfl⟩ := h
      obtain ⟨j, hj⟩ := List.getElem?_of_mem hp
      rw [hh j _ _ hj, putAll_same ds a0 j _ _ hn hs' hj]
    · have h' : ∀ p ∈ ds, p.1 ≠ s := fun p hp e => h ⟨p, hp, e⟩
      rw [hk s h', putAll_other ds a0 s h']
  generalize putAll ds a0 = F at *
  obtain ⟨t, d⟩ := A
  obtain ⟨t', d'⟩ := F
  dsimp only at *
  have : t = t' := by
    apply Array.ext
    · omega
    · intro i h1 h2
      have := e3 i (by omega)
      simpa [Array.getD, h1, h2] using this
  rw [this, hd, e1]
section
variable {P : Program} {ops : Array Oper} {Q : Exit → Act → World → Prop} {id : Nat} {a0 : Act} {w : World}
def StepV (P : Program) (ops : Array Oper) (Q : Exit → Act → World → Prop) (ds : List (Nat × Value)) (a0 : Act) (w : World) : Prop :=
  ∀ (i s : Nat) (v : Value) (o : Oper) (L : Nat → Bool) (A : Act) (W : World), ops[i]? = some o → ds[i]? = some (s, v) → (∀ e ∈ o.after, Region.binds .any e = true → L e.on = true) → Below w.heap.size w W →
    (∀ s, notDst ops s = true → A.tmps.getD s undef = a0.tmps.getD s undef) → (∀ (j s : Nat) (u : Value), ds[j]? = some (s, u) → L j = true → A.tmps.getD s undef = u) → wpOp P ops Q i (fun a' W' => a' = A.put (some s) v ∧ Below W.heap.size W W') A W
theorem dst_at {k : Nat} {ds : List (Nat × Value)} (hds : (ops.toList.take k).map (fun o => o.dst) = ds.map (fun p => some p.1)) {i s : Nat} {v : Value} {o : Oper} (ho : ops[i]? = some o) (h : ds[i]? = some (s, v)) : o.dst = some s := by
  have h1 : (ds.map (fun p => some p.1))[i]? = some (some s) := by rw [List.getElem?_map, h]; rfl
  rw [← hds, List.getElem?_map] at h1
  have h2 : (ops.toList.take k)[i]? = some o ∨ (ops.toList.take k)[i]? = none := by
    rw [List.getElem?_take]
    split
    · left; simpa using ho
    · right; rfl
  rcases h2 with h2 | h2
  · rw [h2] at h1; simpa using h1
  · rw [h2] at h1; simp at h1
theorem at_dst {k : Nat} {ds : List (Nat × Value)} (hds : (ops.toList.take k).map (fun o => o.dst) = ds.map (fun p => some p.1)) {i : Nat} {o : Oper} (hi : i < k) (ho : ops[i]? = some o) : ∃ s v, ds[i]? = some (s, v) := by
  have h1 : (ops.toList.take k)[i]? = some o := by rw [List.getElem?_take, if_pos hi]; simpa using ho
  have h2 : ((ops.toList.take k).map (fun o => o.dst))[i]? = some o.dst := by rw [List.getElem?_map, h1]; rfl
  rw [hds, List.getElem?_map] at h2
  cases h3 : ds[i]? with
  | none => rw [h3] at h2; simp at h2
  | some p => exact ⟨p.1, p.2, rfl⟩
theorem wp_region_vals (hm : P.follows .mixedOrders = true) (hback : backB ops = true) (hdst : dstB ops = true) (hin : inB ops a0.tmps.size = true) (ds : List (Nat × Value))
    (hds : (ops.toList.take ops.size).map (fun o => o.dst) = ds.map (fun p => some p.1)) (hnd : decide (((ops.toList.take ops.size).map (fun o => o.dst)).Nodup) = true)
    (hstep : StepV P ops Q ds a0 w) (hend : ∀ W, Below w.heap.size w W → Q .normal (putAll ds a0) W) : (Code.region id ops true).wp P Q a0 w := by
  have hnd' : (ds.map (fun p => some p.1)).Nodup := by rw [← hds]; exact of_decide_eq_true hnd
  refine wp_region_flow hm hback hdst hin (fun _ _ W => Below w.heap.size w W) (fun j x _ => ∀ s v, ds[j]? = some (s, v) → x = v) ?_ ?_ ?_
  · intro L _
    exact (Below.refl _ _).drew
  · intro i o L A W ho hLi hdep hJ hdef hkept hhas
    have hi : i < ops.size := (Array.getElem?_eq_some_iff.1 ho).1
    obtain ⟨s, v, hv⟩ := at_dst hds hi ho
    have hd := dst_at hds ho hv
    refine wpOp_mono ?_ (hstep i s v o L A W ho hv hdep hJ (fun s' h => hkept s' fun j p hp _ => nd h j p hp) (fun j s' u hj hL => ?_))
    · rintro a' W' ⟨rfl, hb⟩
      exact ⟨v, by rw [hd], fun _ s' v' h => by rw [hv] at h; cases h; rfl, fun _ _ _ h => h, hJ.trans (hb.mono hJ.size)⟩
    · have hj' : j < ds.length := (List.getElem?_eq_some_iff.1 hj).1
      have hl : ds.length = ops.size := by have := congrArg List.length hds; simpa using this.symm
      obtain ⟨p, hp⟩ : ∃ p, ops[j]? = some p := ⟨ops[j]'(by omega), Array.getElem?_eq_getElem _⟩
      exact hhas j p hp hL s' (dst_at hds hp hj) s' u hj
  · intro L A W hL hJ hdef hsize hkept hhas
    have : A = putAll ds a0 := act_is ds hdef hsize hnd' (fun s h => hkept s fun j p hp e => ?_) (fun j s v hj => ?_)
    · rw [this]; exact hend W hJ
    · have hi : j < ops.size := (Array.getElem?_eq_some_iff.1 hp).1
      obtain ⟨s', v, hv⟩ := at_dst hds hi hp
      have := (dst_at hds hp hv).symm.trans e
      cases this
      exact h _ (List.mem_of_getElem? hv) rfl
    · have hj' : j < ds.length := (List.getElem?_eq_some_iff.1 hj).1
      have hl : ds.length = ops.size := by have := congrArg List.length hds; simpa using this.symm
      obtain ⟨p, hp⟩ : ∃ p, ops[j]? = some p := ⟨ops[j]'(by omega), Array.getElem?_eq_getElem _⟩
      exact hhas j p hp s (dst_at hds hp hj) s v hj
def useB (ops : Array Oper) : Bool := (List.range (ops.size - 1)).all fun i => (List.range ops.size).any fun j => decide (i < j) && match ops[j]? with | none => false | some o => o.after.any fun e => Region.binds .any e && decide (e.on = i)
theorem use_all (hu : useB ops = true) {n : Nat} (hn : ops.size = n + 1) {L : Nat → Bool} (hc : ∀ (j : Nat) (p : Oper), ops[j]? = some p → L j = true → ∀ e ∈ p.after, Region.binds .any e = true → L e.on = true) (hL : L n = true) : ∀ k i, n - i ≤ k → i ≤ n → L i = true
  | 0, i, hk, hi => by rw [show i = n by omega]; exact hL
  | k + 1, i, hk, hi => by
    by_cases e : i = n
    · rw [e]; exact hL
    have h1 := List.all_eq_true.1 hu i (by simp; omega)
    obtain ⟨j, hj, h2⟩ := List.any_eq_true.1 h1
    simp at hj
    simp only [Bool.and_eq_true, decide_eq_true_eq] at h2
    obtain ⟨hij, h3⟩ := h2
    cases ho : ops[j]? with
    | none => rw [ho] at h3; cases h3
    | some o =>
      rw [ho] at h3
      obtain ⟨e', he, h4⟩ := Array.any_eq_true'.1 h3
      simp only [Bool.and_eq_true, decide_eq_true_eq] at h4
      have := hc j o ho (use_all hu hn hc hL k j (by omega) (by omega)) e' he h4.1
      rw [h4.2] at this
      exact this
theorem wp_region_last (hm : P.follows .mixedOrders = true) (hback : backB ops = true) (hdst : dstB ops = true) (hin : inB ops a0.tmps.size = true) (n : Nat) (hn : ops.size = n + 1) (huse : useB ops = true) (ds : List (Nat × Value))
    (hds : (ops.toList.take n).map (fun o => o.dst) = ds.map (fun p => some p.1)) (hnd : decide (((ops.toList.take n).map (fun o => o.dst)).Nodup) = true)
    (hstep : StepV P ops Q ds a0 w) (hlast : ∀ (o : Oper) (W : World), ops[n]? = some o → Below w.heap.size w W → wpOp P ops Q n (fun a' W' => (∃ v, a' = (putAll ds a0).put o.dst v) ∧ Q .normal a' W') (putAll ds a0) W) : (Code.region id ops true).wp P Q a0 w := by
  have hnd' : (ds.map (fun p => some p.1)).Nodup := by rw [← hds]; exact of_decide_eq_true hnd
  have hl : ds.length = n := by
    have h := congrArg List.length hds
    simp only [List.length_map, List.length_take, Array.length_toList] at h
    omega
  refine wp_region_flow hm hback hdst hin (fun L A W => (∀ (j : Nat) (p : Oper), ops[j]? = some p → L j = true → ∀ e ∈ p.after, Region.binds .any e = true → L e.on = true) ∧ (L n = false → Below w.heap.size w W ∧ A.tmps.size = a0.tmps.size) ∧ (L n = true → Q .normal A W)) (fun j x _ => ∀ s v, ds[j]? = some (s, v) → x = v) ?_ ?_ ?_
  · intro L h
    refine ⟨fun j p hp hj => ?_, fun _ => ⟨(Below.refl _ _).drew, rfl⟩, fun h' => ?_⟩
    · have := h j (Array.getElem?_eq_some_iff.1 hp).1
      rw [this] at hj; cases hj
    · rw [h n (by omega)] at h'; cases h'
  · intro i o L A W ho hLi hdep hJ hdef hkept hhas
    obtain ⟨hc, hbel, hdone⟩ := hJ
    have hi : i < ops.size := (Array.getElem?_eq_some_iff.1 ho).1
    have hLn : L n = false := by
      cases h : L n with
      | false => rfl
      | true =>
        have := use_all huse hn hc h n i (by omega) (by omega)
        rw [this] at hLi; cases hLi
    obtain ⟨hbw, hsz⟩ := hbel hLn
    have hc' : ∀ (j : Nat) (p : Oper), ops[j]? = some p → (decide (i = j) || L j) = true → ∀ e ∈ p.after, Region.binds .any e = true → (decide (i = e.on) || L e.on) = true := by
      intro j p hp hj e he hb
      by_cases hij : i = j
      · subst hij
        rw [ho] at hp
        cases hp
        rw [hdep e he hb]; simp
      · rw [hc j p hp (by simpa [hij] using hj) e he hb]; simp
    have hread : ∀ (j s : Nat) (u : Value), ds[j]? = some (s, u) → L j = true → A.tmps.getD s undef = u := fun j s' u hj hL => by
      have hj' : j < ds.length := (List.getElem?_eq_some_iff.1 hj).1
      obtain ⟨p, hp⟩ : ∃ p, ops[j]? = some p := ⟨ops[j]'(by omega), Array.getElem?_eq_getElem _⟩
      exact hhas j p hp hL s' (dst_at hds hp hj) s' u hj
    by_cases hin' : i = n
    · subst hin'
      have hall : ∀ j, j < i → L j = true := fun j hj => by
        have := use_all huse hn hc' (L := fun k => decide (i = k) || L k) (by simp) i j (by omega) (by omega)
        simpa [show i ≠ j by omega] using this
      have e : A = putAll ds a0 := by
        refine act_is ds hdef hsz hnd' (fun s h => hkept s fun j p hp hj e => ?_) (fun j s v hj => ?_)
        · have hjn : j < i := by
            have h1 := (Array.getElem?_eq_some_iff.1 hp).1
            have h2 : j ≠ i := fun e' => by rw [e', hLn] at hj; cases hj
            omega
          obtain ⟨s', v, hv⟩ := at_dst hds hjn hp
          have := (dst_at hds hp hv).symm.trans e
          cases this
          exact h _ (List.mem_of_getElem? hv) rfl
        · exact hread j s v hj (hall j (by have := (List.getElem?_eq_some_iff.1 hj).1; omega))
      rw [e]
      refine wpOp_mono ?_ (hlast o W ho hbw)
      rintro a' W' ⟨⟨v, hv⟩, hq⟩
      refine ⟨v, hv, fun _ s' v' h => ?_, fun _ _ _ h => h, hc', fun h => by simp at h, fun _ => hq⟩
      have := (List.getElem?_eq_some_iff.1 h).1
      omega
    · obtain ⟨s, v, hv⟩ := at_dst hds (show i < n by omega) ho
      have hd := dst_at hds ho hv
      refine wpOp_mono ?_ (hstep i s v o L A W ho hv hdep hbw (fun s' h => hkept s' fun j p hp _ => nd h j p hp) hread)
      rintro a' W' ⟨rfl, hb⟩
      refine ⟨v, by rw [hd], fun _ s' v' h => by rw [hv] at h; cases h; rfl, fun _ _ _ h => h, hc', fun _ => ⟨hbw.trans (hb.mono hbw.size), by simpa [Act.put] using hsz⟩, fun h => ?_⟩
      simp [hin', hLn] at h
  · intro L A W hL hJ hdef hsize hkept hhas
    exact hJ.2.2 (hL n (by omega))
end
end Go.Proofs.YtpmobjgnmidolaaGreatDoor

/- A region that draws its order, whose values are known beforehand, and whose operations keep what is said of the world; the last one waits for all. It speaks of no program. -/
namespace Go.Proofs.YtpmobjgnmidolaaGreatDoor
open Go Go.RowKit
section
variable {P : Program} {ops : Array Oper} {Q : Exit → Act → World → Prop} {id : Nat} {a0 : Act} {w : World}
def StepJ (P : Program) (ops : Array Oper) (Q : Exit → Act → World → Prop) (ds : List (Nat × Value)) (a0 : Act) (J : World → Prop) : Prop :=
  ∀ (i s : Nat) (v : Value) (o : Oper) (L : Nat → Bool) (A : Act) (W : World), ops[i]? = some o → ds[i]? = some (s, v) → (∀ e ∈ o.after, Region.binds .any e = true → L e.on = true) → J W →
    (∀ s, notDst ops s = true → A.tmps.getD s undef = a0.tmps.getD s undef) → (∀ (j s : Nat) (u : Value), ds[j]? = some (s, u) → L j = true → A.tmps.getD s undef = u) → wpOp P ops Q i (fun a' W' => a' = A.put (some s) v ∧ J W') A W
theorem wp_region_lastJ (J : World → Prop) (hJ0 : J w.drew) (hm : P.follows .mixedOrders = true) (hback : backB ops = true) (hdst : dstB ops = true) (hin : inB ops a0.tmps.size = true) (n : Nat) (hn : ops.size = n + 1) (huse : useB ops = true) (ds : List (Nat × Value))
    (hds : (ops.toList.take n).map (fun o => o.dst) = ds.map (fun p => some p.1)) (hnd : decide (((ops.toList.take n).map (fun o => o.dst)).Nodup) = true)
    (hstep : StepJ P ops Q ds a0 J) (hlast : ∀ (o : Oper) (W : World), ops[n]? = some o → J W → wpOp P ops Q n (fun a' W' => (∃ v, a' = (putAll ds a0).put o.dst v) ∧ Q .normal a' W') (putAll ds a0) W) : (Code.region id ops true).wp P Q a0 w := by
  have hnd' : (ds.map (fun p => some p.1)).Nodup := by rw [← hds]; exact of_decide_eq_true hnd
  have hl : ds.length = n := by
    have h := congrArg List.length hds
    simp only [List.length_map, List.length_take, Array.length_toList] at h
    omega
  refine wp_region_flow hm hback hdst hin (fun L A W => (∀ (j : Nat) (p : Oper), ops[j]? = some p → L j = true → ∀ e ∈ p.after, Region.binds .any e = true → L e.on = true) ∧ (L n = false → J W ∧ A.tmps.size = a0.tmps.size) ∧ (L n = true → Q .normal A W)) (fun j x _ => ∀ s v, ds[j]? = some (s, v) → x = v) ?_ ?_ ?_
  · intro L h
    refine ⟨fun j p hp hj => ?_, fun _ => ⟨hJ0, rfl⟩, fun h' => ?_⟩
    · have := h j (Array.getElem?_eq_some_iff.1 hp).1
      rw [this] at hj; cases hj
    · rw [h n (by omega)] at h'; cases h'
  · intro i o L A W ho hLi hdep hJ hdef hkept hhas
    obtain ⟨hc, hbel, hdone⟩ := hJ
    have hi : i < ops.size := (Array.getElem?_eq_some_iff.1 ho).1
    have hLn : L n = false := by
      cases h : L n with
      | false => rfl
      | true =>
        have := use_all huse hn hc h n i (by omega) (by omega)
        rw [this] at hLi; cases hLi
    obtain ⟨hbw, hsz⟩ := hbel hLn
    have hc' : ∀ (j : Nat) (p : Oper), ops[j]? = some p → (decide (i = j) || L j) = true → ∀ e ∈ p.after, Region.binds .any e = true → (decide (i = e.on) || L e.on) = true := by
      intro j p hp hj e he hb
      by_cases hij : i = j
      · subst hij
        rw [ho] at hp
        cases hp
        rw [hdep e he hb]; simp
      · rw [hc j p hp (by simpa [hij] using hj) e he hb]; simp
    have hread : ∀ (j s : Nat) (u : Value), ds[j]? = some (s, u) → L j = true → A.tmps.getD s undef = u := fun j s' u hj hL => by
      have hj' : j < ds.length := (List.getElem?_eq_some_iff.1 hj).1
      obtain ⟨p, hp⟩ : ∃ p, ops[j]? = some p := ⟨ops[j]'(by omega), Array.getElem?_eq_getElem _⟩
      exact hhas j p hp hL s' (dst_at hds hp hj) s' u hj
    by_cases hin' : i = n
    · subst hin'
      have hall : ∀ j, j < i → L j = true := fun j hj => by
        have := use_all huse hn hc' (L := fun k => decide (i = k) || L k) (by simp) i j (by omega) (by omega)
        simpa [show i ≠ j by omega] using this
      have e : A = putAll ds a0 := by
        refine act_is ds hdef hsz hnd' (fun s h => hkept s fun j p hp hj e => ?_) (fun j s v hj => ?_)
        · have hjn : j < i := by
            have h1 := (Array.getElem?_eq_some_iff.1 hp).1
            have h2 : j ≠ i := fun e' => by rw [e', hLn] at hj; cases hj
            omega
          obtain ⟨s', v, hv⟩ := at_dst hds hjn hp
          have := (dst_at hds hp hv).symm.trans e
          cases this
          exact h _ (List.mem_of_getElem? hv) rfl
        · exact hread j s v hj (hall j (by have := (List.getElem?_eq_some_iff.1 hj).1; omega))
      rw [e]
      refine wpOp_mono ?_ (hlast o W ho hbw)
      rintro a' W' ⟨⟨v, hv⟩, hq⟩
      refine ⟨v, hv, fun _ s' v' h => ?_, fun _ _ _ h => h, hc', fun h => by simp at h, fun _ => hq⟩
      have := (List.getElem?_eq_some_iff.1 h).1
      omega
    · obtain ⟨s, v, hv⟩ := at_dst hds (show i < n by omega) ho
      have hd := dst_at hds ho hv
      refine wpOp_mono ?_ (hstep i s v o L A W ho hv hdep hbw (fun s' h => hkept s' fun j p hp _ => nd h j p hp) hread)
      rintro a' W' ⟨rfl, hb⟩
      refine ⟨v, by rw [hd], fun _ s' v' h => by rw [hv] at h; cases h; rfl, fun _ _ _ h => h, hc', fun _ => ⟨hb, by simpa [Act.put] using hsz⟩, fun h => ?_⟩
      simp [hin', hLn] at h
  · intro L A W hL hJ hdef hsize hkept hhas
    exact hJ.2.2 (hL n (by omega))
theorem wp_region_lastK (J : World → Prop) (hJ0 : J w.drew) (hm : P.follows .mixedOrders = true) (hback : backB ops = true) (hdst : dstB ops = true) (hin : inB ops a0.tmps.size = true) (n : Nat) (hn : ops.size = n + 1) (huse : useB ops = true) (ds : List (Nat × Value))
    (hds : (ops.toList.take n).map (fun o => o.dst) = ds.map (fun p => some p.1)) (hnd : decide (((ops.toList.take n).map (fun o => o.dst)).Nodup) = true)
    (hstep : StepJ P ops Q ds a0 J) (hlast : ∀ (o : Oper) (W : World) (A : Act), ops[n]? = some o → J W → A = putAll ds a0 → wpOp P ops Q n (fun a' W' => (∃ v, a' = A.put o.dst v) ∧ Q .normal a' W') A W) : (Code.region id ops true).wp P Q a0 w :=
  wp_region_lastJ J hJ0 hm hback hdst hin n hn huse ds hds hnd hstep fun o W ho hJ => hlast o W _ ho hJ rfl
end
end Go.Proofs.YtpmobjgnmidolaaGreatDoor

/- What masks.fill comes to. -/
namespace Go.Proofs.YtpmobjgnmidolaaGreatDoor
open Go.RowKit Msk
theorem fill_word (f : Nat → Bool) (x y : Nat) (h1 : x ≤ y) :
    bits .or .u64 (wd f (x / 64) : Int) (IntKind.u64.wrap (((2 ^ (y - x) - 1 : Nat) : Int) * 2 ^ (x % 64))) = ((wd (fun i => f i || (decide (x ≤ i) && decide (i < y))) (x / 64) : Nat) : Int) := by
  have e : IntKind.u64.wrap (((2 ^ (y - x) - 1 : Nat) : Int) * 2 ^ (x % 64)) = ((wd (fun i => decide (x ≤ i) && decide (i < y)) (x / 64) : Nat) : Int) := by
    have e1 : wd (fun i => decide (x ≤ i) && decide (i < y)) (x / 64) = (2 ^ (y - x) - 1) * 2 ^ (x % 64) % 18446744073709551616 := by
      symm
      refine wd_eq _ _ _ (Nat.mod_lt _ (by omega)) fun j hj => ?_
      rw [shl_bit _ _ j hj, ones_bit]
      have q1 : (x % 64 ≤ j) = (x ≤ 64 * (x / 64) + j) := by apply propext; omega
      by_cases hr : x % 64 ≤ j
      · have q2 : (j - x % 64 < y - x) = (64 * (x / 64) + j < y) := by apply propext; omega
        simp only [q1, q2]
      · have q3 : ¬ x ≤ 64 * (x / 64) + j := by omega
        simp [hr, q3]
    rw [IntKind.wrap_u64, e1]
    have : ((2 : Int) ^ (x % 64)) = ((2 ^ (x % 64) : Nat) : Int) := by simp
    rw [this]
    omega
  rw [e, bits_or_u64_nat _ _ (wd_lt _ _) (wd_lt _ _), wd_or]
theorem fill_mv (f : Nat → Bool) (x y : Nat) (h1 : x ≤ y) (h2 : y ≤ 64 * (x / 64) + 64) (hx : x < 1472) :
    (mv f).setIfInBounds (x / 64) (.int .u64 (bits .or .u64 (wd f (x / 64) : Int) (IntKind.u64.wrap (((2 ^ (y - x) - 1 : Nat) : Int) * 2 ^ (x % 64))))) = mv fun i => f i || (decide (x ≤ i) && decide (i < y)) := by
  rw [fill_word f x y h1, mv_set _ _ _ (by omega)]
  refine mv_ext fun i hi => ?_
  by_cases h : i / 64 = x / 64
  · rw [if_pos h]
  · rw [if_neg h]
    by_cases q : x ≤ i
    · have : ¬ i < y := by omega
      simp [this]
    · simp [q]
theorem fill_start (f : Nat → Bool) (x v : Int) (h : v = max x 0) : mv f = mv fun i => f i || (decide (x ≤ (i : Int)) && decide ((i : Int) < v)) := mv_ext fun i _ => by
  have : ¬ (x ≤ (i : Int) ∧ (i : Int) < v) := by omega
  by_cases h1 : x ≤ (i : Int)
  · have : ¬ (i : Int) < v := by omega
    simp [this]
  · simp [h1]
theorem fill_step (f : Nat → Bool) (x : Int) (k n : Nat) (h0 : x ≤ k) (hk : k ≤ n) : (mv fun i => (f i || (decide (x ≤ (i : Int)) && decide ((i : Int) < (k : Int)))) || (decide (k ≤ i) && decide (i < n))) = mv fun i => f i || (decide (x ≤ (i : Int)) && decide ((i : Int) < (n : Int))) := mv_ext fun i _ => by
  by_cases h1 : i < k
  · have h2 : ¬ k ≤ i := by omega
    have h3 : (i : Int) < k := by omega
    have h4 : (i : Int) < n := by omega
    simp [h2, h3, h4]
  · have h2 : k ≤ i := by omega
    have h3 : ¬ (i : Int) < k := by omega
    have h4 : ((i : Int) < n) = (i < n) := by apply propext; omega
    have h5 : x ≤ (i : Int) := by omega
    simp [h2, h3, h5]
theorem fill_put (f : Nat → Bool) (x : Int) (k n q r : Nat) (h0 : x ≤ k) (h1 : k ≤ n) (h2 : n ≤ 64 * (k / 64) + 64) (hx : k < 1472) (hq : q = k / 64) (hr : r = k % 64) (d : Nat) (hd : d = n - k)
    (F : Nat → Bool) (hF : F = fun i => f i || (decide (x ≤ (i : Int)) && decide ((i : Int) < (k : Int)))) :
    (mv F).setIfInBounds q (.int .u64 (bits .or .u64 (wd F q : Int) (IntKind.u64.wrap (((2 ^ d - 1 : Nat) : Int) * 2 ^ r)))) = mv fun i => f i || (decide (x ≤ (i : Int)) && decide ((i : Int) < (n : Int))) := by
  subst hq hr hd
  rw [fill_mv F k n h1 h2 hx, hF]
  exact fill_step f x k n h0 h1
theorem fill_end (f : Nat → Bool) (x y v : Int) (h1 : v = max x 0 ∨ (v ≤ y ∧ v ≤ 1440)) (h2 : y ≤ v ∨ 1440 ≤ v) : (mv fun i => f i || (decide (x ≤ (i : Int)) && decide ((i : Int) < v))) = mv fun i => f i || (decide (x ≤ (i : Int)) && decide ((i : Int) < y) && decide (i < 1440)) := mv_ext fun i _ => by
  congr 1
  rw [Bool.eq_iff_iff]
  simp only [Bool.and_eq_true, decide_eq_true_eq]
  omega
attribute [local go_sem ↓] Go.wp_at_zero Go.wp_at_succ
set_option maxRecDepth 10000 in
set_option maxHeartbeats 4000000 in
theorem fill_any (f : Nat → Bool) (g : Nat) (x y : Int) (w : World) (hg : w.heap[g]? = some (.cells (mv f) 41 (0, 0))) :
    Calls Tryz.prog 85 #[.pointer (some ⟨g, 0, none⟩), .agg #[.int .i64 x, .int .i64 y]] w fun e w' => e = .returned (.tuple #[]) ∧
      w'.heap[g]? = some (.cells (mv fun i => f i || (decide (x ≤ (i : Int)) && decide ((i : Int) < y) && decide (i < 1440))) 41 (0, 0)) ∧ Below g w w' := by
  have hgl := lt_of_block hg
  go_enter Tryz.func85, Tryz.ntmps85
  go_wp2
  go_region
  all_goals go_wp2
  all_goals
    go_loopw [4] (fun i wr => ∃ v : Int, i = .int .i64 v ∧ 0 ≤ v ∧ x ≤ v ∧ (v = max x 0 ∨ (v ≤ y ∧ v ≤ 1440)) ∧ wr.heap[g]? = some (.cells (mv fun i => f i || (decide (x ≤ (i : Int)) && decide ((i : Int) < v))) 41 (0, 0)) ∧ Below g w wr) (fun i _ => (1440 - intOf i).toNat)
    case atStart =>
      refine ⟨_, rfl, by omega, by omega, .inl (by omega), ?_, ?_⟩
      · exact blk_eq (blk_old _ _ _ hgl hg) (fill_start f x _ (by omega))
      · exact ((Below.refl _ _).alloc (Nat.le_of_lt hgl) _).drew
    case round =>
      obtain ⟨v, rfl, hv0, hvx, hv, hm, hbel⟩ := hrel
      by_cases hlt : v < y ∧ v < 1440
      · obtain ⟨hl1, hl2⟩ := hlt
        obtain ⟨k, rfl⟩ : ∃ k : Nat, v = k := ⟨v.toNat, by omega⟩
        obtain ⟨yn, rfl⟩ : ∃ yn : Nat, y = yn := ⟨y.toNat, by omega⟩
        generalize hF : (fun i : Nat => f i || (decide (x ≤ (i : Int)) && decide ((i : Int) < (k : Int)))) = F at hm
        have HF : Hid (F = fun i : Nat => f i || (decide (x ≤ (i : Int)) && decide ((i : Int) < (k : Int)))) := hF.symm
        obtain ⟨m, hm1⟩ : ∃ m : Nat, m = 64 * (k / 64) + 64 := ⟨_, rfl⟩
        have hmk : m ≤ k + 64 ∧ k < m ∧ m ≤ 1472 := by omega
        have HM : Hid (m = 64 * (k / 64) + 64) := hm1
        have cw := fun w => wordEnd_any k (by omega) w
        rw [← hm1] at cw
        have HV : Hid ((k : Int) = max x 0 ∨ ((k : Int) ≤ yn ∧ (k : Int) ≤ 1440)) := hv
        obtain ⟨q, hq⟩ : ∃ q : Nat, q = k / 64 := ⟨_, rfl⟩
        obtain ⟨r, hr⟩ : ∃ r : Nat, r = k % 64 := ⟨_, rfl⟩
        have HQ : Hid (q = k / 64) := hq
        have HR : Hid (r = k % 64) := hr
        have t1 : (k : Int) / 64 = (q : Int) := by omega
        have t2 : (k : Int) % 64 = (r : Int) := by omega
        have t3 : (k : Int).tdiv 64 = (q : Int) := by rw [Int.tdiv_eq_ediv_of_nonneg (by omega)]; exact t1
        have t4 : (k : Int).tmod 64 = (r : Int) := by rw [Int.tmod_eq_emod_of_nonneg (by omega)]; exact t2
        have cm := cell_mv hm q (by omega)
        have fm := frozen_of_row _ _ q _ _ hm
        have hi0 : (0 : Int) ≤ (q : Int) := by omega
        have hi1 : (q : Int) < 23 := by omega
        have hr0 : (0 : Int) ≤ (r : Int) := by omega
        have hr1 : (r : Int) < 64 := by omega
        have t5 : IntKind.i64.wrap (q : Int) = (q : Int) := by rw [IntKind.wrap_i64]; omega
        have t6 : IntKind.i64.wrap (r : Int) = (r : Int) := by rw [IntKind.wrap_i64]; omega
        have t7 : IntKind.i64.wrap ((m : Int) - (k : Int)) = (m : Int) - (k : Int) := by rw [IntKind.wrap_i64]; omega
        have t8 : IntKind.i64.wrap (1440 - (k : Int)) = 1440 - (k : Int) := by rw [IntKind.wrap_i64]; omega
        clear hv hm1 hq hr hF
        rcases (show (m ≤ yn ∧ m ≤ 1440) ∨ (yn < m ∧ yn ≤ 1440) ∨ (1440 < m ∧ 1440 < yn) from by omega) with hA | hA | hA
        · first
          | (exfalso; omega)
          | (have t9 : IntKind.i64.wrap ((m : Int) - (k : Int)) = (m : Int) - (k : Int) := by rw [IntKind.wrap_i64]; omega
             go_wp2_with (go_at_call 86; refine (cw _).mono ?_; rintro e w' ⟨rfl, rfl⟩)
             go_region_with ((go_at_call 102; refine (ones_at _ ?_ ?_ _).mono ?_; omega; omega; rintro e w2 ⟨rfl, rfl⟩))
             all_goals
               go_wp2
               go_roundw
               case rel =>
                 have hM := HM.out
                 refine ⟨m, rfl, by omega, by omega, .inr ⟨by omega, by omega⟩, ?_, (hbel.setCell (Nat.le_refl _) _).drew⟩
                 refine blk_eq (heap_setCell_same _ _ _ _ _ _ hm) ?_
                 exact fill_put f x k m q r hvx (by omega) (by omega) (by omega) HQ.out HR.out _ (by omega) F HF.out
               case measure => simp [intOf]; omega)
        · first
          | (exfalso; omega)
          | (have t9 : IntKind.i64.wrap ((yn : Int) - (k : Int)) = (yn : Int) - (k : Int) := by rw [IntKind.wrap_i64]; omega
             go_wp2_with (go_at_call 86; refine (cw _).mono ?_; rintro e w' ⟨rfl, rfl⟩)
             go_region_with ((go_at_call 102; refine (ones_at _ ?_ ?_ _).mono ?_; omega; omega; rintro e w2 ⟨rfl, rfl⟩))
             all_goals
               go_wp2
               go_roundw
               case rel =>
                 have hM := HM.out
                 refine ⟨yn, rfl, by omega, by omega, .inr ⟨by omega, by omega⟩, ?_, (hbel.setCell (Nat.le_refl _) _).drew⟩
                 refine blk_eq (heap_setCell_same _ _ _ _ _ _ hm) ?_
                 exact fill_put f x k yn q r hvx (by omega) (by omega) (by omega) HQ.out HR.out _ (by omega) F HF.out
               case measure => simp [intOf]; omega)
        · first
          | (exfalso; omega)
          | (have t9 : IntKind.i64.wrap ((1440 : Int) - (k : Int)) = (1440 : Int) - (k : Int) := by rw [IntKind.wrap_i64]; omega
             go_wp2_with (go_at_call 86; refine (cw _).mono ?_; rintro e w' ⟨rfl, rfl⟩)
             go_region_with ((go_at_call 102; refine (ones_at _ ?_ ?_ _).mono ?_; omega; omega; rintro e w2 ⟨rfl, rfl⟩))
             all_goals
               go_wp2
               go_roundw
               case rel =>
                 have hM := HM.out
                 refine ⟨1440, rfl, by omega, by omega, .inr ⟨by omega, by omega⟩, ?_, (hbel.setCell (Nat.le_refl _) _).drew⟩
                 refine blk_eq (heap_setCell_same _ _ _ _ _ _ hm) ?_
                 exact fill_put f x k 1440 q r hvx (by omega) (by omega) (by omega) HQ.out HR.out _ (by omega) F HF.out
               case measure => simp [intOf]; omega)
      · go_wp2
        go_end0
        exact ⟨rfl, blk_eq hm (fill_end f x y v hv (by omega)), hbel⟩
end Go.Proofs.YtpmobjgnmidolaaGreatDoor
