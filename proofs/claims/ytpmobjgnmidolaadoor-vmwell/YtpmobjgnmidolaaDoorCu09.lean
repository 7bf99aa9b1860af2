/- A region that draws its order, whose values and world are told by sayings that hang on what has been done; the last operation waits for all. It speaks of no program. -/
import Derived.Test.YtpmobjgnmidolaaDoorCu08
import Derived.Test.YtpmobjgnmidolaaDoorCu03
import Derived.Test.YtpmobjgnmidolaaDoorCu04
import Derived.ChangeKeysEq
import Derived.Laws.StructEq
namespace Go.Proofs.YtpmobjgnmidolaaDoor
open Go Go.RowKit
section
variable {P : Program} {ops : Array Oper} {Q : Exit → Act → World → Prop} {id : Nat} {a0 : Act} {w : World}
/-- What an operation of the region comes to, in whatever world of which that is said. -/
def StepR (P : Program) (ops : Array Oper) (Q : Exit → Act → World → Prop) (sl : List Nat) (a0 : Act) (J : (Nat → Bool) → World → Prop) (sp : (Nat → Bool) → Nat → Value → World → Prop) : Prop :=
  ∀ (i s : Nat) (o : Oper) (L : Nat → Bool) (A : Act) (W : World), ops[i]? = some o → sl[i]? = some s → L i = false → (∀ e ∈ o.after, Region.binds .any e = true → L e.on = true) → ClosL ops L → J L W →
    (∀ s, notDst ops s = true → A.tmps.getD s undef = a0.tmps.getD s undef) → (∀ (j s : Nat), sl[j]? = some s → L j = true → sp L j (A.tmps.getD s undef) W) →
    wpOp P ops Q i (fun a' W' => ∃ v, a' = A.put (some s) v ∧ sp (fun k => decide (i = k) || L k) i v W' ∧ J (fun k => decide (i = k) || L k) W' ∧ ∀ j u, j ≠ i → j < sl.length → L j = true → sp L j u W → sp (fun k => decide (i = k) || L k) j u W') A W
theorem wp_region_lastR (J : (Nat → Bool) → World → Prop) (sp : (Nat → Bool) → Nat → Value → World → Prop) (hJ0 : ∀ L : Nat → Bool, (∀ i, i < ops.size → L i = false) → J L w.drew) (hm : P.follows .mixedOrders = true) (hback : backB ops = true) (hdst : dstB ops = true) (hin : inB ops a0.tmps.size = true) (n : Nat) (hn : ops.size = n + 1) (huse : useB ops = true) (sl : List Nat)
    (hds : (ops.toList.take n).map (fun o => o.dst) = sl.map some) (hnd : decide (((ops.toList.take n).map (fun o => o.dst)).Nodup) = true)
    (hstep : StepR P ops Q sl a0 J sp) (hlast : ∀ (o : Oper) (L : Nat → Bool) (W : World) (A : Act), ops[n]? = some o → (∀ i, i < n → L i = true) → J L W → (∀ (j s : Nat), sl[j]? = some s → sp L j (A.tmps.getD s undef) W) → (∀ s, notDst ops s = true → A.tmps.getD s undef = a0.tmps.getD s undef) →
      (∀ ds : List (Nat × Value), ds.map (fun p => p.1) = sl → (∀ (j s : Nat) (v : Value), ds[j]? = some (s, v) → A.tmps.getD s undef = v) → A = putAll ds a0) →
      wpOp P ops Q n (fun a' W' => (∃ v, a' = A.put o.dst v) ∧ Q .normal a' W') A W) : (Code.region id ops true).wp P Q a0 w := by
  have hnd' : (sl.map some).Nodup := by rw [← hds]; exact of_decide_eq_true hnd
  have hl : sl.length = n := by
    have h := congrArg List.length hds
    simp only [List.length_map, List.length_take, Array.length_toList] at h
    omega
  have atD : ∀ {j : Nat} {p : Oper}, j < n → ops[j]? = some p → ∃ s, sl[j]? = some s ∧ p.dst = some s := fun {j p} hj hp => by
    have h1 : ((ops.toList.take n).map (fun o => o.dst))[j]? = some p.dst := by
      rw [List.getElem?_map, List.getElem?_take_of_lt hj, Array.getElem?_toList, hp]
      rfl
    rw [hds, List.getElem?_map] at h1
    cases hs : sl[j]? with
    | none => rw [hs] at h1; cases h1
    | some s =>
      rw [hs] at h1
      exact ⟨s, rfl, (Option.some.inj h1).symm⟩
  have slNe : ∀ {j k s t : Nat}, sl[j]? = some s → sl[k]? = some t → j ≠ k → s ≠ t := fun {j k s t} hj hk hne e => by
    subst e
    have hj' := (List.getElem?_eq_some_iff.1 hj).1
    have h1 : (sl.map some)[j]? = (sl.map some)[k]? := by rw [List.getElem?_map, List.getElem?_map, hj, hk]
    exact hne ((List.getElem?_inj (by simpa using hj') hnd').1 h1)
  refine wp_region_flow hm hback hdst hin (fun L A W => ClosL ops L ∧ (L n = false → J L W ∧ A.tmps.size = a0.tmps.size ∧ ∀ (j s : Nat), sl[j]? = some s → L j = true → sp L j (A.tmps.getD s undef) W) ∧ (L n = true → Q .normal A W)) (fun _ _ _ => True) ?_ ?_ ?_
  · intro L h
    refine ⟨fun j p hp hj => ?_, fun _ => ⟨hJ0 L h, rfl, fun j s hj hL => ?_⟩, fun h' => ?_⟩
    · have := h j (Array.getElem?_eq_some_iff.1 hp).1
      rw [this] at hj; cases hj
    · have := h j (by have := (List.getElem?_eq_some_iff.1 hj).1; omega)
      rw [this] at hL; cases hL
    · rw [h n (by omega)] at h'; cases h'
  · intro i o L A W ho hLi hdep hJ hdef hkept hhas
    clear hhas
    obtain ⟨hc, hbel, hdone⟩ := hJ
    have hi : i < ops.size := (Array.getElem?_eq_some_iff.1 ho).1
    have hLn : L n = false := by
      cases h : L n with
      | false => rfl
      | true =>
        have := use_all huse hn hc h n i (by omega) (by omega)
        rw [this] at hLi; cases hLi
    obtain ⟨hbw, hsz, hread⟩ := hbel hLn
    have hc' : ClosL ops (fun k => decide (i = k) || L k) := by
      intro j p hp hj e he hb
      show (decide (i = e.on) || L e.on) = true
      by_cases hij : i = j
      · subst hij
        rw [ho] at hp
        cases hp
        rw [hdep e he hb]; simp
      · rw [hc j p hp (by simpa [hij] using hj) e he hb]; simp
    by_cases hin' : i = n
    · subst hin'
      have hall : ∀ j, j < i → L j = true := fun j hj => by
        have := use_all huse hn hc' (L := fun k => decide (i = k) || L k) (by simp) i j (by omega) (by omega)
        simpa [show i ≠ j by omega] using this
      refine wpOp_mono ?_ (hlast o L W A ho hall hbw (fun j s hj => hread j s hj (hall j (by have := (List.getElem?_eq_some_iff.1 hj).1; omega))) (fun s h => hkept s fun j p hp _ => nd h j p hp) fun ds hd hv => ?_)
      · rintro a' W' ⟨⟨v, hv⟩, hq⟩
        exact ⟨v, hv, fun _ => trivial, fun _ _ _ _ => trivial, hc', fun h => by simp at h, fun _ => hq⟩
      · refine act_is ds hdef hsz (by rw [show ds.map (fun p => some p.1) = (ds.map (fun p => p.1)).map some by rw [List.map_map]; rfl, hd]; exact hnd') (fun s h => hkept s fun j p hp hj e => ?_) (fun j s v hj => hv j s v hj)
        have hjn : j < i := by
          have h1 := (Array.getElem?_eq_some_iff.1 hp).1
          have h2 : j ≠ i := fun e' => by rw [e', hLn] at hj; cases hj
          omega
        obtain ⟨s', hs', hd'⟩ := atD hjn hp
        rw [hd'] at e
        cases e
        rw [← hd, List.getElem?_map] at hs'
        cases hq : ds[j]? with
        | none => rw [hq] at hs'; cases hs'
        | some q =>
          rw [hq] at hs'
          exact h q (List.mem_of_getElem? hq) (Option.some.inj hs')
    · obtain ⟨s, hs, hd⟩ := atD (show i < n by omega) ho
      have hsl : s < A.tmps.size := by
        have q1 := List.all_eq_true.1 hin i (by simpa using hi)
        rw [ho] at q1
        simp only [Option.bind_some, hd] at q1
        rw [hsz]
        simpa using q1
      refine wpOp_mono ?_ (hstep i s o L A W ho hs hLi hdep hc hbw (fun s' h => hkept s' fun j p hp _ => nd h j p hp) hread)
      rintro a' W' ⟨v, rfl, hv, hJ', hmono⟩
      refine ⟨v, by rw [hd], fun _ => trivial, fun _ _ _ _ => trivial, hc', fun _ => ⟨hJ', by simpa [Act.put] using hsz, fun j t hj hL => ?_⟩, fun h => ?_⟩
      · by_cases hij : i = j
        · subst hij
          rw [hs] at hj
          cases hj
          rw [show (A.put (some s) v).tmps.getD s undef = v from getD_set_same _ _ _ hsl]
          exact hv
        · have hLj : L j = true := by simpa [hij] using hL
          rw [show (A.put (some s) v).tmps.getD t undef = A.tmps.getD t undef from getD_set_other _ _ _ _ (slNe hs hj hij)]
          exact hmono j _ (fun e => hij e.symm) (List.getElem?_eq_some_iff.1 hj).1 hLj (hread j t hj hLj)
      · simp [hin', hLn] at h
  · intro L A W hL hJ hdef hsize hkept hhas
    exact hJ.2.2 (hL n (by omega))
end
end Go.Proofs.YtpmobjgnmidolaaDoor

/- '==' and '!=' between two masks; a word of a mask by its place; how many minutes a mask has. -/
namespace Go.Proofs.YtpmobjgnmidolaaDoor
open Go.RowKit Msk

/-- Do two masks have the same bits? -/
def eqm (f g : Nat → Bool) : Bool := (List.range 23).all fun k => wd f k == wd g k
theorem eqm_true {f g : Nat → Bool} (h : ∀ i, i < 1472 → f i = g i) : eqm f g = true := by
  unfold eqm
  rw [List.all_eq_true]
  intro k hk
  have hk' : k < 23 := by simpa using hk
  rw [wd_ext (f := f) (g := g) fun j hj => h _ (by omega)]
  simp
theorem eqm_same {f g : Nat → Bool} (h : eqm f g = true) (i : Nat) (hi : i < 1472) : f i = g i := by
  unfold eqm at h
  rw [List.all_eq_true] at h
  have h1 := h (i / 64) (by simp; omega)
  have h2 := wd_inj (by simpa using h1) (i % 64) (by omega)
  have e : 64 * (i / 64) + i % 64 = i := by omega
  rw [e] at h2
  exact h2
set_option maxRecDepth 100000 in
theorem u64info : ∃ i, Tryd.prog.info? 35 = some i ∧ Tryd.prog.cellsOf 35 = 1 := ⟨_, rfl, by kernel_rfl⟩
theorem u64type : Tryd.prog.underlying 35 = some (.int .u64) := by kernel_rfl
theorem part_mv (f : Nat → Bool) (k : Nat) (hk : k < 23) (w : World) : (Go.part 35 (mv f) (k * 1)).run Tryd.prog w = .ok (.int .u64 (wd f k : Int)) w := by
  simp [Go.part, isAgg, run_underlying u64type, mv_get f k hk]
theorem eqItems_mv (f g : Nat → Bool) (w : World) (d : Nat) : ∀ l : List Nat, (∀ k ∈ l, k < 23) → (Op.eqItems (d + 1) 35 1 (mv f) (mv g) l).run Tryd.prog w = .ok (l.all fun k => wd f k == wd g k) w
  | [], _ => by simp [Op.eqItems]
  | k :: l, h => by
    have ih := eqItems_mv f g w d l fun j hj => h j (by simp [hj])
    have hk := h k (by simp)
    simp only [Op.eqItems, Sem.run_bind, part_mv f k hk, part_mv g k hk, Result.andThen_ok, run_equalIn_int w d 35 .u64 .u64 _ _ u64type, List.all_cons]
    have e : (((wd f k : Nat) : Int) == ((wd g k : Nat) : Int)) = (wd f k == wd g k) := by
      rw [Bool.eq_iff_iff]; simp only [beq_iff_eq]; omega
    rw [e]
    cases (wd f k == wd g k)
    · simp
    · simpa using ih
theorem eq_mask (f g : Nat → Bool) (w : World) : (Op.equalIn 10000 37 (.agg (mv f)) (.agg (mv g))).run Tryd.prog w = .ok (eqm f g) w := by
  obtain ⟨i, hi, hc⟩ := u64info
  rw [run_equalIn_array w 9999 (mv f) (mv g) maskType hi, hc]
  exact eqItems_mv f g w 9998 _ fun k hk => by simpa using hk
theorem eql_mask (f g : Nat → Bool) (w : World) : (binOp .eql 37 (.agg (mv f)) (.agg (mv g))).run Tryd.prog w = .ok (.bool (eqm f g)) w := by
  rw [run_eql_struct, eq_mask]; rfl
theorem neq_mask (f g : Nat → Bool) (w : World) : (binOp .neq 37 (.agg (mv f)) (.agg (mv g))).run Tryd.prog w = .ok (.bool (!eqm f g)) w := by
  rw [run_neq_struct, eq_mask]; rfl
theorem index_mask (f : Nat → Bool) (k : Nat) (hk : k < 23) (w : World) : (Instr.index 37 (.agg (mv f)) (.int .i64 (k : Int))).run Tryd.prog w = .ok (.int .u64 (wd f k : Int)) w := by
  obtain ⟨i, hi, hc⟩ := u64info
  have hs : (sizeOf 35).run Tryd.prog w = .ok 1 w := by rw [run_sizeOf w hi, hc]
  have h0 : (0 : Int) ≤ (k : Int) ∧ (k : Int) < (23 : Nat) := by omega
  have hp := part_mv f k hk w
  simp only [Instr.index, asIntOf, Sem.run_bind, Sem.run_pure, Result.andThen_ok, run_underlying maskType]
  rw [if_pos h0]
  simp only [Sem.run_bind, hs, Result.andThen_ok, Int.toNat_natCast]
  exact hp

/-- A whole mask that is loaded under a guard. -/
theorem load_g {ops : Array Oper} {rest : List Oper} {o : Oper} {a : Act} {w : World} {Q : Exit → Act → World → Prop} (hw : Region.wanted o (yielded ops a.tmps) = true) (x : Operand) (ho : o.op = .load 37 x)
    (g : Nat) (hx : a.eval x = .pointer (some ⟨g, 0, none⟩)) (f : Nat → Bool) (hg : w.heap[g]? = some (.cells (mv f) 37 (0, 0))) (h : wpList Tryd.prog ops Q rest (a.put o.dst (.agg (mv f))) w) : wpList Tryd.prog ops Q (o :: rest) a w :=
  wpList_step fun K hK => by
    rw [if_pos hw]
    exact wp_load_row 37 x ho g hx _ _ _ _ hg maskType rfl (maskSize _) (hK _ _ h)

set_option maxHeartbeats 400000 in
theorem count_any (f : Nat → Bool) (w : World) :
    Calls Tryd.prog 24 #[.agg (mv f)] w fun e w' => e = .returned (.int .i64 ((cnt f 1440 : Nat) : Int)) ∧ Below w.heap.size w w' := by
  have h1 : (w.alloc (.cells (mv f) 37)).heap[w.heap.size]? = some (.cells (mv f) 37 (0, 0)) := by (repeat (first | refine blk_old _ _ _ (by simp only [size_alloc]; omega) ?_ | exact blk_new _ _ _ (by first | rfl | simp only [size_alloc])))
  have hb0 : Below w.heap.size w (w.alloc (.cells (mv f) 37)) := (Below.refl _ _).alloc (Nat.le_refl _) _
  go_enter Tryd.func24, Tryd.ntmps24
  go_wp2_with (first
    | (refine wpList_load_row rfl 37 _ rfl _ rfl _ _ _ _ h1 maskType rfl (maskSize _) ?_)
    | (go_at_call 57; refine (trim_any _ _).mono ?_; rintro e w' ⟨rfl, hb'⟩))
  go_loop [3, 8] (fun n i => ∃ k : Nat, k ≤ 23 ∧ i = .int .i64 k ∧ n = .int .i64 ((cnt (fun i => f i && decide (i < 1440)) (64 * k) : Nat) : Int)) (fun _ i => 23 - (intOf i).toNat)
  case atStart => exact ⟨0, by omega, rfl, rfl⟩
  case round =>
    obtain ⟨k, hk, rfl, rfl⟩ := hrel
    have hn := cnt_le (fun i => f i && decide (i < 1440)) (64 * k)
    by_cases hlt : k < 23
    · have hx := index_mask (fun i => f i && decide (i < 1440)) k hlt
      have hs := cnt_add (fun i => f i && decide (i < 1440)) (64 * k) 64
      have hw := cnt_word (fun i => f i && decide (i < 1440)) k
      have hl := wd_lt (fun i => f i && decide (i < 1440)) k
      have hc := cnt_le (fun j => (wd (fun i => f i && decide (i < 1440)) k).testBit j) 64
      have HS : Hid (cnt (fun i => f i && decide (i < 1440)) (64 * (k + 1)) = cnt (fun i => f i && decide (i < 1440)) (64 * k) + cnt (fun j => (wd (fun i => f i && decide (i < 1440)) k).testBit j) 64) := by
        rw [hw, ← hs]; rfl
      clear hs hw
      go_wp2_with (go_at_call 58; refine (pop_any _ hl _).mono ?_; rintro e w' ⟨rfl, rfl⟩)
      go_round
      case rel => exact ⟨k + 1, by omega, by go_num, by rw [HS.out]; go_num⟩
      case measure => simp [intOf]; omega
    · have : k = 23 := by omega
      subst this
      have e : cnt (fun i => f i && decide (i < 1440)) (64 * 23) = cnt f 1440 := by
        have h1 := cnt_add (fun i => f i && decide (i < 1440)) 1440 32
        have h2 : cnt (fun j => f (1440 + j) && decide (1440 + j < 1440)) 32 = 0 := cnt_false fun j _ => by
          have : ¬ 1440 + j < 1440 := by omega
          simp [this]
        rw [h2] at h1
        have h3 : cnt (fun i => f i && decide (i < 1440)) 1440 = cnt f 1440 := cnt_ext fun i hi => by simp [hi]
        rw [h3] at h1
        have h4 : 64 * 23 = 1440 + 32 := rfl
        rw [h4, h1, Nat.add_zero]
      have HE : Hid (cnt (fun i => f i && decide (i < 1440)) (64 * 23) = cnt f 1440) := e
      clear e
      go_wp2
      go_ret
      exact ⟨ret_val (int_eq (by rw [← HE.out])), hb0.trans (hb'.mono hb0.size)⟩

end Go.Proofs.YtpmobjgnmidolaaDoor

/- A row of one mask is made. -/
namespace Go.Proofs.YtpmobjgnmidolaaDoor
open Go.RowKit Msk
theorem buildM (f : Nat → Bool) (W : World) : (Instr.buildSlice 32 1 #[(0, .agg (mv f))]).run Tryd.prog W = .ok (.slice (some ⟨W.heap.size, 0, none⟩) 1 1) (W.alloc (.cells (mv f) 37)) := by
  kernel_rfl
theorem wp_buildM {o : Oper} {a : Act} {w : World} {K : Act → World → Prop} {Q : Exit → Act → World → Prop} (x : Operand) (ho : o.op = .buildSlice 32 1 #[(0, x)]) (f : Nat → Bool) (hx : a.eval x = .agg (mv f))
    (h : K (a.put o.dst (.slice (some ⟨w.heap.size, 0, none⟩) 1 1)) (w.alloc (.cells (mv f) 37))) : o.wp Tryd.prog a w K Q := by
  unfold Oper.wp execOp
  have hb := buildM f w
  simp only [ho, hx, List.map_toArray, List.map_cons, List.map_nil, Sem.run_bind, Sem.run_pure, Result.andThen_ok, hb]
  exact h
end Go.Proofs.YtpmobjgnmidolaaDoor

/- The machine in memory; put and take. Written by genvmi.py. -/
namespace Go.Proofs.YtpmobjgnmidolaaDoor
open Go.RowKit Msk Vx

def flatS (S : List M) : List Value := S.flatMap fun f => (mv f).toList
theorem flatS_len : ∀ S : List M, (flatS S).length = S.length * 23
  | [] => rfl
  | f :: S => by
    have := flatS_len S
    unfold flatS at this ⊢
    rw [List.flatMap_cons, List.length_append, this]
    have h : (mv f).toList.length = 23 := by rw [Array.length_toList]; exact mv_size f
    rw [h, List.length_cons]
    omega
theorem flatS_snoc (S : List M) (f : M) : flatS (S ++ [f]) = flatS S ++ (mv f).toList := by
  unfold flatS
  rw [List.flatMap_append]
  simp
theorem mvl_len (f : M) : (mv f).toList.length = 23 := by rw [Array.length_toList]; exact mv_size f
theorem own_below {w w' : World} {base : Nat} {e : TypeId} {size n : Nat} {v : Value} {xs : List Value} (h : w.ownsRow base e size v n xs) (hb : Below w.heap.size w w') : w'.ownsRow base e size v n xs := by
  refine h.kept (row := none) ⟨hb.os, hb.tape, hb.output, hb.size, fun k hk _ => hb.block k hk⟩ ?_
  cases hv : v.ownBlock with
  | none => exact .inl rfl
  | some g => exact .inr (by simp)
/-- The machine: its code, the day, its stack, its steps. -/
structure VSt (w0 : World) (gm : Nat) (lv : Value) (day : Int) (S : List M) (k : Int) (W : World) : Prop where
  bel : Below w0.heap.size w0 W
  gt : w0.heap.size ≤ gm
  row : ∃ sv, W.heap[gm]? = some (.cells #[lv, .int .i64 day, sv, .int .i64 k] 75 (0, 0)) ∧ W.ownsRow w0.heap.size 37 23 sv S.length (flatS S)
theorem VSt.below {w0 W W' : World} {gm : Nat} {lv : Value} {day k : Int} {S : List M} (h : VSt w0 gm lv day S k W) (hb : Below W.heap.size W W') : VSt w0 gm lv day S k W' := by
  obtain ⟨h1, h2, sv, h3, h4⟩ := h
  exact ⟨h1.trans (hb.mono h1.size), h2, sv, (hb.block _ (lt_of_block h3)).trans h3, own_below h4 hb⟩
theorem own_ne {w : World} {base n : Nat} {sv : Value} {xs : List Value} {g : Nat} {cs : Array Value} {T : TypeId} (h : w.ownsRow base 37 23 sv n xs) (hg : w.heap[g]? = some (.cells cs T (0, 0))) (hT : T ≠ 37) : some g ≠ sv.ownBlock := by
  rcases h.2 with ⟨e, _⟩ | ⟨b, cap, cur, e, _, hb, _⟩
  · rw [e]; simp [Value.ownBlock]
  · rw [e]
    intro q
    have q' : g = b := by simpa [Value.ownBlock] using q
    subst q'
    rw [hg] at hb
    injection hb with hb
    injection hb with _ h2 _
    exact hT h2
theorem own_sliceV {w : World} {base n : Nat} {sv : Value} {xs : List Value} (h : w.ownsRow base 37 23 sv n xs) : ∃ p c, sv = .slice p n c := by
  rcases h.2 with ⟨e, e2⟩ | ⟨b, cap, cur, e, _⟩
  · exact ⟨none, 0, by rw [e, e2]⟩
  · exact ⟨_, cap, e⟩
theorem maskInfo9 : (Tryd.prog.info? 37).map (fun i => (i.zero, i.size, i.bytes)) = some (some (.agg #[.int .u64 0, .int .u64 0, .int .u64 0, .int .u64 0, .int .u64 0, .int .u64 0, .int .u64 0, .int .u64 0, .int .u64 0, .int .u64 0, .int .u64 0, .int .u64 0, .int .u64 0, .int .u64 0, .int .u64 0, .int .u64 0, .int .u64 0, .int .u64 0, .int .u64 0, .int .u64 0, .int .u64 0, .int .u64 0, .int .u64 0]), 23, 184) := by kernel_rfl
theorem masksType : Tryd.prog.underlying 32 = some (.slice 37) := by kernel_rfl
theorem machType : Tryd.prog.underlying 75 = some (.struct (Tryd.prog.fieldsOf 75)) := by kernel_rfl
/-- What is said of the world while a mask is put. -/
structure PutJ (base : Nat) (sv : Value) (n : Nat) (xs : List Value) (W1 : World) (L : Nat → Bool) (W : World) : Prop where
  grown : W1.grownBy W sv.ownBlock
  own : L 7 = false → W.ownsRow base 37 23 sv n xs
/-- What the operations of put yield. -/
def pspV (base gm : Nat) (sv : Value) (n : Nat) (xs : List Value) (f : M) (lo : Nat) (L : Nat → Bool) (i : Nat) (v : Value) (W : World) : Prop := match i with
  | 0 => v = .pointer (some ⟨gm, 0, none⟩)
  | 1 => v = .pointer (some ⟨gm, 0, none⟩)
  | 2 => v = .pointer (some ⟨gm, 0, none⟩)
  | 3 => v = .pointer (some ⟨gm, 2, none⟩)
  | 4 => v = sv
  | 5 => v = .agg (mv f)
  | 6 => ∃ g, v = .slice (some ⟨g, 0, none⟩) 1 1 ∧ (L 7 = false → W.heap[g]? = some (.cells (mv f) 37 (0, 0)) ∧ lo ≤ g)
  | 7 => W.ownsRow base 37 23 v (n + 1) (xs ++ (mv f).toList)
  | 8 => v = .pointer (some ⟨gm, 0, none⟩)
  | 9 => v = .pointer (some ⟨gm, 2, none⟩)
  | _ => True
theorem psp_keep {base gm n lo : Nat} {sv : Value} {xs : List Value} {f : M} {L L' : Nat → Bool} (hL : L' 7 = false → L 7 = false) {W W' : World} (hb : Below W.heap.size W W') : ∀ (j : Nat) (u : Value), pspV base gm sv n xs f lo L j u W → pspV base gm sv n xs f lo L' j u W'
  | 0, _, h => h
  | 1, _, h => h
  | 2, _, h => h
  | 3, _, h => h
  | 4, _, h => h
  | 5, _, h => h
  | 6, _, ⟨g, h1, h2⟩ => ⟨g, h1, fun e => ⟨(hb.block _ (lt_of_block (h2 (hL e)).1)).trans (h2 (hL e)).1, (h2 (hL e)).2⟩⟩
  | 7, _, h => own_below h hb
  | 8, _, h => h
  | 9, _, h => h
  | _ + 10, _, h => h
theorem grown_below {W1 W W' : World} {row : Option Nat} (h : W1.grownBy W row) (hb : Below W.heap.size W W') : W1.grownBy W' row :=
  ⟨hb.os.trans h.os, hb.tape.trans h.tape, hb.output.trans h.output, Nat.le_trans h.size hb.size, fun k hk hr => (hb.block k (Nat.lt_of_lt_of_le hk h.size)).trans (h.block k hk hr)⟩
theorem grown_trans {W1 W W' : World} {row : Option Nat} (h : W1.grownBy W row) (hb : W.grownBy W' row) : W1.grownBy W' row :=
  ⟨hb.os.trans h.os, hb.tape.trans h.tape, hb.output.trans h.output, Nat.le_trans h.size hb.size, fun k hk hr => (hb.block k (Nat.lt_of_lt_of_le hk h.size) hr).trans (h.block k hk hr)⟩
theorem in_add9 (g o n : Nat) : (⟨g, o, none⟩ : Addr).add n = ⟨g, o + n, none⟩ := by
  by_cases h : n = 0
  · subst h; simp [Addr.add]
  · simp [Addr.add, h]
theorem psp_app {base gm n lo : Nat} {sv : Value} {xs : List Value} {f : M} {L : Nat → Bool} {W W' : World} {j0 : Nat} (hj : j0 ≠ 7) : ∀ (j : Nat), j = j0 → ∀ (u : Value), pspV base gm sv n xs f lo L j u W → pspV base gm sv n xs f lo (fun k => decide (7 = k) || L k) j u W'
  | 0, _, _, h => h
  | 1, _, _, h => h
  | 2, _, _, h => h
  | 3, _, _, h => h
  | 4, _, _, h => h
  | 5, _, _, h => h
  | 6, _, _, ⟨g, h1, _⟩ => ⟨g, h1, fun e => by simp at e⟩
  | 7, e, _, _ => absurd e.symm hj
  | 8, _, _, h => h
  | 9, _, _, h => h
  | _ + 10, _, _, h => h
set_option maxRecDepth 100000 in
set_option maxHeartbeats 4000000 in
theorem put_any (w0 : World) (gm : Nat) (lv : Value) (day k : Int) (S : List M) (f : M) (W : World) (h : VSt w0 gm lv day S k W) (hS : S.length ≤ 1000) :
    Calls Tryd.prog 82 #[.pointer (some ⟨gm, 0, none⟩), .agg (mv f)] W fun e W' => e = .returned (.tuple #[]) ∧ VSt w0 gm lv day (S ++ [f]) k W' ∧ ∀ (q : Nat) (c : Array Value) (T : TypeId), W.heap[q]? = some (.cells c T (0, 0)) → T ≠ 37 → q ≠ gm → W'.heap[q]? = some (.cells c T (0, 0)) := by
  obtain ⟨hbel, hgt, sv, nM0, own0⟩ := h
  obtain ⟨i0, hi, hz0, hz1, hz2⟩ := info_parts maskInfo9
  have HZ := hidv hz0
  have bB := (Below.refl W.heap.size W).alloc (Nat.le_refl _) (.cells (mv f) 37)
  have nB0 := heap_alloc_new W (.cells (mv f) 37)
  have nM := (bB.block _ (lt_of_block nM0)).trans nM0
  have own1 := own_below own0 bB
  have hneM := own_ne own1 nM (by decide)
  have hneB : some W.heap.size ≠ sv.ownBlock := fun e => by
    have := (own0.lt _ e.symm).2
    omega
  have hb1 := hbel.trans (bB.mono hbel.size)
  have hb0 := hb1.size
  obtain ⟨p0, c0, hsv⟩ := own_sliceV own0
  subst hsv
  have HFR : Hid (∀ (q : Nat) (c : Array Value) (T : TypeId), W.heap[q]? = some (.cells c T (0, 0)) → (W.alloc (.cells (mv f) 37)).heap[q]? = some (.cells c T (0, 0))) := fun q c T hq => (bB.block _ (lt_of_block hq)).trans hq
  obtain ⟨gb, hgb⟩ : ∃ b, W.heap.size = b := ⟨_, rfl⟩
  generalize hwB : W.alloc (.cells (mv f) 37) = wB at *
  rw [hgb] at hneB
  have nB : wB.heap[gb]? = some (.cells (mv f) 37 (0, 0)) := by rw [← hgb]; exact nB0
  clear hz0 nB0 nM0 own0 bB hbel
  go_enter Tryd.func82, Tryd.ntmps82
  go_wp2_with fail
  clear hwB
  refine wp_region_lastR (PutJ w0.heap.size (.slice p0 S.length c0) S.length (flatS S) wB) (pspV w0.heap.size gm (.slice p0 S.length c0) S.length (flatS S) f wB.heap.size) (fun L _ => ⟨⟨rfl, rfl, rfl, Nat.le_refl _, fun _ _ _ => rfl⟩, fun _ => own1⟩) (by kernel_rfl) (by kernel_rfl) (by kernel_rfl) (by kernel_rfl) 10 (by kernel_rfl) (by kernel_rfl) [4, 5, 6, 7, 8, 9, 10, 11, 12, 13] (by kernel_rfl) (by kernel_rfl) ?_ ?_
  · intro i' s o' L A W2 ho hs hLi hdep hc hJ hkept hhas
    match i', ho, hs, hLi with
    | 0, ho, hs, hLi =>
      cases Option.some.inj ho
      cases Option.some.inj hs
      have h0 : A.tmps[0]?.getD undef = .pointer (some ⟨gm, 0, none⟩) := (gd A 0).trans (hkept 0 (by kernel_rfl))
      refine wpOp_step rfl (fun K hK => ?_)
      go_simp
      exact hK _ _ ⟨_, rfl, rfl, ⟨hJ.grown, fun e => hJ.own ((Bool.or_eq_false_iff.1 e).2)⟩, fun j u _ _ _ h => psp_keep (fun e => (Bool.or_eq_false_iff.1 e).2) (Below.refl _ _) j u h⟩
    | 1, ho, hs, hLi =>
      cases Option.some.inj ho
      cases Option.some.inj hs
      have h0 : A.tmps[0]?.getD undef = .pointer (some ⟨gm, 0, none⟩) := (gd A 0).trans (hkept 0 (by kernel_rfl))
      refine wpOp_step rfl (fun K hK => ?_)
      go_simp
      exact hK _ _ ⟨_, rfl, rfl, ⟨hJ.grown, fun e => hJ.own ((Bool.or_eq_false_iff.1 e).2)⟩, fun j u _ _ _ h => psp_keep (fun e => (Bool.or_eq_false_iff.1 e).2) (Below.refl _ _) j u h⟩
    | 2, ho, hs, hLi =>
      cases Option.some.inj ho
      cases Option.some.inj hs
      have h5 : A.tmps[5]?.getD undef = .pointer (some ⟨gm, 0, none⟩) := (gd A 5).trans (hhas 1 5 rfl (hdep ⟨1, .data⟩ (by simp) rfl))
      refine wpOp_step rfl (fun K hK => ?_)
      go_simp
      exact hK _ _ ⟨_, rfl, rfl, ⟨hJ.grown, fun e => hJ.own ((Bool.or_eq_false_iff.1 e).2)⟩, fun j u _ _ _ h => psp_keep (fun e => (Bool.or_eq_false_iff.1 e).2) (Below.refl _ _) j u h⟩
    | 3, ho, hs, hLi =>
      cases Option.some.inj ho
      cases Option.some.inj hs
      have h6 : A.tmps[6]?.getD undef = .pointer (some ⟨gm, 0, none⟩) := (gd A 6).trans (hhas 2 6 rfl (hdep ⟨2, .data⟩ (by simp) rfl))
      refine wpOp_step rfl (fun K hK => ?_)
      go_simp
      exact hK _ _ ⟨_, rfl, rfl, ⟨hJ.grown, fun e => hJ.own ((Bool.or_eq_false_iff.1 e).2)⟩, fun j u _ _ _ h => psp_keep (fun e => (Bool.or_eq_false_iff.1 e).2) (Below.refl _ _) j u h⟩
    | 4, ho, hs, hLi =>
      cases Option.some.inj ho
      cases Option.some.inj hs
      have h7 : A.tmps[7]?.getD undef = .pointer (some ⟨gm, 2, none⟩) := (gd A 7).trans (hhas 3 7 rfl (hdep ⟨3, .data⟩ (by simp) rfl))
      have nM2 := (hJ.grown.block _ (lt_of_block nM) hneM).trans nM
      have z2 := (cell_of_row _ _ 2 _ _ _ nM2).trans rfl
      refine wpOp_step rfl (fun K hK => ?_)
      go_simp
      exact hK _ _ ⟨_, rfl, rfl, ⟨hJ.grown, fun e => hJ.own ((Bool.or_eq_false_iff.1 e).2)⟩, fun j u _ _ _ h => psp_keep (fun e => (Bool.or_eq_false_iff.1 e).2) (Below.refl _ _) j u h⟩
    | 5, ho, hs, hLi =>
      cases Option.some.inj ho
      cases Option.some.inj hs
      have x3 : A.eval (.tmp 3) = .pointer (some ⟨gb, 0, none⟩) := hkept 3 (by kernel_rfl)
      have nB2 := (hJ.grown.block _ (lt_of_block nB) hneB).trans nB
      refine wpOp_step rfl (fun K hK => ?_)
      show Oper.wp _ _ _ _ _ _
      refine wp_load_row 37 _ rfl _ x3 _ _ _ _ nB2 maskType rfl (maskSize _) ?_
      exact hK _ _ ⟨_, rfl, rfl, ⟨hJ.grown, fun e => hJ.own ((Bool.or_eq_false_iff.1 e).2)⟩, fun j u _ _ _ h => psp_keep (fun e => (Bool.or_eq_false_iff.1 e).2) (Below.refl _ _) j u h⟩
    | 6, ho, hs, hLi =>
      cases Option.some.inj ho
      cases Option.some.inj hs
      have x9 : A.eval (.tmp 9) = .agg (mv f) := hhas 5 9 rfl (hdep ⟨5, .data⟩ (by simp) rfl)
      have hb := (Below.refl W2.heap.size W2).alloc (Nat.le_refl _) (.cells (mv f) 37)
      have hnew := heap_alloc_new W2 (.cells (mv f) 37)
      have hsz := hJ.grown.size
      have no7 : L 7 = false := by
        cases h : L 7 with
        | false => rfl
        | true =>
          have := hc 7 _ rfl h ⟨6, .data⟩ (by simp) rfl
          rw [hLi] at this; cases this
      refine wpOp_step rfl (fun K hK => ?_)
      show Oper.wp _ _ _ _ _ _
      refine wp_buildM _ rfl f x9 ?_
      exact hK _ _ ⟨_, rfl, ⟨W2.heap.size, rfl, fun _ => ⟨hnew, hsz⟩⟩, ⟨grown_below hJ.grown hb, fun e => own_below (hJ.own no7) hb⟩, fun j u _ _ _ h => psp_keep (fun e => (Bool.or_eq_false_iff.1 e).2) hb j u h⟩
    | 7, ho, hs, hLi =>
      cases Option.some.inj ho
      cases Option.some.inj hs
      obtain ⟨g, e10, hx⟩ := hhas 6 10 rfl (hdep ⟨6, .data⟩ (by simp) rfl)
      obtain ⟨hh, hlo⟩ := hx hLi
      have x10 : A.eval (.tmp 10) = .slice (some ⟨g, 0, none⟩) 1 1 := e10
      have x8 : A.eval (.tmp 8) = .slice p0 S.length c0 := hhas 4 8 rfl (hdep ⟨4, .data⟩ (by simp) rfl)
      refine wpOp_step rfl (fun K hK => ?_)
      show Oper.wp _ _ _ _ _ _
      refine wp_append_own W2 _ _ 32 rfl w0.heap.size 37 i0 _ 23 184 masksType hi HZ.out hz1 hz2 rfl (by decide) (.slice p0 S.length c0) S.length (flatS S) x8 (hJ.own hLi) ⟨g, 0, none⟩ 1 1 (mv f).toList x10 (mvl_len f) ?c1 ?c2 ?c3 ?c4 ?c5 ?_
      case c1 =>
        intro q u hq
        rw [in_add9]
        exact (cell_of_row _ _ _ _ _ _ hh).trans (by rw [Nat.zero_add, ← Array.getElem?_toList]; exact hq)
      case c2 =>
        intro u hu
        have := mv_all f
        rw [Array.all_eq_true_iff_forall_mem] at this
        exact this u (Array.mem_def.2 hu)
      case c3 => unfold maxLen; omega
      case c4 => omega
      case c5 => exact Nat.le_trans hb0 hJ.grown.size
      intro v' W' hown hgrow _
      exact hK _ _ ⟨v', rfl, hown, ⟨grown_trans hJ.grown hgrow, fun e => by simp at e⟩, fun j u hj _ _ h => psp_app hj j rfl u h⟩
    | 8, ho, hs, hLi =>
      cases Option.some.inj ho
      cases Option.some.inj hs
      have h4 : A.tmps[4]?.getD undef = .pointer (some ⟨gm, 0, none⟩) := (gd A 4).trans (hhas 0 4 rfl (hdep ⟨0, .data⟩ (by simp) rfl))
      refine wpOp_step rfl (fun K hK => ?_)
      go_simp
      exact hK _ _ ⟨_, rfl, rfl, ⟨hJ.grown, fun e => hJ.own ((Bool.or_eq_false_iff.1 e).2)⟩, fun j u _ _ _ h => psp_keep (fun e => (Bool.or_eq_false_iff.1 e).2) (Below.refl _ _) j u h⟩
    | 9, ho, hs, hLi =>
      cases Option.some.inj ho
      cases Option.some.inj hs
      have h12 : A.tmps[12]?.getD undef = .pointer (some ⟨gm, 0, none⟩) := (gd A 12).trans (hhas 8 12 rfl (hdep ⟨8, .data⟩ (by simp) rfl))
      refine wpOp_step rfl (fun K hK => ?_)
      go_simp
      exact hK _ _ ⟨_, rfl, rfl, ⟨hJ.grown, fun e => hJ.own ((Bool.or_eq_false_iff.1 e).2)⟩, fun j u _ _ _ h => psp_keep (fun e => (Bool.or_eq_false_iff.1 e).2) (Below.refl _ _) j u h⟩
    | kk + 10, ho, hs, hLi => simp at hs
  · intro o' L W2 A ho hL hJ hhas hkept hput
    cases Option.some.inj ho
    have own7 : W2.ownsRow w0.heap.size 37 23 (A.tmps.getD 11 undef) (S.length + 1) (flatS S ++ (mv f).toList) := hhas 7 11 rfl
    obtain ⟨v7, ev7⟩ : ∃ v, A.tmps.getD 11 undef = v := ⟨_, rfl⟩
    rw [ev7] at own7
    obtain ⟨p7, c7, hv7⟩ := own_sliceV own7
    subst hv7
    obtain ⟨x4, e4⟩ : ∃ x, A.tmps.getD 4 undef = x := ⟨_, rfl⟩
    obtain ⟨x5, e5⟩ : ∃ x, A.tmps.getD 5 undef = x := ⟨_, rfl⟩
    obtain ⟨x6, e6⟩ : ∃ x, A.tmps.getD 6 undef = x := ⟨_, rfl⟩
    obtain ⟨x7, e7⟩ : ∃ x, A.tmps.getD 7 undef = x := ⟨_, rfl⟩
    obtain ⟨x8, e8⟩ : ∃ x, A.tmps.getD 8 undef = x := ⟨_, rfl⟩
    obtain ⟨x9, e9⟩ : ∃ x, A.tmps.getD 9 undef = x := ⟨_, rfl⟩
    obtain ⟨x10, e10⟩ : ∃ x, A.tmps.getD 10 undef = x := ⟨_, rfl⟩
    obtain ⟨x12, e12⟩ : ∃ x, A.tmps.getD 12 undef = x := ⟨_, rfl⟩
    have e11 := ev7
    have e13 : A.tmps.getD 13 undef = .pointer (some ⟨gm, 2, none⟩) := hhas 9 13 rfl
    have hA : A = putAll [(4, x4), (5, x5), (6, x6), (7, x7), (8, x8), (9, x9), (10, x10), (11, .slice p7 (S.length + 1) c7), (12, x12), (13, .pointer (some ⟨gm, 2, none⟩))] _ := hput _ (by kernel_rfl) (fun j s v hj => match j, hj with
      | 0, hj => by cases Option.some.inj hj; exact e4
      | 1, hj => by cases Option.some.inj hj; exact e5
      | 2, hj => by cases Option.some.inj hj; exact e6
      | 3, hj => by cases Option.some.inj hj; exact e7
      | 4, hj => by cases Option.some.inj hj; exact e8
      | 5, hj => by cases Option.some.inj hj; exact e9
      | 6, hj => by cases Option.some.inj hj; exact e10
      | 7, hj => by cases Option.some.inj hj; exact e11
      | 8, hj => by cases Option.some.inj hj; exact e12
      | 9, hj => by cases Option.some.inj hj; exact e13
      | kk + 10, hj => by simp at hj)
    have h11 : A.tmps[11]?.getD undef = .slice p7 (S.length + 1) c7 := (gd A 11).trans ev7
    have h13 : A.tmps[13]?.getD undef = .pointer (some ⟨gm, 2, none⟩) := (gd A 13).trans (hhas 9 13 rfl)
    have nM2 := (hJ.grown.block _ (lt_of_block nM) hneM).trans nM
    have z2 := (cell_of_row _ _ 2 _ _ _ nM2).trans rfl
    have y2 := frozen_of_row _ _ 2 _ _ nM2
    have hne7 := own_ne own7 nM2 (by decide)
    have nS : (W2.setCell ⟨gm, 2, none⟩ (.slice p7 (S.length + 1) c7)).heap[gm]? = some (.cells #[lv, .int .i64 day, .slice p7 (S.length + 1) c7, .int .i64 k] 75 (0, 0)) := heap_setCell_same W2 gm 2 _ _ _ nM2
    have bS : Below w0.heap.size w0 (W2.setCell ⟨gm, 2, none⟩ (.slice p7 (S.length + 1) c7)) := by
      refine Below.setCell (p := ⟨gm, 2, none⟩) ⟨hJ.grown.os.trans hb1.os, hJ.grown.tape.trans hb1.tape, hJ.grown.output.trans hb1.output, Nat.le_trans hb1.size hJ.grown.size, fun q hq => ?_⟩ hgt _
      refine (hJ.grown.block q (Nat.lt_of_lt_of_le hq hb1.size) fun e => ?_).trans (hb1.block q hq)
      have := (own1.lt _ e.symm).1
      omega
    have own8 : (W2.setCell ⟨gm, 2, none⟩ (.slice p7 (S.length + 1) c7)).ownsRow w0.heap.size 37 23 (.slice p7 (S.length + 1) c7) (S ++ [f]).length (flatS (S ++ [f])) := by
      rw [flatS_snoc, List.length_append, List.length_singleton]
      refine own7.kept (row := some gm) ⟨rfl, rfl, rfl, by simp, fun q hq hr => heap_setCell_other W2 ⟨gm, 2, none⟩ q _ fun e => hr (congrArg some e)⟩ (.inr fun e => hne7 e.symm)
    have HN : Hid (VSt w0 gm lv day (S ++ [f]) k (W2.setCell ⟨gm, 2, none⟩ (.slice p7 (S.length + 1) c7))) := ⟨bS, hgt, _, nS, own8⟩
    have HFS : Hid (∀ (q : Nat) (c : Array Value) (T : TypeId), W.heap[q]? = some (.cells c T (0, 0)) → T ≠ 37 → q ≠ gm → (W2.setCell ⟨gm, 2, none⟩ (.slice p7 (S.length + 1) c7)).heap[q]? = some (.cells c T (0, 0))) := fun q c T hq hT hne => by
      have h1 := HFR.out q c T hq
      exact (heap_setCell_other W2 ⟨gm, 2, none⟩ q _ hne).trans ((hJ.grown.block _ (lt_of_block h1) (own_ne own1 h1 hT)).trans h1)
    have HA := hidv hA
    clear own7 own8 nS bS hJ hhas hA hput hkept ev7 e4 e5 e6 e7 e8 e9 e10 e11 e12 e13
    refine wpOp_step rfl (fun K hK => ?_)
    go_simp
    refine hK _ _ ⟨⟨undef, rfl⟩, ?_⟩
    clear hK h11 h13
    have hA := HA.out
    clear HA
    subst hA
    simp only [putAll_cons, putAll_nil, Act.put, List.setIfInBounds_toArray, List.set_cons_succ, List.set_cons_zero]
    go_wp2_with fail
    exact ⟨rfl, _, results_none rfl _ _ _, rfl, HN.out, HFS.out⟩
theorem wpList_loadM {ops : Array Oper} {rest : List Oper} {op : Oper} {a : Act} {w : World} {Q : Exit → Act → World → Prop} (hgd : op.guard = none) (x : Operand) (ho : op.op = .load 37 x) (b o : Nat) (hx : a.eval x = .pointer (some ⟨b, o, none⟩)) (f : Nat → Bool) (hc : w.rangeAt b o (mv f).toList)
    (h : wpList Tryd.prog ops Q rest (a.put op.dst (.agg (mv f))) w) : wpList Tryd.prog ops Q (op :: rest) a w := by
  refine wpList_load_mid hgd 37 x ho b o hx (mv f).toList _ hc maskType rfl (by rw [mvl_len]; kernel_rfl) ?_
  simpa using h
/-- The last one of a stack. -/
theorem own_take {w : World} {base : Nat} {v : Value} {S : List M} {f : M} (h : w.ownsRow base 37 23 v (S ++ [f]).length (flatS (S ++ [f]))) :
    ∃ g cap, v = .slice (some ⟨g, 0, none⟩) (S.length + 1) cap ∧ S.length + 1 ≤ cap ∧ cap ≤ maxLen ∧ base ≤ g ∧ w.ownsRow base 37 23 (.slice (some ⟨g, 0, none⟩) S.length cap) S.length (flatS S) ∧ w.rangeAt g (S.length * 23) (mv f).toList := by
  obtain ⟨h1, h2⟩ := h
  rw [List.length_append, List.length_singleton] at h2
  rcases h2 with ⟨_, e⟩ | ⟨g, cap, cur, e, hb, hg, hn, hc, hs, hx⟩
  · omega
  · have hfl := flatS_len S
    have e1 : cur.toList.take (S.length * 23) = flatS S := by
      have h3 : (cur.toList.take ((S.length + 1) * 23)).take (S.length * 23) = (flatS (S ++ [f])).take (S.length * 23) := by rw [hx]
      rw [List.take_take, Nat.min_eq_left (by omega), flatS_snoc, List.take_left' hfl] at h3
      exact h3
    refine ⟨g, cap, e, hn, hc, hb, ⟨hfl, .inr ⟨g, cap, cur, rfl, hb, hg, by omega, hc, hs, e1⟩⟩, fun j u hj => ?_⟩
    have hjl : j < 23 := by
      have := (List.getElem?_eq_some_iff.1 hj).1
      rwa [mvl_len] at this
    refine (cell_of_row _ _ _ _ _ _ hg).trans ?_
    have h4 : (cur.toList.take ((S.length + 1) * 23))[S.length * 23 + j]? = (flatS (S ++ [f]))[S.length * 23 + j]? := by rw [hx]
    rw [List.getElem?_take_of_lt (by omega), flatS_snoc, List.getElem?_append_right (by omega), hfl, Nat.add_sub_cancel_left, hj] at h4
    simpa using h4
set_option maxRecDepth 100000 in
set_option maxHeartbeats 4000000 in
theorem take_any (w0 : World) (gm : Nat) (lv : Value) (day k : Int) (S : List M) (f : M) (W : World) (h : VSt w0 gm lv day (S ++ [f]) k W) (hS : S.length ≤ 1000) :
    Calls Tryd.prog 28 #[.pointer (some ⟨gm, 0, none⟩)] W fun e W' => e = .returned (.agg (mv f)) ∧ VSt w0 gm lv day S k W' ∧ ∀ q, q < W.heap.size → q ≠ gm → W'.heap[q]? = W.heap[q]? := by
  obtain ⟨hbel, hgt, sv, nM0, own0⟩ := h
  obtain ⟨g, cap, rfl, hcap, hcm, hgb, own1, hrg⟩ := own_take own0
  have hz := mv_lit
  have hcm' : cap ≤ 9223372036854775807 := by unfold maxLen at hcm; omega
  have hlg : g < W.heap.size := (own0.lt g rfl).2
  have hneM : gm ≠ g := fun e => own_ne own0 nM0 (by decide) (congrArg some e)
  -- the cell of the answer
  have bA := (Below.refl W.heap.size W).alloc (Nat.le_refl _) (.cells (mv fun _ => false) 37)
  have nA := heap_alloc_new W (.cells (mv fun _ => false) 37)
  have nM1 := (bA.block _ (lt_of_block nM0)).trans nM0
  have hbA := hbel.trans (bA.mono hbel.size)
  have own2 := own_below own1 bA
  have hrg1 : (W.alloc (.cells (mv fun _ => false) 37)).rangeAt g (S.length * 23) (mv f).toList := World.rangeAt_alloc hrg _
  have hlm := lt_of_block nM0
  generalize hwA : W.alloc (.cells (mv fun _ => false) 37) = wA at *
  -- the mask
  have bB := (Below.refl wA.heap.size wA).alloc (Nat.le_refl _) (.cells (mv fun _ => false) 37)
  have nB := heap_alloc_new wA (.cells (mv fun _ => false) 37)
  generalize hwB : wA.alloc (.cells (mv fun _ => false) 37) = wB at *
  have bC := below_setRow bB (Nat.le_refl _) (mv f)
  have nC := setRow_heap _ _ _ (mv f) _ _ nB
  have nA2 := (bC.block _ (lt_of_block nA)).trans nA
  have nM2 := (bC.block _ (lt_of_block nM1)).trans nM1
  have own3 := own_below own2 bC
  have hbC := hbA.trans (bC.mono hbA.size)
  generalize hwC : wB.setRow wA.heap.size (mv f) = wC at *
  have hlA := lt_of_block nA
  -- the stack
  have z2 := (cell_of_row _ _ 2 _ _ _ nM1).trans rfl
  have z2c := (cell_of_row _ _ 2 _ _ _ nM2).trans rfl
  have y2c := frozen_of_row _ _ 2 _ _ nM2
  have nD : (wC.setCell ⟨gm, 2, none⟩ (.slice (some ⟨g, 0, none⟩) S.length cap)).heap[gm]? = some (.cells #[lv, .int .i64 day, .slice (some ⟨g, 0, none⟩) S.length cap, .int .i64 k] 75 (0, 0)) := heap_setCell_same wC gm 2 _ _ _ nM2
  have hoD : ∀ q, q ≠ gm → (wC.setCell ⟨gm, 2, none⟩ (.slice (some ⟨g, 0, none⟩) S.length cap)).heap[q]? = wC.heap[q]? := fun q hq => heap_setCell_other wC ⟨gm, 2, none⟩ q _ hq
  have nCD := (hoD wA.heap.size (by have := lt_of_block nM1; omega)).trans nC
  have nAD := (hoD W.heap.size (by omega)).trans nA2
  have hbD : Below w0.heap.size w0 (wC.setCell ⟨gm, 2, none⟩ (.slice (some ⟨g, 0, none⟩) S.length cap)) := hbC.setCell (p := ⟨gm, 2, none⟩) hgt _
  have own4 : (wC.setCell ⟨gm, 2, none⟩ (.slice (some ⟨g, 0, none⟩) S.length cap)).ownsRow w0.heap.size 37 23 (.slice (some ⟨g, 0, none⟩) S.length cap) S.length (flatS S) :=
    own3.kept (row := some gm) ⟨rfl, rfl, rfl, by simp, fun q hq hr => hoD q fun e => hr (congrArg some e)⟩ (.inr fun e => hneM (Option.some.inj e).symm)
  generalize hwD : wC.setCell ⟨gm, 2, none⟩ (.slice (some ⟨g, 0, none⟩) S.length cap) = wD at *
  -- the answer
  have nE := setRow_heap _ _ _ (mv f) _ _ nAD
  have nME := (setRow_other wD W.heap.size gm (mv f) (by omega)).trans nD
  have hlow : w0.heap.size ≤ W.heap.size := hbel.size
  have hbE := below_setRow hbD hlow (mv f)
  have own5 : (wD.setRow W.heap.size (mv f)).ownsRow w0.heap.size 37 23 (.slice (some ⟨g, 0, none⟩) S.length cap) S.length (flatS S) :=
    own4.kept (row := some W.heap.size) ⟨rfl, rfl, rfl, by simp, fun q hq hr => setRow_other wD W.heap.size q (mv f) fun e => hr (congrArg some e)⟩ (.inr fun e => by have e2 : g = W.heap.size := Option.some.inj e; omega)
  have HN : Hid (VSt w0 gm lv day S k (wD.setRow W.heap.size (mv f))) := ⟨hbE, hgt, _, nME, own5⟩
  have HF : Hid (∀ q, q < W.heap.size → q ≠ gm → (wD.setRow W.heap.size (mv f)).heap[q]? = W.heap[q]?) := fun q hq hne => (setRow_other wD W.heap.size q (mv f) (by omega)).trans ((hoD q hne).trans ((bC.block q (by omega)).trans (bA.block q hq)))
  have hn0 : (0 : Int) ≤ (S.length : Int) := by omega
  have hnc : (S.length : Int) < (cap : Int) := by omega
  have hnc1 : S.length ≤ cap := by omega
  have hn1 : (S.length : Int) ≤ 1000 := by omega
  clear own0 own1 own2 own3 own4 own5 hbel hbA hbC hbD hbE bA bB bC nME nD hoD nM0 nM1 nM2 nA nA2 hrg hgb hcm
  generalize S.length = n at *
  go_enter Tryd.func28, Tryd.ntmps28
  go_wp2_with (first
    | (refine wpList_loadM rfl _ rfl g (n * 23) ?r f hrg1 ?_; (case r => rfl))
    | (refine wpList_store_row rfl 37 _ _ rfl _ _ rfl rfl _ _ nB (maskSize _) (by simp [mv_size]) (mv_all _) ?_)
    | (refine wpList_load_row rfl 37 _ rfl _ rfl _ _ _ _ nCD maskType rfl (maskSize _) ?_)
    | (refine wpList_store_row rfl 37 _ _ rfl _ _ rfl rfl _ _ nAD (maskSize _) (by simp [mv_size]) (mv_all _) ?_))
  refine bodyPost_ret (v := .agg (mv f)) ?_ rfl ⟨rfl, HN.out, HF.out⟩
  exact results_cell_row rfl _ _ W.heap.size _ _ _ _ rfl nE maskType rfl (maskSize _)
end Go.Proofs.YtpmobjgnmidolaaDoor
