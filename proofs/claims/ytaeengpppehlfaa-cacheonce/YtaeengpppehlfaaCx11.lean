/- As FlowR's law, where the last operation writes a slot that others read. It speaks of no program. -/
import Derived.Test.YtaeengpppehlfaaCx06
import Derived.Test.YtaeengpppehlfaaCx10
import Derived.Test.YtaeengpppehlfaaCx02
import Derived.Lib.AppendZeros
import Derived.Deep.QuietTactic
import Derived.BigQuiet
namespace Go.Proofs.Ytaeengpppehlfaa
open Go Go.RowKit
section
variable {P : Program} {ops : Array Oper} {Q : Exit → Act → World → Prop} {id : Nat} {a0 : Act} {w : World}
/-- What an operation of the region comes to, in whatever world of which that is said. -/
def StepT (P : Program) (n : Nat) (ops : Array Oper) (Q : Exit → Act → World → Prop) (sl : List Nat) (a0 : Act) (J : (Nat → Bool) → World → Prop) (sp : (Nat → Bool) → Nat → Value → World → Prop) : Prop :=
  ∀ (i s : Nat) (o : Oper) (L : Nat → Bool) (A : Act) (W : World), ops[i]? = some o → sl[i]? = some s → L i = false → (∀ e ∈ o.after, Region.binds .any e = true → L e.on = true) → ClosL ops L → J L W →
    (∀ s, onlyAt ops s n = true → A.tmps.getD s undef = a0.tmps.getD s undef) → (∀ (j s : Nat), sl[j]? = some s → L j = true → sp L j (A.tmps.getD s undef) W) →
    wpOp P ops Q i (fun a' W' => ∃ v, a' = A.put (some s) v ∧ sp (fun k => decide (i = k) || L k) i v W' ∧ J (fun k => decide (i = k) || L k) W' ∧ ∀ j u, j ≠ i → j < sl.length → L j = true → sp L j u W → sp (fun k => decide (i = k) || L k) j u W') A W
theorem wp_region_lastT (J : (Nat → Bool) → World → Prop) (sp : (Nat → Bool) → Nat → Value → World → Prop) (hJ0 : ∀ L : Nat → Bool, (∀ i, i < ops.size → L i = false) → J L w.drew) (hm : P.follows .mixedOrders = true) (hback : backB ops = true) (hdst : dstB ops = true) (hin : inB ops a0.tmps.size = true) (n : Nat) (hn : ops.size = n + 1) (huse : useB ops = true) (sl : List Nat)
    (hds : (ops.toList.take n).map (fun o => o.dst) = sl.map some) (hnd : decide (((ops.toList.take n).map (fun o => o.dst)).Nodup) = true)
    (hstep : StepT P n ops Q sl a0 J sp) (hlast : ∀ (o : Oper) (L : Nat → Bool) (W : World) (A : Act), ops[n]? = some o → (∀ i, i < n → L i = true) → J L W → (∀ (j s : Nat), sl[j]? = some s → sp L j (A.tmps.getD s undef) W) → (∀ s, onlyAt ops s n = true → A.tmps.getD s undef = a0.tmps.getD s undef) →
      (∀ ds : List (Nat × Value), ds.map (fun p => p.1) = sl → (∀ (j s : Nat) (v : Value), ds[j]? = some (s, v) → A.tmps.getD s undef = v) → A = putAll ds a0) →
      wpOp P ops Q n (fun a' W' => (∃ v, a' = A.put o.dst v) ∧ Q .normal a' W') A W) : (Code.region id ops true).wp P Q a0 w := by
  have hnd' : (sl.map some).Nodup := by rw [← hds]; exact of_decide_eq_true hnd
  have hl : sl.length = n := by
    have h := congrArg List.length hds
    simp only [List.length_map, List.length_take, Array.length_toList] at h
    omega
  have atD : ∀ {j : Nat} {p : Oper}, j < n → ops[j]? = some p → ∃ s, sl[j]? = some s ∧ p.dst = some s := fun {j p} hj hp => by
    have h1 : ((ops.toList.take n).map (fun o => o.dst))[j]? = some p.dst := by
      rw [List.getElem?_map, List.getElem?_take_of_lt hj, Array.getElem?_toList, hp]
      rfl
    rw [hds, List.getElem?_map] at h1
    cases hs : sl[j]? with
    | none => rw [hs] at h1; cases h1
    | some s =>
      rw [hs] at h1
      exact ⟨s, rfl, (Option.some.inj h1).symm⟩
  have slNe : ∀ {j k s t : Nat}, sl[j]? = some s → sl[k]? = some t → j ≠ k → s ≠ t := fun {j k s t} hj hk hne e => by
    subst e
    have hj' := (List.getElem?_eq_some_iff.1 hj).1
    have h1 : (sl.map some)[j]? = (sl.map some)[k]? := by rw [List.getElem?_map, List.getElem?_map, hj, hk]
    exact hne ((List.getElem?_inj (by simpa using hj') hnd').1 h1)
  refine wp_region_flow hm hback hdst hin (fun L A W => ClosL ops L ∧ (L n = false → J L W ∧ A.tmps.size = a0.tmps.size ∧ ∀ (j s : Nat), sl[j]? = some s → L j = true → sp L j (A.tmps.getD s undef) W) ∧ (L n = true → Q .normal A W)) (fun _ _ _ => True) ?_ ?_ ?_
  · intro L h
    refine ⟨fun j p hp hj => ?_, fun _ => ⟨hJ0 L h, rfl, fun j s hj hL => ?_⟩, fun h' => ?_⟩
    · have := h j (Array.getElem?_eq_some_iff.1 hp).1
      rw [this] at hj; cases hj
    · have := h j (by have := (List.getElem?_eq_some_iff.1 hj).1; omega)
      rw [this] at hL; cases hL
    · rw [h n (by omega)] at h'; cases h'
  · intro i o L A W ho hLi hdep hJ hdef hkept hhas
    clear hhas
    obtain ⟨hc, hbel, hdone⟩ := hJ
    have hi : i < ops.size := (Array.getElem?_eq_some_iff.1 ho).1
    have hLn : L n = false := by
      cases h : L n with
      | false => rfl
      | true =>
        have := use_all huse hn hc h n i (by omega) (by omega)
        rw [this] at hLi; cases hLi
    obtain ⟨hbw, hsz, hread⟩ := hbel hLn
    have hc' : ClosL ops (fun k => decide (i = k) || L k) := by
      intro j p hp hj e he hb
      show (decide (i = e.on) || L e.on) = true
      by_cases hij : i = j
      · subst hij
        rw [ho] at hp
        cases hp
        rw [hdep e he hb]; simp
      · rw [hc j p hp (by simpa [hij] using hj) e he hb]; simp
    by_cases hin' : i = n
    · subst hin'
      have hall : ∀ j, j < i → L j = true := fun j hj => by
        have := use_all huse hn hc' (L := fun k => decide (i = k) || L k) (by simp) i j (by omega) (by omega)
        simpa [show i ≠ j by omega] using this
      refine wpOp_mono ?_ (hlast o L W A ho hall hbw (fun j s hj => hread j s hj (hall j (by have := (List.getElem?_eq_some_iff.1 hj).1; omega))) (fun s h => hkept s fun j p hp hj => only_ne h hp fun e => by rw [e, hLn] at hj; cases hj) fun ds hd hv => ?_)
      · rintro a' W' ⟨⟨v, hv⟩, hq⟩
        exact ⟨v, hv, fun _ => trivial, fun _ _ _ _ => trivial, hc', fun h => by simp at h, fun _ => hq⟩
      · refine act_is ds hdef hsz (by rw [show ds.map (fun p => some p.1) = (ds.map (fun p => p.1)).map some by rw [List.map_map]; rfl, hd]; exact hnd') (fun s h => hkept s fun j p hp hj e => ?_) (fun j s v hj => hv j s v hj)
        have hjn : j < i := by
          have h1 := (Array.getElem?_eq_some_iff.1 hp).1
          have h2 : j ≠ i := fun e' => by rw [e', hLn] at hj; cases hj
          omega
        obtain ⟨s', hs', hd'⟩ := atD hjn hp
        rw [hd'] at e
        cases e
        rw [← hd, List.getElem?_map] at hs'
        cases hq : ds[j]? with
        | none => rw [hq] at hs'; cases hs'
        | some q =>
          rw [hq] at hs'
          exact h q (List.mem_of_getElem? hq) (Option.some.inj hs')
    · obtain ⟨s, hs, hd⟩ := atD (show i < n by omega) ho
      have hsl : s < A.tmps.size := by
        have q1 := List.all_eq_true.1 hin i (by simpa using hi)
        rw [ho] at q1
        simp only [Option.bind_some, hd] at q1
        rw [hsz]
        simpa using q1
      refine wpOp_mono ?_ (hstep i s o L A W ho hs hLi hdep hc hbw (fun s' h => hkept s' fun j p hp hj => only_ne h hp fun e => by rw [e, hLn] at hj; cases hj) hread)
      rintro a' W' ⟨v, rfl, hv, hJ', hmono⟩
      refine ⟨v, by rw [hd], fun _ => trivial, fun _ _ _ _ => trivial, hc', fun _ => ⟨hJ', by simpa [Act.put] using hsz, fun j t hj hL => ?_⟩, fun h => ?_⟩
      · by_cases hij : i = j
        · subst hij
          rw [hs] at hj
          cases hj
          rw [show (A.put (some s) v).tmps.getD s undef = v from getD_set_same _ _ _ hsl]
          exact hv
        · have hLj : L j = true := by simpa [hij] using hL
          rw [show (A.put (some s) v).tmps.getD t undef = A.tmps.getD t undef from getD_set_other _ _ _ _ (slNe hs hj hij)]
          exact hmono j _ (fun e => hij e.symm) (List.getElem?_eq_some_iff.1 hj).1 hLj (hread j t hj hLj)
      · simp [hin', hLn] at h
  · intro L A W hL hJ hdef hsize hkept hhas
    exact hJ.2.2 (hL n (by omega))
end
end Go.Proofs.Ytaeengpppehlfaa

/- Two masks of the stack become one: what is said meanwhile. -/
namespace Go.Proofs.Ytaeengpppehlfaa
open Go.RowKit Msk Vx

/-- What is said of the world while two masks become one. -/
structure TwoJ (W1 : World) (row : Option Nat) (L : Nat → Bool) (W : World) : Prop where
  grown : W1.grownBy W row
  bel : L 16 = false → Below W1.heap.size W1 W
/-- What the operations yield. -/
def tsp (vals : List Value) (base n : Nat) (xs : List Value) (f : M) (L : Nat → Bool) (i : Nat) (v : Value) (W : World) : Prop :=
  if i = 15 then ∃ g, v = .slice (some ⟨g, 0, none⟩) 1 1 ∧ (L 16 = false → W.heap[g]? = some (.cells (mv f) 25 (0, 0)))
  else if i = 16 then W.ownsRow base 25 23 v (n + 1) (xs ++ (mv f).toList)
  else v = vals.getD i undef
section
variable {vals : List Value} {base n : Nat} {xs : List Value} {f : M} {L L' : Nat → Bool} {W W' W1 : World} {row : Option Nat}
theorem tsp_at {i : Nat} {v : Value} (h : tsp vals base n xs f L i v W) (h1 : i ≠ 15) (h2 : i ≠ 16) : v = vals.getD i undef := by
  unfold tsp at h
  rw [if_neg h1, if_neg h2] at h
  exact h
theorem tsp_15 {v : Value} (h : tsp vals base n xs f L 15 v W) : ∃ g, v = .slice (some ⟨g, 0, none⟩) 1 1 ∧ (L 16 = false → W.heap[g]? = some (.cells (mv f) 25 (0, 0))) := by
  unfold tsp at h
  rw [if_pos rfl] at h
  exact h
theorem tsp_16 {v : Value} (h : tsp vals base n xs f L 16 v W) : W.ownsRow base 25 23 v (n + 1) (xs ++ (mv f).toList) := by
  unfold tsp at h
  rw [if_neg (by decide), if_pos rfl] at h
  exact h
theorem tsp_keep (hL : L' 16 = false → L 16 = false) (hb : Below W.heap.size W W') (j : Nat) (u : Value) (h : tsp vals base n xs f L j u W) : tsp vals base n xs f L' j u W' := by
  unfold tsp at h ⊢
  by_cases h1 : j = 15
  · rw [if_pos h1] at h ⊢
    obtain ⟨g, e, hg⟩ := h
    exact ⟨g, e, fun q => (hb.block _ (lt_of_block (hg (hL q)))).trans (hg (hL q))⟩
  · rw [if_neg h1] at h ⊢
    by_cases h2 : j = 16
    · rw [if_pos h2] at h ⊢
      exact own_below h hb
    · rw [if_neg h2] at h ⊢
      exact h
theorem tsp_app {j : Nat} (hj : j ≠ 16) (u : Value) (h : tsp vals base n xs f L j u W) : tsp vals base n xs f (fun k => decide (16 = k) || L k) j u W' := by
  unfold tsp at h ⊢
  by_cases h1 : j = 15
  · rw [if_pos h1] at h ⊢
    obtain ⟨g, e, hg⟩ := h
    exact ⟨g, e, fun q => (by simp at q)⟩
  · rw [if_neg h1] at h ⊢
    rw [if_neg hj] at h ⊢
    exact h
theorem tsp_mk {i : Nat} (h1 : i ≠ 15) (h2 : i ≠ 16) : tsp vals base n xs f L i (vals.getD i undef) W := by
  unfold tsp
  rw [if_neg h1, if_neg h2]
theorem tsp_mk15 {g : Nat} (hg : L 16 = false → W.heap[g]? = some (.cells (mv f) 25 (0, 0))) : tsp vals base n xs f L 15 (.slice (some ⟨g, 0, none⟩) 1 1) W := by
  unfold tsp
  rw [if_pos rfl]
  exact ⟨g, rfl, hg⟩
theorem tsp_mk16 {v : Value} (h : W.ownsRow base 25 23 v (n + 1) (xs ++ (mv f).toList)) : tsp vals base n xs f L 16 v W := by
  unfold tsp
  rw [if_neg (by decide), if_pos rfl]
  exact h
theorem TwoJ.same (h : TwoJ W1 row L W) (i : Nat) (hi : i ≠ 16) : TwoJ W1 row (fun k => decide (i = k) || L k) W :=
  ⟨h.grown, fun e => h.bel (by simpa [hi] using e)⟩
theorem TwoJ.on (h : TwoJ W1 row L W) (i : Nat) (hi : i ≠ 16) (hb : Below W.heap.size W W') : TwoJ W1 row (fun k => decide (i = k) || L k) W' :=
  ⟨grown_below h.grown hb, fun e => (h.bel (by simpa [hi] using e)).trans (hb.mono (h.bel (by simpa [hi] using e)).size)⟩
theorem TwoJ.app (h : TwoJ W1 row L W) (hg : W.grownBy W' row) : TwoJ W1 row (fun k => decide (16 = k) || L k) W' :=
  ⟨grown_trans h.grown hg, fun e => (by simp at e)⟩
theorem TwoJ.start (hL : W = W1.drew) : TwoJ W1 row L W := by
  subst hL
  exact ⟨⟨rfl, rfl, rfl, Nat.le_refl _, fun _ _ _ => rfl⟩, fun _ => (Below.refl _ _).drew⟩
end
/-- Two masks at a stack's end. -/
theorem own_two {w : World} {base c : Nat} {p : Option Addr} {S S0 : List M} {f1 f2 : M} (h : w.ownsRow base 25 23 (.slice p S.length c) S.length (flatS S)) (hS : S = S0 ++ [f1, f2]) :
    ∃ g, p = some ⟨g, 0, none⟩ ∧ S.length = S0.length + 2 ∧ S0.length + 2 ≤ c ∧ c ≤ maxLen ∧ w.ownsRow base 25 23 (.slice (some ⟨g, 0, none⟩) S0.length c) S0.length (flatS S0) ∧ w.rangeAt g (S0.length * 23) (mv f1).toList ∧ w.rangeAt g ((S0.length + 1) * 23) (mv f2).toList := by
  have hS' : S = (S0 ++ [f1]) ++ [f2] := by rw [hS]; simp
  rw [hS'] at h ⊢
  obtain ⟨g, cap, e1, hc1, hc2, _, own7, rg2⟩ := own_take h
  injection e1 with e1 e2 e3
  subst e1 e3
  obtain ⟨g', cap', e4, _, _, _, own8, rg1⟩ := own_take own7
  injection e4 with e4 _ e5
  injection e4 with e4
  injection e4 with e4
  subst e4 e5
  have hl : (S0 ++ [f1]).length = S0.length + 1 := by simp
  rw [hl] at hc1 rg2
  exact ⟨g, rfl, by simp, hc1, hc2, own8, rg1, rg2⟩
theorem own_last {w : World} {base c : Nat} {p : Option Addr} {S S0 : List M} {f : M} (h : w.ownsRow base 25 23 (.slice p S.length c) S.length (flatS S)) (hS : S = S0 ++ [f]) :
    ∃ g, p = some ⟨g, 0, none⟩ ∧ S.length = S0.length + 1 ∧ S0.length + 1 ≤ c ∧ c ≤ maxLen ∧ w.rangeAt g (S0.length * 23) (mv f).toList := by
  rw [hS] at h ⊢
  obtain ⟨g, cap, e1, hc1, hc2, _, own7, rg2⟩ := own_take h
  injection e1 with e1 e2 e3
  subst e1 e3
  exact ⟨g, rfl, by simp, hc1, hc2, rg2⟩
theorem rangeAt_below {w w' : World} {g o : Nat} {xs : List Value} (h : w.rangeAt g o xs) (hb : Below w.heap.size w w') : w'.rangeAt g o xs := fun j v hj => by
  have hc := h j v hj
  exact (hb.cell (block_lt_of_cell hc)).trans hc
theorem wp_loadM {op : Oper} {a : Act} {w : World} {K : Act → World → Prop} {Q : Exit → Act → World → Prop} (x : Operand) (ho : op.op = .load 25 x) (b o : Nat) (hx : a.eval x = .pointer (some ⟨b, o, none⟩)) (f : M) (hc : w.rangeAt b o (mv f).toList) (h : K (a.put op.dst (.agg (mv f))) w) : op.wp Try.prog a w K Q := by
  refine wp_load_mid 25 x ho b o hx (mv f).toList _ hc maskType rfl (by rw [mvl_len]; kernel_rfl) ?_
  simpa using h
end Go.Proofs.Ytaeengpppehlfaa

/- What is kept, in memory; where it is found: slices.IndexFunc with the closure of cache.Get. -/
namespace Go.Proofs.Ytaeengpppehlfaa
open Go.RowKit Msk Vx

def kv (k : Kp) : Array Value := #[.int .i64 k.r, .int .i64 k.d, .int .i64 k.v] ++ mv k.m
theorem kv_size (k : Kp) : (kv k).size = 26 := by simp [kv, mv_size]
theorem kvl_len (k : Kp) : (kv k).toList.length = 26 := by rw [Array.length_toList]; exact kv_size k
theorem kv_all (k : Kp) : (kv k).all (·.oneCell') = true := by
  unfold kv
  rw [Array.all_append, mv_all]
  simp [Value.oneCell']
theorem kv_0 (k : Kp) : (kv k)[0]? = some (.int .i64 k.r) := by
  unfold kv
  rw [Array.getElem?_append_left (by simp)]
  rfl
theorem kv_1 (k : Kp) : (kv k)[1]? = some (.int .i64 k.d) := by
  unfold kv
  rw [Array.getElem?_append_left (by simp)]
  rfl
theorem kv_2 (k : Kp) : (kv k)[2]? = some (.int .i64 k.v) := by
  unfold kv
  rw [Array.getElem?_append_left (by simp)]
  rfl
theorem kvl_one (k : Kp) : ∀ u ∈ (kv k).toList, u.oneCell' = true := by
  intro u hu
  have := kv_all k
  rw [Array.all_eq_true_iff_forall_mem] at this
  exact this u (Array.mem_def.2 hu)
theorem keptType : Try.prog.underlying 51 = some (.struct (Try.prog.fieldsOf 51)) := by kernel_rfl
theorem keptSize (k : Kp) : (Try.prog.info? 51).map (·.size) = some (kv k).size := by rw [kv_size]; kernel_rfl
theorem keptSizeL (k : Kp) : (Try.prog.info? 51).map (·.size) = some (kv k).toList.length := by rw [kvl_len]; kernel_rfl
def flatK (l : List Kp) : List Value := l.flatMap fun k => (kv k).toList
theorem flatK_nil : flatK [] = [] := rfl
theorem flatK_append (l l' : List Kp) : flatK (l ++ l') = flatK l ++ flatK l' := by unfold flatK; rw [List.flatMap_append]
theorem flatK_one (k : Kp) : flatK [k] = (kv k).toList := by simp [flatK]
theorem flatK_len : ∀ l : List Kp, (flatK l).length = l.length * 26
  | [] => rfl
  | k :: l => by
    have h := flatK_len l
    have e : flatK (k :: l) = (kv k).toList ++ flatK l := rfl
    rw [e, List.length_append, h, kvl_len, List.length_cons]
    omega
theorem flatK_all : ∀ (l : List Kp), ∀ u ∈ flatK l, u.oneCell' = true := fun l u hu => by
  unfold flatK at hu
  rw [List.mem_flatMap] at hu
  obtain ⟨k, _, h⟩ := hu
  exact kvl_one k u h
/-- Parts of what lies in a row. -/
theorem range_left {w : World} {g o : Nat} {xs ys : List Value} (h : w.rangeAt g o (xs ++ ys)) : w.rangeAt g o xs := fun j v hj =>
  h j v (by rw [List.getElem?_append_left (List.getElem?_eq_some_iff.1 hj).1]; exact hj)
theorem range_right {w : World} {g o : Nat} {xs ys : List Value} (h : w.rangeAt g o (xs ++ ys)) : w.rangeAt g (o + xs.length) ys := fun j v hj => by
  have := h (xs.length + j) v (by rw [List.getElem?_append_right (by omega), Nat.add_sub_cancel_left]; exact hj)
  rw [← Nat.add_assoc] at this
  exact this
/-- A row of what is kept, in memory; where there is none, anywhere. -/
def KRow (B : Nat) (w : World) (v : Value) (l : List Kp) : Prop := ∃ p c, v = .slice p l.length c ∧ l.length ≤ c ∧ c ≤ maxLen ∧ (l ≠ [] → ∃ g o, p = some ⟨g, o, none⟩ ∧ B ≤ g ∧ w.rangeAt g o (flatK l))
theorem KRow.later {B : Nat} {w w' : World} {v : Value} {l : List Kp} (h : KRow B w v l) (hb : Below w.heap.size w w') : KRow B w' v l := by
  obtain ⟨p, c, e, h1, h2, h3⟩ := h
  refine ⟨p, c, e, h1, h2, fun hn => ?_⟩
  obtain ⟨g, o, hp, hB, hr⟩ := h3 hn
  exact ⟨g, o, hp, hB, rangeAt_below hr hb⟩
theorem KRow.low {B B' : Nat} {w : World} {v : Value} {l : List Kp} (h : KRow B w v l) (hb : B' ≤ B) : KRow B' w v l := by
  obtain ⟨p, c, e, h1, h2, h3⟩ := h
  refine ⟨p, c, e, h1, h2, fun hn => ?_⟩
  obtain ⟨g, o, hp, hB, hr⟩ := h3 hn
  exact ⟨g, o, hp, Nat.le_trans hb hB, hr⟩
theorem range_at {w : World} {g o : Nat} {l : List Kp} (h : w.rangeAt g o (flatK l)) {j : Nat} {k : Kp} (hj : l[j]? = some k) : w.rangeAt g (o + j * 26) (kv k).toList := by
  have hjl := (List.getElem?_eq_some_iff.1 hj).1
  have e : l = l.take j ++ ([k] ++ l.drop (j + 1)) := by
    conv => lhs; rw [← List.take_append_drop j l]
    congr 1
    rw [List.drop_eq_getElem_cons hjl, (List.getElem?_eq_some_iff.1 hj).2]
    rfl
  rw [e, flatK_append, flatK_append, flatK_one] at h
  have h1 := range_left (range_right h)
  rw [flatK_len, List.length_take, Nat.min_eq_left (by omega)] at h1
  exact h1
theorem KRow.at {B : Nat} {w : World} {p : Option Addr} {n c : Nat} {l : List Kp} (h : KRow B w (.slice p n c) l) {j : Nat} {k : Kp} (hj : l[j]? = some k) : ∃ g o, p = some ⟨g, o, none⟩ ∧ w.rangeAt g (o + j * 26) (kv k).toList := by
  obtain ⟨p', c', e, _, _, h3⟩ := h
  injection e with e1 _ _
  subst e1
  obtain ⟨g, o, hp, _, hr⟩ := h3 (by rintro rfl; simp at hj)
  exact ⟨g, o, hp, range_at hr hj⟩
theorem wpList_loadK {ops : Array Oper} {rest : List Oper} {op : Oper} {a : Act} {w : World} {Q : Exit → Act → World → Prop} (hgd : op.guard = none) (x : Operand) (ho : op.op = .load 51 x) (b o : Nat) (hx : a.eval x = .pointer (some ⟨b, o, none⟩)) (k : Kp) (hc : w.rangeAt b o (kv k).toList)
    (h : wpList Try.prog ops Q rest (a.put op.dst (.agg (kv k))) w) : wpList Try.prog ops Q (op :: rest) a w := by
  refine wpList_load_mid hgd 51 x ho b o hx (kv k).toList _ hc keptType rfl (keptSizeL k) ?_
  simpa using h
theorem find_one (k : Kp) (g8 g9 : Nat) (rule day : Int) (w : World) (h8 : w.heap[g8]? = some (.cells #[.int .i64 rule] 3 (0, 0))) (h9 : w.heap[g9]? = some (.cells #[.int .i64 day] 3 (0, 0))) :
    Calls Try.prog 44 #[.agg (kv k), .pointer (some ⟨g8, 0, none⟩), .pointer (some ⟨g9, 0, none⟩)] w fun e w' => e = .returned (.bool (decide (k.r = rule ∧ k.d = day))) ∧ Below w.heap.size w w' := by
  have bA := (Below.refl w.heap.size w).alloc (Nat.le_refl _) (.cells (kv k) 51)
  have nA := heap_alloc_new w (.cells (kv k) 51)
  have z8 := (cell_of_row _ _ 0 _ _ _ ((bA.block _ (lt_of_block h8)).trans h8)).trans rfl
  have z9 := (cell_of_row _ _ 0 _ _ _ ((bA.block _ (lt_of_block h9)).trans h9)).trans rfl
  have y0 := (cell_of_row _ _ 0 _ _ _ nA).trans (kv_0 k)
  have y1 := (cell_of_row _ _ 1 _ _ _ nA).trans (kv_1 k)
  generalize hwA : w.alloc (.cells (kv k) 51) = wA at *
  obtain ⟨r, d, v, m⟩ := k
  dsimp only at *
  by_cases hr : r = rule
  · by_cases hd : d = day
    · rw [decide_eq_true (⟨hr, hd⟩ : r = rule ∧ d = day)]
      have e1 : (r == rule) = true := by simp [hr]
      have e2 : (d == day) = true := by simp [hd]
      clear hr hd h8 h9 nA
      go_enter Try.func44, Try.ntmps44
      go_wp2_with fail
      go_ret
      exact ⟨rfl, bA⟩
    · rw [decide_eq_false (fun e : r = rule ∧ d = day => hd e.2)]
      have e1 : (r == rule) = true := by simp [hr]
      have e2 : (d == day) = false := by simp [hd]
      clear hr hd h8 h9 nA
      go_enter Try.func44, Try.ntmps44
      go_wp2_with fail
      go_ret
      exact ⟨rfl, bA⟩
  · rw [decide_eq_false (fun e : r = rule ∧ d = day => hr e.1)]
    have e1 : (r == rule) = false := by simp [hr]
    clear hr h8 h9 nA
    go_enter Try.func44, Try.ntmps44
    go_wp2_with fail
    go_ret
    exact ⟨rfl, bA⟩
set_option maxRecDepth 100000 in
set_option maxHeartbeats 1000000 in
theorem find_any (l : List Kp) (v : Value) (g8 g9 : Nat) (rule day : Int) (w : World) (h : KRow 0 w v l) (h8 : w.heap[g8]? = some (.cells #[.int .i64 rule] 3 (0, 0))) (h9 : w.heap[g9]? = some (.cells #[.int .i64 day] 3 (0, 0))) :
    Calls Try.prog 43 #[v, .func (.func 44) #[] #[.pointer (some ⟨g8, 0, none⟩), .pointer (some ⟨g9, 0, none⟩)]] w fun e w' => e = .returned (.int .i64 (idxK rule day l 0)) ∧ Below w.heap.size w w' := by
  have HK := hidv h
  obtain ⟨p, c, rfl, hlc, hcm, _⟩ := h
  have hlm : l.length < 9223372036854775808 := by unfold maxLen at hcm; omega
  clear hlc hcm
  go_enter Try.func43, Try.ntmps43
  go_wp2_with fail
  go_loopw [5, 8] (fun _ t wr => ∃ j : Nat, t = .int .i64 (j : Int) ∧ j ≤ l.length ∧ idxK rule day l 0 = idxK rule day (l.drop j) j ∧ Below w.heap.size w wr) (fun _ t _ => l.length - (intOf t).toNat)
  case atStart => exact ⟨0, rfl, by omega, rfl, Below.refl _ _⟩
  case round =>
    obtain ⟨j, rfl, hj, hX, hb⟩ := hrel
    have hj0 : (0 : Int) ≤ (j : Int) := by omega
    by_cases hlt : j < l.length
    · have hlt' : (j : Int) < (l.length : Int) := by omega
      obtain ⟨k, hjk⟩ : ∃ p, l[j]? = some p := ⟨l[j], List.getElem?_eq_getElem hlt⟩
      rw [idxK_step hjk] at hX
      obtain ⟨g, o, hpe, hr⟩ := HK.out.at hjk
      subst hpe
      have hr2 := rangeAt_below hr hb
      have c1 := find_one k g8 g9 rule day wr ((hb.block _ (lt_of_block h8)).trans h8) ((hb.block _ (lt_of_block h9)).trans h9)
      clear hr hjk
      go_wp2_with (refine wpList_loadK rfl _ rfl g (o + j * 26) rfl k hr2 ?_)
      refine c1.mono ?_
      rintro e w1 ⟨rfl, b1⟩
      have hb1 := hb.trans (b1.mono hb.size)
      clear c1 b1 hr2 hb
      by_cases hm : k.r = rule ∧ k.d = day
      · rw [if_pos hm] at hX
        have HX := hidv hX
        rw [decide_eq_true hm]
        clear hX hm
        go_wp2_with fail
        go_ret
        exact ⟨by (rw [HX.out]) <;> rfl, hb1⟩
      · rw [if_neg hm] at hX
        have HX := hidv hX
        rw [decide_eq_false hm]
        clear hX hm
        go_wp2_with fail
        go_roundw
        case rel => exact ⟨j + 1, by go_num, by omega, HX.out, hb1⟩
        case measure => simp [intOf]; omega
    · have hlt' : ¬ (j : Int) < (l.length : Int) := by omega
      have HX : Hid (idxK rule day l 0 = -1) := by
        show _ = _
        rw [hX, List.drop_of_length_le (by omega)]
        rfl
      clear hX
      go_wp2_with fail
      go_ret
      exact ⟨by (rw [HX.out]) <;> rfl, hb⟩
end Go.Proofs.Ytaeengpppehlfaa

/- Rows of what is kept are put together: slices.Grow, slices.Concat, cache.renewed. -/
namespace Go.Proofs.Ytaeengpppehlfaa
open Go.RowKit Msk Vx

theorem keptInfo : (Try.prog.info? 51).map (fun i => (i.zero, i.size, i.bytes)) = some (some (.agg (kv ⟨0, 0, 0, fun _ => false⟩)), 26, 208) := by kernel_rfl
theorem keptsType : Try.prog.underlying 38 = some (.slice 51) := by kernel_rfl
theorem ownK_slice {w : World} {base n : Nat} {sv : Value} {xs : List Value} (h : w.ownsRow base 51 26 sv n xs) : ∃ p c, sv = .slice p n c ∧ n ≤ c := by
  rcases h.2 with ⟨e, e2⟩ | ⟨b, cap, cur, e, _, _, hn, _⟩
  · exact ⟨none, 0, by rw [e, e2], by omega⟩
  · exact ⟨_, cap, e, hn⟩
/-- What is one's own reads as a row. -/
theorem KRow.of_own {w : World} {base : Nat} {v : Value} {l : List Kp} (h : w.ownsRow base 51 26 v l.length (flatK l)) : KRow base w v l := by
  rcases h.2 with ⟨e, e2⟩ | ⟨g, cap, cur, e, hb, hg, hn, hc, hs, hx⟩
  · exact ⟨none, 0, by rw [e, e2], by omega, by unfold maxLen; omega, fun q => absurd (List.length_eq_zero_iff.1 e2) q⟩
  · refine ⟨_, cap, e, hn, hc, fun _ => ⟨g, 0, rfl, hb, fun j u hj => ?_⟩⟩
    have hjl : j < l.length * 26 := by
      have := (List.getElem?_eq_some_iff.1 hj).1
      rwa [flatK_len] at this
    refine (cell_of_row _ _ _ _ _ _ hg).trans ?_
    rw [← hx, List.getElem?_take_of_lt hjl, Array.getElem?_toList] at hj
    rw [Nat.zero_add]
    exact hj
theorem run_append_none (w : World) (ty : TypeId) (base p : Option Addr) (n cap c : Nat) (hle : n ≤ cap) : (Builtin.append_ #[38, 38] ty #[.slice base n cap, .slice p 0 c]).run Try.prog w = .ok (.slice base n cap) w := by
  obtain ⟨i0, hi, hz0, hz1, hz2⟩ := info_parts keptInfo
  cases base <;> cases p <;> simp [Builtin.append_, run_underlying keptsType, sizeOf, typeInfo, hi, hle, Builtin.lenOf, Builtin.firstCells, storeCells, loadCells, loadCellsFrom]
section
variable {ops : Array Oper} {rest : List Oper} {op : Oper} {a : Act} {w : World} {Q : Exit → Act → World → Prop}
theorem wpList_appendK (hgd : op.guard = none) (s x : Operand) (ho : op.op = .call { callee := .builtin .append, args := #[s, x], argTypes := #[38, 38] }) (base : Nat) (S l : List Kp) (v vx : Value) (hs : a.eval s = v) (hown : w.ownsRow base 51 26 v S.length (flatK S)) (hx : a.eval x = vx) (hk : KRow 0 w vx l) (hS : S.length + l.length ≤ 676622540160) (hb : base ≤ w.heap.size)
    (h : ∀ v' w', w'.ownsRow base 51 26 v' (S ++ l).length (flatK (S ++ l)) → w.grownBy w' v.ownBlock → wpList Try.prog ops Q rest (a.put op.dst v') w') : wpList Try.prog ops Q (op :: rest) a w := by
  obtain ⟨p, c, e, hlc, hcm, hr⟩ := hk
  subst e
  by_cases hl : l = []
  · subst hl
    obtain ⟨p1, c1, e1, hn1⟩ := ownK_slice hown
    subst e1
    rw [List.append_nil] at h
    refine Go.Lib.wpList_append_run w hgd s x _ _ ho _ _ hs hx _ _ (run_append_none w _ p1 p _ c1 c hn1) (h _ _ hown ⟨rfl, rfl, rfl, Nat.le_refl _, fun _ _ _ => rfl⟩)
  · obtain ⟨g, o, hp, _, hrg⟩ := hr hl
    subst hp
    obtain ⟨i0, hi, hz0, hz1, hz2⟩ := info_parts keptInfo
    refine wpList_append_own (w := w) hgd s x 38 ho base 51 i0 _ 26 208 keptsType hi hz0 hz1 hz2 (by exact kv_size _) (by decide) v S.length (flatK S) hs hown ⟨g, o, none⟩ l.length c (flatK l) hx (flatK_len l) ?_ (flatK_all l) (by unfold maxLen; omega) (by omega) hb fun v' w' h1 h2 _ => ?_
    · intro q u hq
      rw [in_add9]
      exact hrg q u hq
    · refine h v' w' ?_ h2
      rw [List.length_append, flatK_append]
      exact h1
end
set_option maxRecDepth 100000 in
set_option maxHeartbeats 1000000 in
theorem growK (n : Nat) (w : World) (h0 : 0 < n) (h1 : n ≤ 676622540160) :
    Calls Try.prog 75 #[.slice none 0 0, .int .i64 (n : Int)] w fun e w' => ∃ v, e = .returned v ∧ w'.ownsRow w.heap.size 51 26 v 0 [] ∧ Below w.heap.size w w' := by
  obtain ⟨i0, hi, hz0, hz1, hz2⟩ := info_parts keptInfo
  have hrun := fun ty => Go.Lib.run_append_nil_zeros (P := Try.prog) w 38 3 ty 51 i0 _ .i64 .i64 keptsType (by kernel_rfl) hi hz0 n h0 (by omega) (by omega) (by rw [hz2]; omega)
  have hge := grownCap_ge w n 0 51
  have hle := grownCap_le_maxLen w n 0 51 (by unfold maxLen; omega)
  have hsz : (Builtin.zeroCells (Value.agg (kv ⟨0, 0, 0, fun _ => false⟩)).cells n ++ Builtin.zeroCells (Value.agg (kv ⟨0, 0, 0, fun _ => false⟩)).cells (grownCap w n 0 51 - n)).size = grownCap w n 0 51 * 26 := by
    rw [Array.size_append, size_zeroCells, size_zeroCells]
    have e : (Value.agg (kv ⟨0, 0, 0, fun _ => false⟩)).cells.size = 26 := kv_size _
    rw [e]
    omega
  have HN : Hid ((w.drew.alloc (.cells (Builtin.zeroCells (Value.agg (kv ⟨0, 0, 0, fun _ => false⟩)).cells n ++ Builtin.zeroCells (Value.agg (kv ⟨0, 0, 0, fun _ => false⟩)).cells (grownCap w n 0 51 - n)) 51)).ownsRow w.heap.size 51 26 (.slice (some ⟨w.heap.size, 0, none⟩) 0 (grownCap w n 0 51)) 0 []) :=
    ⟨rfl, .inr ⟨w.heap.size, _, _, rfl, Nat.le_refl _, heap_alloc_new _ _, Nat.zero_le _, hle, hsz, by simp⟩⟩
  have hb : Below w.heap.size w (w.drew.alloc (.cells (Builtin.zeroCells (Value.agg (kv ⟨0, 0, 0, fun _ => false⟩)).cells n ++ Builtin.zeroCells (Value.agg (kv ⟨0, 0, 0, fun _ => false⟩)).cells (grownCap w n 0 51 - n)) 51)) := (Below.refl _ _).drew.alloc (Nat.le_refl _) _
  generalize w.drew.alloc (.cells (Builtin.zeroCells (Value.agg (kv ⟨0, 0, 0, fun _ => false⟩)).cells n ++ Builtin.zeroCells (Value.agg (kv ⟨0, 0, 0, fun _ => false⟩)).cells (grownCap w n 0 51 - n)) 51) = w1 at *
  generalize grownCap w n 0 51 = cap at *
  have hn0 : (0 : Int) < (n : Int) := by omega
  have hn1 : (n : Int) ≤ 676622540160 := by omega
  have hcap : cap ≤ 9223372036854775807 := by unfold maxLen at hle; omega
  clear hsz hle
  go_enter Try.func75, Try.ntmps75
  go_wp2_with (refine Go.Lib.wpList_append_run w rfl _ _ _ _ rfl _ _ rfl rfl _ _ (hrun _) ?_)
  go_ret
  exact ⟨_, rfl, HN.out, hb⟩
/-- The first parts, one behind the other. -/
def catK (ps : List (Value × List Kp)) (j : Nat) : List Kp := (ps.take j).flatMap fun p => p.2
theorem catK_zero (ps : List (Value × List Kp)) : catK ps 0 = [] := rfl
theorem catK_step {ps : List (Value × List Kp)} {j : Nat} {p : Value × List Kp} (h : ps[j]? = some p) : catK ps (j + 1) = catK ps j ++ p.2 := by
  unfold catK
  rw [List.take_add_one, h, List.flatMap_append]
  simp
theorem catK_le (ps : List (Value × List Kp)) (j : Nat) : (catK ps j).length ≤ (catK ps ps.length).length := by
  unfold catK
  rw [List.take_length]
  conv => rhs; rw [← List.take_append_drop j ps]
  rw [List.flatMap_append, List.length_append]
  omega
set_option maxRecDepth 100000 in
set_option maxHeartbeats 2000000 in
theorem concat_any (ps : List (Value × List Kp)) (gP oP cP : Nat) (w : World) (hP : ∀ (j : Nat) (p : Value × List Kp), ps[j]? = some p → w.cell? ⟨gP, oP + j, none⟩ = some p.1 ∧ KRow 0 w p.1 p.2) (hps : ps.length ≤ 1000) (h0 : 0 < (catK ps ps.length).length) (h1 : (catK ps ps.length).length ≤ 676622540160) :
    Calls Try.prog 62 #[.slice (some ⟨gP, oP, none⟩) ps.length cP] w fun e w' => ∃ v, e = .returned v ∧ w'.ownsRow w.heap.size 51 26 v (catK ps ps.length).length (flatK (catK ps ps.length)) ∧ Below w.heap.size w w' := by
  have HP := hidv hP
  have hmax := fun j => catK_le ps j
  clear hP
  go_enter Try.func62, Try.ntmps62
  go_wp2_with fail
  go_loopw [3, 5, 11] (fun s _ t wr => ∃ j : Nat, s = .int .i64 ((catK ps j).length : Int) ∧ t = .int .i64 (j : Int) ∧ j ≤ ps.length ∧ wr = w) (fun _ _ t _ => ps.length - (intOf t).toNat)
  case atStart => exact ⟨0, rfl, rfl, by omega, rfl⟩
  case round =>
    obtain ⟨j, rfl, rfl, hj, hwr⟩ := hrel
    replace hwr := hwr.symm
    subst hwr
    have hj0 : (0 : Int) ≤ (j : Int) := by omega
    by_cases hlt : j < ps.length
    · have hlt' : (j : Int) < (ps.length : Int) := by omega
      obtain ⟨p, hjp⟩ : ∃ p, ps[j]? = some p := ⟨ps[j], List.getElem?_eq_getElem hlt⟩
      obtain ⟨hc, hk⟩ := HP.out j p hjp
      have e := catK_step hjp
      have m1 := hmax (j + 1)
      rw [e, List.length_append] at m1
      obtain ⟨vp, lp⟩ := p
      obtain ⟨pp, cp, hve, _, _, _⟩ := hk
      dsimp only at hc hve e m1
      subst hve
      have HE : Hid ((catK ps j).length + lp.length = (catK ps (j + 1)).length) := by show _ = _; rw [e, List.length_append]
      clear e hjp
      have hs1 : ((catK ps j).length : Int) + (lp.length : Int) ≤ 676622540160 := by omega
      have hs0 : (0 : Int) ≤ ((catK ps j).length : Int) + (lp.length : Int) := by omega
      generalize (catK ps j).length = sj at *
      generalize lp.length = nj at *
      clear m1 hmax
      go_wp2_with fail
      go_roundw
      case rel => exact ⟨j + 1, by (rw [← HE.out]) <;> go_num, by go_num, by omega, trivial⟩
      case measure => simp [intOf]; omega
    · have hlt' : ¬ (j : Int) < (ps.length : Int) := by omega
      have ej : j = ps.length := by omega
      subst ej
      have c1 := growK (catK ps ps.length).length w h0 h1
      go_wp2_with fail
      refine c1.mono ?_
      rintro e w1 ⟨v1, rfl, own1, b1⟩
      obtain ⟨p1, q1, rfl, _⟩ := ownK_slice own1
      clear c1
      go_wp2_with fail
      go_loopw [6, 8, 27] (fun s _ t wr => ∃ j : Nat, t = .int .i64 (j : Int) ∧ j ≤ ps.length ∧ wr.ownsRow w.heap.size 51 26 s (catK ps j).length (flatK (catK ps j)) ∧ Below w.heap.size w wr) (fun _ _ t _ => ps.length - (intOf t).toNat)
      case atStart => exact ⟨0, rfl, by omega, own1, b1⟩
      case round =>
        obtain ⟨j, rfl, hj, own2, b2⟩ := hrel
        have hj0 : (0 : Int) ≤ (j : Int) := by omega
        obtain ⟨p2, q2, rfl, _⟩ := ownK_slice own2
        by_cases hlt : j < ps.length
        · have hlt' : (j : Int) < (ps.length : Int) := by omega
          obtain ⟨p, hjp⟩ : ∃ p, ps[j]? = some p := ⟨ps[j], List.getElem?_eq_getElem hlt⟩
          obtain ⟨hc, hk⟩ := HP.out j p hjp
          have e := catK_step hjp
          have m1 := hmax (j + 1)
          rw [e, List.length_append] at m1
          have hk2 := hk.later b2
          have hc2 := (b2.cell (block_lt_of_cell hc)).trans hc
          have hbase := b2.size
          have hm2 : (catK ps j).length + p.2.length ≤ 676622540160 := by omega
          obtain ⟨vp, lp⟩ := p
          dsimp only at hc2 hk2 e hm2
          have HE := hidv e
          have HK2 := hidv hk2
          have HO2 := hidv own2
          have HB2 := hidv b2
          clear e hjp hk hc own1 b1 m1 hk2 own2 b2 hmax
          go_wp2_with (refine wpList_appendK rfl _ _ rfl w.heap.size (catK ps j) lp _ vp rfl HO2.out rfl HK2.out hm2 hbase ?_
                       intro v9 w9 hv9 hg9
                       rw [← HE.out] at hv9
                       have hb9 : Below w.heap.size w w9 := grown_base HB2.out hg9 fun k hk => (HO2.out.lt k hk).1
                       have HO9 := hidv hv9
                       clear HO2 HK2 HB2 HE hv9 hg9)
          go_roundw
          case rel => exact ⟨j + 1, by go_num, by omega, HO9.out, hb9⟩
          case measure => simp [intOf]; omega
        · have hlt' : ¬ (j : Int) < (ps.length : Int) := by omega
          have ej : j = ps.length := by omega
          subst ej
          clear own1 b1
          go_wp2_with fail
          go_ret
          exact ⟨_, rfl, own2, b2⟩
end Go.Proofs.Ytaeengpppehlfaa

/- cache.renewed and cache.latest. -/
namespace Go.Proofs.Ytaeengpppehlfaa
open Go.RowKit Msk Vx

theorem buildK (k : Kp) (W : World) : (Instr.buildSlice 38 1 #[(0, .agg (kv k))]).run Try.prog W = .ok (.slice (some ⟨W.heap.size, 0, none⟩) 1 1) (W.alloc (.cells (kv k) 51)) := by
  kernel_rfl
theorem wpList_buildK {ops : Array Oper} {rest : List Oper} {op : Oper} {a : Act} {w : World} {Q : Exit → Act → World → Prop} (hgd : op.guard = none) (x : Operand) (ho : op.op = .buildSlice 38 1 #[(0, x)]) (k : Kp) (hx : a.eval x = .agg (kv k))
    (h : wpList Try.prog ops Q rest (a.put op.dst (.slice (some ⟨w.heap.size, 0, none⟩) 1 1)) (w.alloc (.cells (kv k) 51))) : wpList Try.prog ops Q (op :: rest) a w :=
  wpList_plain hgd fun _ hK => by
    unfold Oper.wp execOp
    have hb := buildK k w
    simp only [ho, hx, List.map_toArray, List.map_cons, List.map_nil, Sem.run_bind, Sem.run_pure, Result.andThen_ok, hb]
    exact hK _ _ h
theorem KRow.take {B : Nat} {w : World} {p : Option Addr} {n c : Nat} {l : List Kp} (h : KRow B w (.slice p n c) l) (j : Nat) (hj : j ≤ l.length) : KRow B w (.slice p j c) (l.take j) := by
  obtain ⟨p', c', e, h1, h2, h3⟩ := h
  injection e with e1 e2 e3
  subst e1 e3
  refine ⟨p, c, by rw [List.length_take, Nat.min_eq_left hj], by rw [List.length_take]; omega, h2, fun hn => ?_⟩
  obtain ⟨g, o, hp, hB, hr⟩ := h3 (by rintro rfl; simp at hn)
  refine ⟨g, o, hp, hB, ?_⟩
  rw [← List.take_append_drop j l, flatK_append] at hr
  exact range_left hr
theorem KRow.drop {B : Nat} {w : World} {p : Option Addr} {n c : Nat} {l : List Kp} (h : KRow B w (.slice p n c) l) (j : Nat) (hj : j ≤ l.length) : KRow B w (.slice (if c = j then p else Option.map (fun x => x.add (j * 26)) p) (l.length - j) (c - j)) (l.drop j) := by
  obtain ⟨p', c', e, h1, h2, h3⟩ := h
  injection e with e1 e2 e3
  subst e1 e3
  refine ⟨_, c - j, by rw [List.length_drop], by rw [List.length_drop]; omega, by omega, fun hn => ?_⟩
  have hjl : j < l.length := by
    rcases Nat.lt_or_ge j l.length with q | q
    · exact q
    · exact absurd (List.drop_of_length_le q) hn
  obtain ⟨g, o, hp, hB, hr⟩ := h3 (by rintro rfl; simp at hn)
  subst hp
  refine ⟨g, o + j * 26, ?_, hB, ?_⟩
  · rw [if_neg (by omega)]
    show some ((⟨g, o, none⟩ : Addr).add (j * 26)) = _
    rw [in_add9]
  · rw [← List.take_append_drop j l, flatK_append] at hr
    have := range_right hr
    rwa [flatK_len, List.length_take, Nat.min_eq_left hj] at this
theorem KRow.one {w : World} {g : Nat} {k : Kp} (h : w.heap[g]? = some (.cells (kv k) 51 (0, 0))) : KRow 0 w (.slice (some ⟨g, 0, none⟩) 1 1) [k] :=
  ⟨_, 1, rfl, by simp, by unfold maxLen; omega, fun _ => ⟨g, 0, rfl, Nat.zero_le _, fun j u hj => by
    rw [flatK_one] at hj
    refine (cell_of_row _ _ _ _ _ _ h).trans ?_
    rw [Nat.zero_add, ← Array.getElem?_toList]
    exact hj⟩⟩
theorem own_base {w : World} {b b' : Nat} {e : TypeId} {size n : Nat} {v : Value} {xs : List Value} (h : w.ownsRow b' e size v n xs) (hb : b ≤ b') : w.ownsRow b e size v n xs := by
  obtain ⟨h1, h2⟩ := h
  rcases h2 with h2 | ⟨g, cap, cur, e, q, r⟩
  · exact ⟨h1, .inl h2⟩
  · exact ⟨h1, .inr ⟨g, cap, cur, e, Nat.le_trans hb q, r⟩⟩
theorem KRow.none (B : Nat) (w : World) (p : Option Addr) (c : Nat) (hc : c ≤ maxLen) : KRow B w (.slice p 0 c) [] := ⟨p, c, rfl, by simp, hc, fun h => absurd rfl h⟩
set_option maxRecDepth 100000 in
set_option maxHeartbeats 2000000 in
theorem renewed_none (l : List Kp) (v : Value) (i : Int) (hi : i < 0) (k : Kp) (w : World) (h : KRow 0 w v l) (hl : l.length ≤ 676622540150) :
    Calls Try.prog 45 #[v, .int .i64 (i : Int), .agg (kv k)] w fun e w' => ∃ v', e = .returned v' ∧ w'.ownsRow w.heap.size 51 26 v' (l ++ [k]).length (flatK (l ++ [k])) ∧ Below w.heap.size w w' := by
  obtain ⟨R, hR⟩ : ∃ R, l ++ [k] = R := ⟨_, rfl⟩
  rw [hR]
  have bA := (Below.refl w.heap.size w).alloc (Nat.le_refl _) (.cells (kv k) 51)
  have nA := heap_alloc_new w (.cells (kv k) 51)
  have hk1 := h.later bA
  obtain ⟨p, c, rfl, hlc, hcm, _⟩ := h
  have hl0 : (0 : Int) ≤ (l.length : Int) := by omega
  have hl1 : (l.length : Int) ≤ 676622540150 := by omega
  have hcm' : c ≤ 9223372036854775807 := by unfold maxLen at hcm; omega
  generalize hwA : w.alloc (.cells (kv k) 51) = wA at *
  have HR1 : Hid (KRow 0 wA (.slice p l.length c) l) := hk1
  have HR2 : Hid (KRow 0 wA (.slice (if c = l.length then p else Option.map (fun x => x.add (l.length * 26)) p) 0 (c - l.length)) []) := KRow.none _ _ _ _ (by omega)
  have HK := hidv hk1
  have HA := hidv bA
  clear hk1 hcm bA
  go_enter Try.func45, Try.ntmps45
  go_wp2_with fail
  go_quiet (fail)
  generalize (if c = l.length then p else Option.map (fun x => x.add (l.length * 26)) p) = q8 at *
  have bD : Below wA.heap.size wA (wA.drewN nq) := below_drewN (Below.refl _ _) nq
  obtain ⟨wD, hwD⟩ : ∃ q, wA.drewN nq = q := ⟨_, rfl⟩
  rw [hwD] at bD
  rw [hwD]
  have nA2 : wD.heap[w.heap.size]? = some (.cells (kv k) 51 (0, 0)) := (bD.block _ (lt_of_block nA)).trans nA
  have bB := (Below.refl wD.heap.size wD).alloc (Nat.le_refl _) (.cells (kv k) 51)
  have nB := heap_alloc_new wD (.cells (kv k) 51)
  generalize hwB : wD.alloc (.cells (kv k) 51) = wB at *
  have bC := (Below.refl wB.heap.size wB).alloc (Nat.le_refl _) (.cells #[.slice p l.length c, .slice q8 0 (c - l.length), .slice (some ⟨wD.heap.size, 0, none⟩) 1 1] 38)
  have nC := heap_alloc_new wB (.cells #[.slice p l.length c, .slice q8 0 (c - l.length), .slice (some ⟨wD.heap.size, 0, none⟩) 1 1] 38)
  have bAC := bD.trans ((bB.trans (bC.mono bB.size)).mono bD.size)
  have nBC := (bC.block _ (lt_of_block nB)).trans nB
  have r1 : KRow 0 wA (.slice p l.length c) (l) := HR1.out
  have r2 : KRow 0 wA (.slice q8 0 (c - l.length)) ([]) := HR2.out
  have q1 := r1.later bAC
  have q2 := r2.later bAC
  have q3 := KRow.one nBC
  have hbb := HA.out.trans (bAC.mono HA.out.size)
  generalize hwC : wB.alloc (.cells #[.slice p l.length c, .slice q8 0 (c - l.length), .slice (some ⟨wD.heap.size, 0, none⟩) 1 1] 38) = wC at *
  have c1 := concat_any [(.slice p l.length c, l), (.slice q8 0 (c - l.length), []), (.slice (some ⟨wD.heap.size, 0, none⟩) 1 1, [k])] wB.heap.size 0 3 wC (fun j pr hj => by
    match j, hj with
    | 0, hj => cases hj; exact ⟨(cell_of_row _ _ _ _ _ _ nC).trans rfl, q1⟩
    | 1, hj => cases hj; exact ⟨(cell_of_row _ _ _ _ _ _ nC).trans rfl, q2⟩
    | 2, hj => cases hj; exact ⟨(cell_of_row _ _ _ _ _ _ nC).trans rfl, q3⟩
    | j + 3, hj => simp at hj) (by simp) (by first | (simp [catK]; done) | (simp [catK]; omega)) (by simp [catK]; omega)
  have ec : catK [(.slice p l.length c, l), (.slice q8 0 (c - l.length), []), (.slice (some ⟨wD.heap.size, 0, none⟩) 1 1, [k])] 3 = R := by
    rw [← hR]
    simp [catK]
  have c2 : Calls Try.prog 62 #[.slice (some ⟨wB.heap.size, 0, none⟩) 3 3] wC fun e w' => ∃ v, e = .returned v ∧ w'.ownsRow wC.heap.size 51 26 v R.length (flatK R) ∧ Below wC.heap.size wC w' := by
    have := c1
    simp only [List.length_cons, List.length_nil, Nat.zero_add, Nat.reduceAdd, ec] at this
    exact this
  clear hR c1 ec q1 q2 q3 r1 r2 bB bC bAC nBC HA HK HR1 HR2 bD
  go_wp2_with (first
    | (refine wpList_load_row rfl 51 _ rfl _ rfl _ _ _ _ nA2 keptType rfl (keptSize k) ?_)
    | (refine wpList_buildK rfl _ rfl k rfl ?_))
  refine c2.mono ?_
  rintro e w9 ⟨v9, rfl, own9, b9⟩
  have own9' := own_base own9 hbb.size
  have hb9 := hbb.trans (b9.mono hbb.size)
  obtain ⟨p9, c9, rfl, _⟩ := ownK_slice own9
  clear c2 own9 b9 hbb
  go_wp2_with fail
  go_ret
  exact ⟨_, rfl, own9', hb9⟩
set_option maxRecDepth 100000 in
set_option maxHeartbeats 2000000 in
theorem renewed_at (l : List Kp) (v : Value) (i : Nat) (hi : i < l.length) (k : Kp) (w : World) (h : KRow 0 w v l) (hl : l.length ≤ 676622540150) :
    Calls Try.prog 45 #[v, .int .i64 (i : Int), .agg (kv k)] w fun e w' => ∃ v', e = .returned v' ∧ w'.ownsRow w.heap.size 51 26 v' ((l.take i ++ l.drop (i + 1)) ++ [k]).length (flatK ((l.take i ++ l.drop (i + 1)) ++ [k])) ∧ Below w.heap.size w w' := by
  obtain ⟨R, hR⟩ : ∃ R, (l.take i ++ l.drop (i + 1)) ++ [k] = R := ⟨_, rfl⟩
  rw [hR]
  have bA := (Below.refl w.heap.size w).alloc (Nat.le_refl _) (.cells (kv k) 51)
  have nA := heap_alloc_new w (.cells (kv k) 51)
  have hk1 := h.later bA
  obtain ⟨p, c, rfl, hlc, hcm, _⟩ := h
  have hl0 : (0 : Int) ≤ (l.length : Int) := by omega
  have hl1 : (l.length : Int) ≤ 676622540150 := by omega
  have hcm' : c ≤ 9223372036854775807 := by unfold maxLen at hcm; omega
  generalize hwA : w.alloc (.cells (kv k) 51) = wA at *
  have HR1 : Hid (KRow 0 wA (.slice p i c) (l.take i)) := hk1.take i (by omega)
  have HR2 : Hid (KRow 0 wA (.slice (if c = i + 1 then p else Option.map (fun x => x.add ((i + 1) * 26)) p) (l.length - (i + 1)) (c - (i + 1))) (l.drop (i + 1))) := hk1.drop (i + 1) (by omega)
  have hi0 : (0 : Int) ≤ (i : Int) := by omega
  have hi1 : (i : Int) < (l.length : Int) := by omega
  have HK := hidv hk1
  have HA := hidv bA
  clear hk1 hcm bA
  go_enter Try.func45, Try.ntmps45
  go_wp2_with fail
  go_quiet (fail)
  generalize (if c = l.length then p else Option.map (fun x => x.add (l.length * 26)) p) = q8 at *
  have bE : Below wA.heap.size wA (wA.drewN nq) := below_drewN (Below.refl _ _) nq
  obtain ⟨wE, hwE⟩ : ∃ q, wA.drewN nq = q := ⟨_, rfl⟩
  rw [hwE] at bE
  rw [hwE]
  go_wp2_with fail
  go_quiet (fail)
  generalize (if c = i + 1 then p else Option.map (fun x => x.add ((i + 1) * 26)) p) = q9 at *
  have bF : Below wE.heap.size wE (wE.drewN nq) := below_drewN (Below.refl _ _) nq
  obtain ⟨wD, hwD⟩ : ∃ q, wE.drewN nq = q := ⟨_, rfl⟩
  rw [hwD] at bF
  rw [hwD]
  have bD := bE.trans (bF.mono bE.size)
  clear bE bF
  have nA2 : wD.heap[w.heap.size]? = some (.cells (kv k) 51 (0, 0)) := (bD.block _ (lt_of_block nA)).trans nA
  have bB := (Below.refl wD.heap.size wD).alloc (Nat.le_refl _) (.cells (kv k) 51)
  have nB := heap_alloc_new wD (.cells (kv k) 51)
  generalize hwB : wD.alloc (.cells (kv k) 51) = wB at *
  have bC := (Below.refl wB.heap.size wB).alloc (Nat.le_refl _) (.cells #[.slice p i c, .slice q9 (l.length - (i + 1)) (c - (i + 1)), .slice (some ⟨wD.heap.size, 0, none⟩) 1 1] 38)
  have nC := heap_alloc_new wB (.cells #[.slice p i c, .slice q9 (l.length - (i + 1)) (c - (i + 1)), .slice (some ⟨wD.heap.size, 0, none⟩) 1 1] 38)
  have bAC := bD.trans ((bB.trans (bC.mono bB.size)).mono bD.size)
  have nBC := (bC.block _ (lt_of_block nB)).trans nB
  have r1 : KRow 0 wA (.slice p i c) (l.take i) := HR1.out
  have r2 : KRow 0 wA (.slice q9 (l.length - (i + 1)) (c - (i + 1))) (l.drop (i + 1)) := HR2.out
  have q1 := r1.later bAC
  have q2 := r2.later bAC
  have q3 := KRow.one nBC
  have hbb := HA.out.trans (bAC.mono HA.out.size)
  generalize hwC : wB.alloc (.cells #[.slice p i c, .slice q9 (l.length - (i + 1)) (c - (i + 1)), .slice (some ⟨wD.heap.size, 0, none⟩) 1 1] 38) = wC at *
  have c1 := concat_any [(.slice p i c, l.take i), (.slice q9 (l.length - (i + 1)) (c - (i + 1)), l.drop (i + 1)), (.slice (some ⟨wD.heap.size, 0, none⟩) 1 1, [k])] wB.heap.size 0 3 wC (fun j pr hj => by
    match j, hj with
    | 0, hj => cases hj; exact ⟨(cell_of_row _ _ _ _ _ _ nC).trans rfl, q1⟩
    | 1, hj => cases hj; exact ⟨(cell_of_row _ _ _ _ _ _ nC).trans rfl, q2⟩
    | 2, hj => cases hj; exact ⟨(cell_of_row _ _ _ _ _ _ nC).trans rfl, q3⟩
    | j + 3, hj => simp at hj) (by simp) (by first | (simp [catK]; done) | (simp [catK]; omega)) (by simp [catK]; omega)
  have ec : catK [(.slice p i c, l.take i), (.slice q9 (l.length - (i + 1)) (c - (i + 1)), l.drop (i + 1)), (.slice (some ⟨wD.heap.size, 0, none⟩) 1 1, [k])] 3 = R := by
    rw [← hR]
    simp [catK]
  have c2 : Calls Try.prog 62 #[.slice (some ⟨wB.heap.size, 0, none⟩) 3 3] wC fun e w' => ∃ v, e = .returned v ∧ w'.ownsRow wC.heap.size 51 26 v R.length (flatK R) ∧ Below wC.heap.size wC w' := by
    have := c1
    simp only [List.length_cons, List.length_nil, Nat.zero_add, Nat.reduceAdd, ec] at this
    exact this
  clear hR c1 ec q1 q2 q3 r1 r2 bB bC bAC nBC HA HK HR1 HR2 bD
  go_wp2_with (first
    | (refine wpList_load_row rfl 51 _ rfl _ rfl _ _ _ _ nA2 keptType rfl (keptSize k) ?_)
    | (refine wpList_buildK rfl _ rfl k rfl ?_))
  refine c2.mono ?_
  rintro e w9 ⟨v9, rfl, own9, b9⟩
  have own9' := own_base own9 hbb.size
  have hb9 := hbb.trans (b9.mono hbb.size)
  obtain ⟨p9, c9, rfl, _⟩ := ownK_slice own9
  clear c2 own9 b9 hbb
  go_wp2_with fail
  go_ret
  exact ⟨_, rfl, own9', hb9⟩
set_option maxRecDepth 100000 in
set_option maxHeartbeats 1000000 in
theorem latest_any (B : Nat) (l : List Kp) (v : Value) (w : World) (h : KRow B w v l) (hl : l.length ≤ 676622540160) :
    Calls Try.prog 46 #[v] w fun e w' => ∃ v', e = .returned v' ∧ KRow B w' v' (lastN l) ∧ w' = w := by
  have HK := hidv h
  obtain ⟨p, c, rfl, hlc, hcm, _⟩ := h
  have hl0 : (0 : Int) ≤ (l.length : Int) := by omega
  have hl1 : (l.length : Int) ≤ 676622540160 := by omega
  have hcm' : c ≤ 9223372036854775807 := by unfold maxLen at hcm; omega
  unfold lastN
  by_cases h64 : 64 < l.length
  · obtain ⟨j, hj⟩ : ∃ j, l.length - 64 = j := ⟨_, rfl⟩
    rw [hj]
    have HR := hidv (HK.out.drop j (by omega))
    have e1 : (l.length : Int) - 64 = (j : Int) := by omega
    have hw1 : IntKind.i64.wrap ((j : Int)) = (j : Int) := by rw [IntKind.wrap_i64]; omega
    have hj0 : (0 : Int) < (j : Int) := by omega
    have hj1 : j ≤ l.length := by omega
    have hj2 : (j : Int) ≤ (l.length : Int) := by omega
    have hc : ¬ c = j := by omega
    rw [if_neg hc] at HR
    clear HK hcm
    go_enter Try.func46, Try.ntmps46
    go_wp2_with fail
    go_ret
    exact ⟨_, rfl, HR.out, rfl⟩
  · have e0 : l.length - 64 = 0 := by omega
    rw [e0]
    have HR : Hid (KRow B w (.slice p l.length c) (l.drop 0)) := HK.out
    have e1 : (l.length : Int) - 64 ≤ 0 := by omega
    clear HK hcm e0
    go_enter Try.func46, Try.ntmps46
    go_wp2_with fail
    go_ret
    exact ⟨_, rfl, HR.out, rfl⟩
end Go.Proofs.Ytaeengpppehlfaa
