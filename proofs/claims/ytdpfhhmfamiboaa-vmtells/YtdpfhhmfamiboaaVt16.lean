/- As FlowR's law, where the last operation writes a slot that others read. It speaks of no program. -/
import Derived.Test.YtdpfhhmfamiboaaVt06
import Derived.Test.YtdpfhhmfamiboaaVt15
import Derived.Test.YtdpfhhmfamiboaaVt10
namespace Go.Proofs.Ytdpfhhmfamiboaa
open Go Go.RowKit
section
variable {P : Program} {ops : Array Oper} {Q : Exit → Act → World → Prop} {id : Nat} {a0 : Act} {w : World}
/-- What an operation of the region comes to, in whatever world of which that is said. -/
def StepT (P : Program) (n : Nat) (ops : Array Oper) (Q : Exit → Act → World → Prop) (sl : List Nat) (a0 : Act) (J : (Nat → Bool) → World → Prop) (sp : (Nat → Bool) → Nat → Value → World → Prop) : Prop :=
  ∀ (i s : Nat) (o : Oper) (L : Nat → Bool) (A : Act) (W : World), ops[i]? = some o → sl[i]? = some s → L i = false → (∀ e ∈ o.after, Region.binds .any e = true → L e.on = true) → ClosL ops L → J L W →
    (∀ s, onlyAt ops s n = true → A.tmps.getD s undef = a0.tmps.getD s undef) → (∀ (j s : Nat), sl[j]? = some s → L j = true → sp L j (A.tmps.getD s undef) W) →
    wpOp P ops Q i (fun a' W' => ∃ v, a' = A.put (some s) v ∧ sp (fun k => decide (i = k) || L k) i v W' ∧ J (fun k => decide (i = k) || L k) W' ∧ ∀ j u, j ≠ i → j < sl.length → L j = true → sp L j u W → sp (fun k => decide (i = k) || L k) j u W') A W
theorem wp_region_lastT (J : (Nat → Bool) → World → Prop) (sp : (Nat → Bool) → Nat → Value → World → Prop) (hJ0 : ∀ L : Nat → Bool, (∀ i, i < ops.size → L i = false) → J L w.drew) (hm : P.follows .mixedOrders = true) (hback : backB ops = true) (hdst : dstB ops = true) (hin : inB ops a0.tmps.size = true) (n : Nat) (hn : ops.size = n + 1) (huse : useB ops = true) (sl : List Nat)
    (hds : (ops.toList.take n).map (fun o => o.dst) = sl.map some) (hnd : decide (((ops.toList.take n).map (fun o => o.dst)).Nodup) = true)
    (hstep : StepT P n ops Q sl a0 J sp) (hlast : ∀ (o : Oper) (L : Nat → Bool) (W : World) (A : Act), ops[n]? = some o → (∀ i, i < n → L i = true) → J L W → (∀ (j s : Nat), sl[j]? = some s → sp L j (A.tmps.getD s undef) W) → (∀ s, onlyAt ops s n = true → A.tmps.getD s undef = a0.tmps.getD s undef) →
      (∀ ds : List (Nat × Value), ds.map (fun p => p.1) = sl → (∀ (j s : Nat) (v : Value), ds[j]? = some (s, v) → A.tmps.getD s undef = v) → A = putAll ds a0) →
      wpOp P ops Q n (fun a' W' => (∃ v, a' = A.put o.dst v) ∧ Q .normal a' W') A W) : (Code.region id ops true).wp P Q a0 w := by
  have hnd' : (sl.map some).Nodup := by rw [← hds]; exact of_decide_eq_true hnd
  have hl : sl.length = n := by
    have h := congrArg List.length hds
    simp only [List.length_map, List.length_take, Array.length_toList] at h
    omega
  have atD : ∀ {j : Nat} {p : Oper}, j < n → ops[j]? = some p → ∃ s, sl[j]? = some s ∧ p.dst = some s := fun {j p} hj hp => by
    have h1 : ((ops.toList.take n).map (fun o => o.dst))[j]? = some p.dst := by
      rw [List.getElem?_map, List.getElem?_take_of_lt hj, Array.getElem?_toList, hp]
      rfl
    rw [hds, List.getElem?_map] at h1
    cases hs : sl[j]? with
    | none => rw [hs] at h1; cases h1
    | some s =>
      rw [hs] at h1
      exact ⟨s, rfl, (Option.some.inj h1).symm⟩
  have slNe : ∀ {j k s t : Nat}, sl[j]? = some s → sl[k]? = some t → j ≠ k → s ≠ t := fun {j k s t} hj hk hne e => by
    subst e
    have hj' := (List.getElem?_eq_some_iff.1 hj).1
    have h1 : (sl.map some)[j]? = (sl.map some)[k]? := by rw [List.getElem?_map, List.getElem?_map, hj, hk]
    exact hne ((List.getElem?_inj (by simpa using hj') hnd').1 h1)
  refine wp_region_flow hm hback hdst hin (fun L A W => ClosL ops L ∧ (L n = false → J L W ∧ A.tmps.size = a0.tmps.size ∧ ∀ (j s : Nat), sl[j]? = some s → L j = true → sp L j (A.tmps.getD s undef) W) ∧ (L n = true → Q .normal A W)) (fun _ _ _ => True) ?_ ?_ ?_
  · intro L h
    refine ⟨fun j p hp hj => ?_, fun _ => ⟨hJ0 L h, rfl, fun j s hj hL => ?_⟩, fun h' => ?_⟩
    · have := h j (Array.getElem?_eq_some_iff.1 hp).1
      rw [this] at hj; cases hj
    · have := h j (by have := (List.getElem?_eq_some_iff.1 hj).1; omega)
      rw [this] at hL; cases hL
    · rw [h n (by omega)] at h'; cases h'
  · intro i o L A W ho hLi hdep hJ hdef hkept hhas
    clear hhas
    obtain ⟨hc, hbel, hdone⟩ := hJ
    have hi : i < ops.size := (Array.getElem?_eq_some_iff.1 ho).1
    have hLn : L n = false := by
      cases h : L n with
      | false => rfl
      | true =>
        have := use_all huse hn hc h n i (by omega) (by omega)
        rw [this] at hLi; cases hLi
    obtain ⟨hbw, hsz, hread⟩ := hbel hLn
    have hc' : ClosL ops (fun k => decide (i = k) || L k) := by
      intro j p hp hj e he hb
      show (decide (i = e.on) || L e.on) = true
      by_cases hij : i = j
      · subst hij
        rw [ho] at hp
        cases hp
        rw [hdep e he hb]; simp
      · rw [hc j p hp (by simpa [hij] using hj) e he hb]; simp
    by_cases hin' : i = n
    · subst hin'
      have hall : ∀ j, j < i → L j = true := fun j hj => by
        have := use_all huse hn hc' (L := fun k => decide (i = k) || L k) (by simp) i j (by omega) (by omega)
        simpa [show i ≠ j by omega] using this
      refine wpOp_mono ?_ (hlast o L W A ho hall hbw (fun j s hj => hread j s hj (hall j (by have := (List.getElem?_eq_some_iff.1 hj).1; omega))) (fun s h => hkept s fun j p hp hj => only_ne h hp fun e => by rw [e, hLn] at hj; cases hj) fun ds hd hv => ?_)
      · rintro a' W' ⟨⟨v, hv⟩, hq⟩
        exact ⟨v, hv, fun _ => trivial, fun _ _ _ _ => trivial, hc', fun h => by simp at h, fun _ => hq⟩
      · refine act_is ds hdef hsz (by rw [show ds.map (fun p => some p.1) = (ds.map (fun p => p.1)).map some by rw [List.map_map]; rfl, hd]; exact hnd') (fun s h => hkept s fun j p hp hj e => ?_) (fun j s v hj => hv j s v hj)
        have hjn : j < i := by
          have h1 := (Array.getElem?_eq_some_iff.1 hp).1
          have h2 : j ≠ i := fun e' => by rw [e', hLn] at hj; cases hj
          omega
        obtain ⟨s', hs', hd'⟩ := atD hjn hp
        rw [hd'] at e
        cases e
        rw [← hd, List.getElem?_map] at hs'
        cases hq : ds[j]? with
        | none => rw [hq] at hs'; cases hs'
        | some q =>
          rw [hq] at hs'
          exact h q (List.mem_of_getElem? hq) (Option.some.inj hs')
    · obtain ⟨s, hs, hd⟩ := atD (show i < n by omega) ho
      have hsl : s < A.tmps.size := by
        have q1 := List.all_eq_true.1 hin i (by simpa using hi)
        rw [ho] at q1
        simp only [Option.bind_some, hd] at q1
        rw [hsz]
        simpa using q1
      refine wpOp_mono ?_ (hstep i s o L A W ho hs hLi hdep hc hbw (fun s' h => hkept s' fun j p hp hj => only_ne h hp fun e => by rw [e, hLn] at hj; cases hj) hread)
      rintro a' W' ⟨v, rfl, hv, hJ', hmono⟩
      refine ⟨v, by rw [hd], fun _ => trivial, fun _ _ _ _ => trivial, hc', fun _ => ⟨hJ', by simpa [Act.put] using hsz, fun j t hj hL => ?_⟩, fun h => ?_⟩
      · by_cases hij : i = j
        · subst hij
          rw [hs] at hj
          cases hj
          rw [show (A.put (some s) v).tmps.getD s undef = v from getD_set_same _ _ _ hsl]
          exact hv
        · have hLj : L j = true := by simpa [hij] using hL
          rw [show (A.put (some s) v).tmps.getD t undef = A.tmps.getD t undef from getD_set_other _ _ _ _ (slNe hs hj hij)]
          exact hmono j _ (fun e => hij e.symm) (List.getElem?_eq_some_iff.1 hj).1 hLj (hread j t hj hLj)
      · simp [hin', hLn] at h
  · intro L A W hL hJ hdef hsize hkept hhas
    exact hJ.2.2 (hL n (by omega))
end
end Go.Proofs.Ytdpfhhmfamiboaa

/- Two masks of the stack become one: what is said meanwhile. -/
namespace Go.Proofs.Ytdpfhhmfamiboaa
open Go.RowKit Msk Vx

/-- What is said of the world while two masks become one. -/
structure TwoJ (W1 : World) (row : Option Nat) (L : Nat → Bool) (W : World) : Prop where
  grown : W1.grownBy W row
  bel : L 16 = false → Below W1.heap.size W1 W
/-- What the operations yield. -/
def tsp (vals : List Value) (base n : Nat) (xs : List Value) (f : M) (L : Nat → Bool) (i : Nat) (v : Value) (W : World) : Prop :=
  if i = 15 then ∃ g, v = .slice (some ⟨g, 0, none⟩) 1 1 ∧ (L 16 = false → W.heap[g]? = some (.cells (mv f) 25 (0, 0)))
  else if i = 16 then W.ownsRow base 25 23 v (n + 1) (xs ++ (mv f).toList)
  else v = vals.getD i undef
section
variable {vals : List Value} {base n : Nat} {xs : List Value} {f : M} {L L' : Nat → Bool} {W W' W1 : World} {row : Option Nat}
theorem tsp_at {i : Nat} {v : Value} (h : tsp vals base n xs f L i v W) (h1 : i ≠ 15) (h2 : i ≠ 16) : v = vals.getD i undef := by
  unfold tsp at h
  rw [if_neg h1, if_neg h2] at h
  exact h
theorem tsp_15 {v : Value} (h : tsp vals base n xs f L 15 v W) : ∃ g, v = .slice (some ⟨g, 0, none⟩) 1 1 ∧ (L 16 = false → W.heap[g]? = some (.cells (mv f) 25 (0, 0))) := by
  unfold tsp at h
  rw [if_pos rfl] at h
  exact h
theorem tsp_16 {v : Value} (h : tsp vals base n xs f L 16 v W) : W.ownsRow base 25 23 v (n + 1) (xs ++ (mv f).toList) := by
  unfold tsp at h
  rw [if_neg (by decide), if_pos rfl] at h
  exact h
theorem tsp_keep (hL : L' 16 = false → L 16 = false) (hb : Below W.heap.size W W') (j : Nat) (u : Value) (h : tsp vals base n xs f L j u W) : tsp vals base n xs f L' j u W' := by
  unfold tsp at h ⊢
  by_cases h1 : j = 15
  · rw [if_pos h1] at h ⊢
    obtain ⟨g, e, hg⟩ := h
    exact ⟨g, e, fun q => (hb.block _ (lt_of_block (hg (hL q)))).trans (hg (hL q))⟩
  · rw [if_neg h1] at h ⊢
    by_cases h2 : j = 16
    · rw [if_pos h2] at h ⊢
      exact own_below h hb
    · rw [if_neg h2] at h ⊢
      exact h
theorem tsp_app {j : Nat} (hj : j ≠ 16) (u : Value) (h : tsp vals base n xs f L j u W) : tsp vals base n xs f (fun k => decide (16 = k) || L k) j u W' := by
  unfold tsp at h ⊢
  by_cases h1 : j = 15
  · rw [if_pos h1] at h ⊢
    obtain ⟨g, e, hg⟩ := h
    exact ⟨g, e, fun q => (by simp at q)⟩
  · rw [if_neg h1] at h ⊢
    rw [if_neg hj] at h ⊢
    exact h
theorem tsp_mk {i : Nat} (h1 : i ≠ 15) (h2 : i ≠ 16) : tsp vals base n xs f L i (vals.getD i undef) W := by
  unfold tsp
  rw [if_neg h1, if_neg h2]
theorem tsp_mk15 {g : Nat} (hg : L 16 = false → W.heap[g]? = some (.cells (mv f) 25 (0, 0))) : tsp vals base n xs f L 15 (.slice (some ⟨g, 0, none⟩) 1 1) W := by
  unfold tsp
  rw [if_pos rfl]
  exact ⟨g, rfl, hg⟩
theorem tsp_mk16 {v : Value} (h : W.ownsRow base 25 23 v (n + 1) (xs ++ (mv f).toList)) : tsp vals base n xs f L 16 v W := by
  unfold tsp
  rw [if_neg (by decide), if_pos rfl]
  exact h
theorem TwoJ.same (h : TwoJ W1 row L W) (i : Nat) (hi : i ≠ 16) : TwoJ W1 row (fun k => decide (i = k) || L k) W :=
  ⟨h.grown, fun e => h.bel (by simpa [hi] using e)⟩
theorem TwoJ.on (h : TwoJ W1 row L W) (i : Nat) (hi : i ≠ 16) (hb : Below W.heap.size W W') : TwoJ W1 row (fun k => decide (i = k) || L k) W' :=
  ⟨grown_below h.grown hb, fun e => (h.bel (by simpa [hi] using e)).trans (hb.mono (h.bel (by simpa [hi] using e)).size)⟩
theorem TwoJ.app (h : TwoJ W1 row L W) (hg : W.grownBy W' row) : TwoJ W1 row (fun k => decide (16 = k) || L k) W' :=
  ⟨grown_trans h.grown hg, fun e => (by simp at e)⟩
theorem TwoJ.start (hL : W = W1.drew) : TwoJ W1 row L W := by
  subst hL
  exact ⟨⟨rfl, rfl, rfl, Nat.le_refl _, fun _ _ _ => rfl⟩, fun _ => (Below.refl _ _).drew⟩
end
/-- Two masks at a stack's end. -/
theorem own_two {w : World} {base c : Nat} {p : Option Addr} {S S0 : List M} {f1 f2 : M} (h : w.ownsRow base 25 23 (.slice p S.length c) S.length (flatS S)) (hS : S = S0 ++ [f1, f2]) :
    ∃ g, p = some ⟨g, 0, none⟩ ∧ S.length = S0.length + 2 ∧ S0.length + 2 ≤ c ∧ c ≤ maxLen ∧ w.ownsRow base 25 23 (.slice (some ⟨g, 0, none⟩) S0.length c) S0.length (flatS S0) ∧ w.rangeAt g (S0.length * 23) (mv f1).toList ∧ w.rangeAt g ((S0.length + 1) * 23) (mv f2).toList := by
  have hS' : S = (S0 ++ [f1]) ++ [f2] := by rw [hS]; simp
  rw [hS'] at h ⊢
  obtain ⟨g, cap, e1, hc1, hc2, _, own7, rg2⟩ := own_take h
  injection e1 with e1 e2 e3
  subst e1 e3
  obtain ⟨g', cap', e4, _, _, _, own8, rg1⟩ := own_take own7
  injection e4 with e4 _ e5
  injection e4 with e4
  injection e4 with e4
  subst e4 e5
  have hl : (S0 ++ [f1]).length = S0.length + 1 := by simp
  rw [hl] at hc1 rg2
  exact ⟨g, rfl, by simp, hc1, hc2, own8, rg1, rg2⟩
theorem own_last {w : World} {base c : Nat} {p : Option Addr} {S S0 : List M} {f : M} (h : w.ownsRow base 25 23 (.slice p S.length c) S.length (flatS S)) (hS : S = S0 ++ [f]) :
    ∃ g, p = some ⟨g, 0, none⟩ ∧ S.length = S0.length + 1 ∧ S0.length + 1 ≤ c ∧ c ≤ maxLen ∧ w.rangeAt g (S0.length * 23) (mv f).toList := by
  rw [hS] at h ⊢
  obtain ⟨g, cap, e1, hc1, hc2, _, own7, rg2⟩ := own_take h
  injection e1 with e1 e2 e3
  subst e1 e3
  exact ⟨g, rfl, by simp, hc1, hc2, rg2⟩
theorem rangeAt_below {w w' : World} {g o : Nat} {xs : List Value} (h : w.rangeAt g o xs) (hb : Below w.heap.size w w') : w'.rangeAt g o xs := fun j v hj => by
  have hc := h j v hj
  exact (hb.cell (block_lt_of_cell hc)).trans hc
theorem wp_loadM {op : Oper} {a : Act} {w : World} {K : Act → World → Prop} {Q : Exit → Act → World → Prop} (x : Operand) (ho : op.op = .load 25 x) (b o : Nat) (hx : a.eval x = .pointer (some ⟨b, o, none⟩)) (f : M) (hc : w.rangeAt b o (mv f).toList) (h : K (a.put op.dst (.agg (mv f))) w) : op.wp Try.prog a w K Q := by
  refine wp_load_mid 25 x ho b o hx (mv f).toList _ hc maskType rfl (by rw [mvl_len]; kernel_rfl) ?_
  simpa using h
end Go.Proofs.Ytdpfhhmfamiboaa

/- The last mask of a stack is another one. -/
namespace Go.Proofs.Ytdpfhhmfamiboaa
open Go.RowKit Msk Vx

def setL : Array Value → Nat → List Value → Array Value
  | a, _, [] => a
  | a, o, v :: vs => setL (a.setIfInBounds o v) (o + 1) vs
theorem setL_size : ∀ (vs : List Value) (a : Array Value) (o : Nat), (setL a o vs).size = a.size
  | [], _, _ => rfl
  | v :: vs, a, o => by rw [setL, setL_size vs]; simp
theorem setL_out : ∀ (vs : List Value) (a : Array Value) (o j : Nat), (j < o ∨ o + vs.length ≤ j) → (setL a o vs)[j]? = a[j]?
  | [], _, _, _, _ => rfl
  | v :: vs, a, o, j, h => by
    rw [List.length_cons] at h
    rw [setL, setL_out vs _ _ _ (by omega), Array.getElem?_setIfInBounds, if_neg (by omega)]
theorem setL_in : ∀ (vs : List Value) (a : Array Value) (o j : Nat), o + vs.length ≤ a.size → j < vs.length → (setL a o vs)[o + j]? = vs[j]?
  | [], _, _, _, _, h => by simp at h
  | v :: vs, a, o, 0, h, _ => by
    rw [List.length_cons] at h
    rw [setL, setL_out vs _ _ _ (by omega), Array.getElem?_setIfInBounds, if_pos (by omega), if_pos (by omega)]
    rfl
  | v :: vs, a, o, j + 1, h, h2 => by
    rw [List.length_cons] at h h2
    rw [setL, show o + (j + 1) = (o + 1) + j by omega, setL_in vs _ _ _ (by simp; omega) (by omega)]
    rfl
theorem heap_setCells_L (b : Nat) {t : TypeId} : ∀ (vs : List Value) (o : Nat) (W : World) (cs : Array Value), W.heap[b]? = some (.cells cs t (0, 0)) → (W.setCells b o vs).heap[b]? = some (.cells (setL cs o vs) t (0, 0))
  | [], _, _, _, h => h
  | v :: vs, o, W, cs, h => by
    rw [World.setCells]
    exact heap_setCells_L b vs (o + 1) _ _ (heap_setCell_same W b o cs t v h)
theorem heap_setCells_else (b : Nat) : ∀ (vs : List Value) (o : Nat) (w : World) (q : Nat), q ≠ b → (w.setCells b o vs).heap[q]? = w.heap[q]?
  | [], _, _, _, _ => rfl
  | v :: vs, o, w, q, h => by
    rw [World.setCells, heap_setCells_else b vs (o + 1) _ q h]
    exact heap_setCell_other w ⟨b, o, none⟩ q v h
theorem size_setCells9 (b : Nat) : ∀ (vs : List Value) (o : Nat) (w : World), (w.setCells b o vs).heap.size = w.heap.size
  | [], _, _ => rfl
  | v :: vs, o, w => by
    rw [World.setCells, size_setCells9 b vs (o + 1)]
    simp
theorem os_setCells9 (b : Nat) : ∀ (vs : List Value) (o : Nat) (w : World), (w.setCells b o vs).os = w.os ∧ (w.setCells b o vs).tape = w.tape ∧ (w.setCells b o vs).output = w.output
  | [], _, _ => ⟨rfl, rfl, rfl⟩
  | v :: vs, o, w => by
    rw [World.setCells]
    exact os_setCells9 b vs (o + 1) (w.setCell ⟨b, o, none⟩ v)
theorem grown_setCells (w : World) (b o : Nat) (vs : List Value) : w.grownBy (w.setCells b o vs) (some b) :=
  ⟨(os_setCells9 b vs o w).1, (os_setCells9 b vs o w).2.1, (os_setCells9 b vs o w).2.2, by rw [size_setCells9]; exact Nat.le_refl _, fun q _ hq => heap_setCells_else b vs o w q fun e => hq (congrArg some e)⟩
theorem own_setlast {w : World} {base g c : Nat} {S0 : List M} {f f' : M} (h : w.ownsRow base 25 23 (.slice (some ⟨g, 0, none⟩) (S0.length + 1) c) (S0.length + 1) (flatS (S0 ++ [f]))) :
    (w.setCells g (S0.length * 23) (mv f').toList).ownsRow base 25 23 (.slice (some ⟨g, 0, none⟩) (S0.length + 1) c) (S0 ++ [f']).length (flatS (S0 ++ [f'])) := by
  obtain ⟨h1, h2⟩ := h
  rcases h2 with ⟨e, _⟩ | ⟨g', cap, cur, e, hb, hg, hn, hc, hs, hx⟩
  · simp at e
  · injection e with e _ e2
    injection e with e
    injection e with e
    subst e e2
    have hfl := flatS_len S0
    have hml := mvl_len f'
    refine ⟨by rw [flatS_len], .inr ⟨g, c, _, by rw [List.length_append, List.length_singleton], hb, heap_setCells_L g _ _ w cur hg, by rw [List.length_append, List.length_singleton]; exact hn, hc, by rw [setL_size]; exact hs, ?_⟩⟩
    rw [List.length_append, List.length_singleton, flatS_snoc]
    rw [flatS_snoc] at hx
    apply List.ext_getElem?
    intro j
    by_cases hj : j < (S0.length + 1) * 23
    · rw [List.getElem?_take_of_lt hj, Array.getElem?_toList]
      by_cases hj2 : j < S0.length * 23
      · rw [setL_out _ _ _ _ (.inl hj2), List.getElem?_append_left (by omega)]
        have h4 : (cur.toList.take ((S0.length + 1) * 23))[j]? = (flatS S0 ++ (mv f).toList)[j]? := by rw [hx]
        rw [List.getElem?_take_of_lt hj, List.getElem?_append_left (by omega), Array.getElem?_toList] at h4
        exact h4
      · obtain ⟨q, rfl⟩ : ∃ q, j = S0.length * 23 + q := ⟨j - S0.length * 23, by omega⟩
        have hcs : (S0.length + 1) * 23 ≤ cur.size := by rw [hs]; exact Nat.mul_le_mul_right _ hn
        rw [setL_in _ _ _ _ (by omega) (by omega), List.getElem?_append_right (by omega), hfl, Nat.add_sub_cancel_left]
    · rw [List.getElem?_eq_none (by rw [List.length_take]; omega), List.getElem?_eq_none (by rw [List.length_append]; omega)]
/-- A mask of the stack is there. -/
theorem there_range {w : World} {base n g c o : Nat} {xs : List Value} {f : M} (h : w.ownsRow base 25 23 (.slice (some ⟨g, 0, none⟩) n c) n xs) (hr : w.rangeAt g o (mv f).toList) : w.there g o 23 := by
  rcases h.2 with ⟨e, _⟩ | ⟨g', cap, cur, e, _, hg, _⟩
  · simp at e
  · injection e with e _ _
    injection e with e
    injection e with e
    subst e
    intro j hj
    have hl := mvl_len f
    refine ⟨?_, frozen_of_row _ _ _ _ _ hg⟩
    rw [hr j _ (List.getElem?_eq_getElem (by omega))]
    rfl
end Go.Proofs.Ytdpfhhmfamiboaa
