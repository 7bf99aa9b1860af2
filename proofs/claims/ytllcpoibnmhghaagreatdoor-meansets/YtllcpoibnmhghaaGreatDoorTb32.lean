/- A region that draws its order, whose values are told by sayings, and whose operations keep what is said of the world; the last one waits for all. It speaks of no program. -/
import Derived.Test.YtllcpoibnmhghaaGreatDoorTb28
import Derived.Test.YtllcpoibnmhghaaGreatDoorTb31
import Derived.Test.YtllcpoibnmhghaaGreatDoorTb24
namespace Go.Proofs.YtllcpoibnmhghaaGreatDoor
open Go Go.RowKit
section
variable {P : Program} {ops : Array Oper} {Q : Exit → Act → World → Prop} {id : Nat} {a0 : Act} {w : World}
/-- What an operation of the region comes to, in whatever world of which that is said. -/
def StepP (P : Program) (ops : Array Oper) (Q : Exit → Act → World → Prop) (sl : List Nat) (a0 : Act) (J : World → Prop) (sp : Nat → Value → World → Prop) : Prop :=
  ∀ (i s : Nat) (o : Oper) (L : Nat → Bool) (A : Act) (W : World), ops[i]? = some o → sl[i]? = some s → (∀ e ∈ o.after, Region.binds .any e = true → L e.on = true) → J W →
    (∀ s, notDst ops s = true → A.tmps.getD s undef = a0.tmps.getD s undef) → (∀ (j s : Nat), sl[j]? = some s → L j = true → sp j (A.tmps.getD s undef) W) → wpOp P ops Q i (fun a' W' => ∃ v, a' = A.put (some s) v ∧ sp i v W' ∧ J W' ∧ Below W.heap.size W W') A W
theorem wp_region_lastP (J : World → Prop) (sp : Nat → Value → World → Prop) (hJ0 : J w.drew) (hmono : ∀ W W', Below W.heap.size W W' → ∀ j u, sp j u W → sp j u W') (hm : P.follows .mixedOrders = true) (hback : backB ops = true) (hdst : dstB ops = true) (hin : inB ops a0.tmps.size = true) (n : Nat) (hn : ops.size = n + 1) (huse : useB ops = true) (sl : List Nat)
    (hds : (ops.toList.take n).map (fun o => o.dst) = sl.map some) (hnd : decide (((ops.toList.take n).map (fun o => o.dst)).Nodup) = true)
    (hstep : StepP P ops Q sl a0 J sp) (hlast : ∀ (o : Oper) (W : World) (A : Act), ops[n]? = some o → J W → (∀ (j s : Nat), sl[j]? = some s → sp j (A.tmps.getD s undef) W) → (∀ s, notDst ops s = true → A.tmps.getD s undef = a0.tmps.getD s undef) →
      (∀ ds : List (Nat × Value), ds.map (fun p => p.1) = sl → (∀ (j s : Nat) (v : Value), ds[j]? = some (s, v) → A.tmps.getD s undef = v) → A = putAll ds a0) →
      wpOp P ops Q n (fun a' W' => (∃ v, a' = A.put o.dst v) ∧ Q .normal a' W') A W) : (Code.region id ops true).wp P Q a0 w := by
  have hnd' : (sl.map some).Nodup := by rw [← hds]; exact of_decide_eq_true hnd
  have hl : sl.length = n := by
    have h := congrArg List.length hds
    simp only [List.length_map, List.length_take, Array.length_toList] at h
    omega
  have atD : ∀ {j : Nat} {p : Oper}, j < n → ops[j]? = some p → ∃ s, sl[j]? = some s ∧ p.dst = some s := fun {j p} hj hp => by
    have h1 : ((ops.toList.take n).map (fun o => o.dst))[j]? = some p.dst := by
      rw [List.getElem?_map, List.getElem?_take_of_lt hj, Array.getElem?_toList, hp]
      rfl
    rw [hds, List.getElem?_map] at h1
    cases hs : sl[j]? with
    | none => rw [hs] at h1; cases h1
    | some s =>
      rw [hs] at h1
      exact ⟨s, rfl, (Option.some.inj h1).symm⟩
  have slNe : ∀ {j k s t : Nat}, sl[j]? = some s → sl[k]? = some t → j ≠ k → s ≠ t := fun {j k s t} hj hk hne e => by
    subst e
    have hj' := (List.getElem?_eq_some_iff.1 hj).1
    have hk' := (List.getElem?_eq_some_iff.1 hk).1
    have h1 : (sl.map some)[j]? = (sl.map some)[k]? := by rw [List.getElem?_map, List.getElem?_map, hj, hk]
    exact hne ((List.getElem?_inj (by simpa using hj') hnd').1 h1)
  refine wp_region_flow hm hback hdst hin (fun L A W => (∀ (j : Nat) (p : Oper), ops[j]? = some p → L j = true → ∀ e ∈ p.after, Region.binds .any e = true → L e.on = true) ∧ (L n = false → J W ∧ A.tmps.size = a0.tmps.size ∧ ∀ (j s : Nat), sl[j]? = some s → L j = true → sp j (A.tmps.getD s undef) W) ∧ (L n = true → Q .normal A W)) (fun _ _ _ => True) ?_ ?_ ?_
  · intro L h
    refine ⟨fun j p hp hj => ?_, fun _ => ⟨hJ0, rfl, fun j s hj hL => ?_⟩, fun h' => ?_⟩
    · have := h j (Array.getElem?_eq_some_iff.1 hp).1
      rw [this] at hj; cases hj
    · have := h j (by have := (List.getElem?_eq_some_iff.1 hj).1; omega)
      rw [this] at hL; cases hL
    · rw [h n (by omega)] at h'; cases h'
  · intro i o L A W ho hLi hdep hJ hdef hkept hhas
    clear hhas
    obtain ⟨hc, hbel, hdone⟩ := hJ
    have hi : i < ops.size := (Array.getElem?_eq_some_iff.1 ho).1
    have hLn : L n = false := by
      cases h : L n with
      | false => rfl
      | true =>
        have := use_all huse hn hc h n i (by omega) (by omega)
        rw [this] at hLi; cases hLi
    obtain ⟨hbw, hsz, hread⟩ := hbel hLn
    have hc' : ∀ (j : Nat) (p : Oper), ops[j]? = some p → (decide (i = j) || L j) = true → ∀ e ∈ p.after, Region.binds .any e = true → (decide (i = e.on) || L e.on) = true := by
      intro j p hp hj e he hb
      by_cases hij : i = j
      · subst hij
        rw [ho] at hp
        cases hp
        rw [hdep e he hb]; simp
      · rw [hc j p hp (by simpa [hij] using hj) e he hb]; simp
    by_cases hin' : i = n
    · subst hin'
      have hall : ∀ j, j < i → L j = true := fun j hj => by
        have := use_all huse hn hc' (L := fun k => decide (i = k) || L k) (by simp) i j (by omega) (by omega)
        simpa [show i ≠ j by omega] using this
      refine wpOp_mono ?_ (hlast o W A ho hbw (fun j s hj => hread j s hj (hall j (by have := (List.getElem?_eq_some_iff.1 hj).1; omega))) (fun s h => hkept s fun j p hp _ => nd h j p hp) fun ds hd hv => ?_)
      · rintro a' W' ⟨⟨v, hv⟩, hq⟩
        exact ⟨v, hv, fun _ => trivial, fun _ _ _ _ => trivial, hc', fun h => by simp at h, fun _ => hq⟩
      · refine act_is ds hdef hsz (by rw [show ds.map (fun p => some p.1) = (ds.map (fun p => p.1)).map some by rw [List.map_map]; rfl, hd]; exact hnd') (fun s h => hkept s fun j p hp hj e => ?_) (fun j s v hj => hv j s v hj)
        have hjn : j < i := by
          have h1 := (Array.getElem?_eq_some_iff.1 hp).1
          have h2 : j ≠ i := fun e' => by rw [e', hLn] at hj; cases hj
          omega
        obtain ⟨s', hs', hd'⟩ := atD hjn hp
        rw [hd'] at e
        cases e
        rw [← hd, List.getElem?_map] at hs'
        cases hq : ds[j]? with
        | none => rw [hq] at hs'; cases hs'
        | some q =>
          rw [hq] at hs'
          exact h q (List.mem_of_getElem? hq) (Option.some.inj hs')
    · obtain ⟨s, hs, hd⟩ := atD (show i < n by omega) ho
      have hsl : s < A.tmps.size := by
        have q1 := List.all_eq_true.1 hin i (by simpa using hi)
        rw [ho] at q1
        simp only [Option.bind_some, hd] at q1
        rw [hsz]
        simpa using q1
      refine wpOp_mono ?_ (hstep i s o L A W ho hs hdep hbw (fun s' h => hkept s' fun j p hp _ => nd h j p hp) hread)
      rintro a' W' ⟨v, rfl, hv, hJ', hb⟩
      refine ⟨v, by rw [hd], fun _ => trivial, fun _ _ _ _ => trivial, hc', fun _ => ⟨hJ', by simpa [Act.put] using hsz, fun j t hj hL => ?_⟩, fun h => ?_⟩
      · by_cases hij : i = j
        · subst hij
          rw [hs] at hj
          cases hj
          rw [show (A.put (some s) v).tmps.getD s undef = v from getD_set_same _ _ _ hsl]
          exact hv
        · rw [show (A.put (some s) v).tmps.getD t undef = A.tmps.getD t undef from getD_set_other _ _ _ _ (slNe hs hj hij)]
          exact hmono _ _ hb j _ (hread j t hj (by simpa [hij] using hL))
      · simp [hin', hLn] at h
  · intro L A W hL hJ hdef hsize hkept hhas
    exact hJ.2.2 (hL n (by omega))
end
end Go.Proofs.YtllcpoibnmhghaaGreatDoor

/- What mean.All comes to. Written by genmnk.py. -/
namespace Go.Proofs.YtllcpoibnmhghaaGreatDoor
open Go.RowKit Lx Msk

/-- What is wrong with rules, or with the day. -/
def mflt (l : List Ru) (day : Int) : Int × Nat := if (chkW l).1 ≠ 0 then chkW l else if day < 0 ∨ 146097 ≤ day then (3, 0) else (0, 0)
/-- What rules mean, one by one. -/
def meanL (l : List Ru) (day : Int) : List (Nat → Bool) := if (mflt l day).1 = 0 then (List.range l.length).map (meanP l (wkB day) day) else []
/-- A row of masks. -/
def RowM (w : World) (v : Value) (fs : List (Nat → Bool)) : Prop := ∃ p c, v = .slice p fs.length c ∧ (fs.length ≤ 40 ∧ fs.length ≤ c) ∧ ∀ (i : Nat) (f : Nat → Bool), fs[i]? = some f → ∃ g o : Nat, p = some ⟨g, o, none⟩ ∧ w.rangeAt g (o + i * 23) (mv f).toList
def OutMe (l : List Ru) (day : Int) (w : World) (e : Ending) (w' : World) : Prop := ∃ v, e = .returned (.tuple #[v, .agg #[.int .i64 (mflt l day).1, .int .i64 ((mflt l day).2 : Int)]]) ∧ RowM w' v (meanL l day) ∧ Below w.heap.size w w'
theorem rowM_nil (w : World) (p : Option Addr) (c : Nat) : RowM w (.slice p 0 c) [] := ⟨p, c, rfl, ⟨by simp, by simp⟩, fun i f hi => by simp at hi⟩
theorem rowM_of {w : World} {gm n : Nat} {F : Nat → Nat → Bool} (hn : n ≤ 40) (h : ∀ i, i < n → w.rangeAt gm (i * 23) (mv (F i)).toList) : RowM w (.slice (some ⟨gm, 0, none⟩) n n) ((List.range n).map F) := by
  refine ⟨some ⟨gm, 0, none⟩, n, by simp, ⟨by simpa using hn, by simp⟩, fun i f hi => ⟨gm, 0, rfl, ?_⟩⟩
  rw [List.getElem?_map] at hi
  cases hr : (List.range n)[i]? with
  | none => rw [hr] at hi; cases hi
  | some k =>
    rw [hr] at hi
    have hf : F k = f := Option.some.inj hi
    obtain ⟨h1, h2⟩ := List.getElem?_eq_some_iff.1 hr
    have hk : k = i := by rw [← h2]; simp
    have hin : i < n := by simpa using h1
    rw [← hf, hk, Nat.zero_add]
    exact h i hin
/-- The cells of so many empty masks. -/
def zcells (n : Nat) : Array Value := madeCells (mv fun _ => false) (n * 23)
theorem zcells_at {n i j : Nat} (hi : i < n) (hj : j < 23) : (zcells n)[i * 23 + j]? = (mv fun _ => false)[j]? := by
  have h1 : i * 23 + j < n * 23 := by
    have : (i + 1) * 23 ≤ n * 23 := Nat.mul_le_mul_right 23 hi
    omega
  have h2 : (i * 23 + j) % 23 = j := by omega
  have h3 : j < (mv fun _ => false).size := by rw [mv_size]; exact hj
  simp [zcells, madeCells, h1, mv_size, h2]
  rw [Array.getElem!_eq_getD, Array.getD_eq_getD_getElem?, Array.getElem?_eq_getElem h3]
  rfl
theorem zcells_range {w : World} {g n : Nat} {t : TypeId} (h : w.heap[g]? = some (.cells (zcells n) t (0, 0))) {i : Nat} (hi : i < n) : w.rangeAt g (i * 23) (mv fun _ => false).toList := fun j v hv => by
  have hj : j < 23 := by
    have := (List.getElem?_eq_some_iff.1 hv).1
    rw [Array.length_toList, mv_size] at this
    exact this
  rw [cell_of_row _ _ _ _ _ _ h, zcells_at hi hj, ← Array.getElem?_toList]
  exact hv
theorem maskInfo6 : (Tryz.prog.info? 29).map (fun i => (i.zero, i.size, i.bytes)) = some (some (.agg #[.int .u64 0, .int .u64 0, .int .u64 0, .int .u64 0, .int .u64 0, .int .u64 0, .int .u64 0, .int .u64 0, .int .u64 0, .int .u64 0, .int .u64 0, .int .u64 0, .int .u64 0, .int .u64 0, .int .u64 0, .int .u64 0, .int .u64 0, .int .u64 0, .int .u64 0, .int .u64 0, .int .u64 0, .int .u64 0, .int .u64 0]), 23, 184) := by kernel_rfl
theorem masksType6 : Tryz.prog.underlying 40 = some (.slice 29) := by kernel_rfl
theorem make_masks (n : Nat) (hn : n ≤ 1000) (w : World) : (Instr.makeSlice 40 (.int .i64 (n : Int)) (.int .i64 (n : Int))).run Tryz.prog w = .ok (.slice (some ⟨w.heap.size, 0, none⟩) n n) (w.alloc (.cells (zcells n) 29)) := by
  obtain ⟨i, hi, hzz⟩ := Option.map_eq_some_iff.1 maskInfo6
  simp only [Prod.mk.injEq] at hzz
  obtain ⟨hz, hs, hb⟩ := hzz
  have hr := run_make (P := Tryz.prog) w 40 29 i _ masksType6 hi hz .i64 .i64 n n (by omega) (Int.le_refl _) (by rw [hb]; omega) (by omega)
  rw [hs] at hr
  have e : (Value.agg #[.int .u64 0, .int .u64 0, .int .u64 0, .int .u64 0, .int .u64 0, .int .u64 0, .int .u64 0, .int .u64 0, .int .u64 0, .int .u64 0, .int .u64 0, .int .u64 0, .int .u64 0, .int .u64 0, .int .u64 0, .int .u64 0, .int .u64 0, .int .u64 0, .int .u64 0, .int .u64 0, .int .u64 0, .int .u64 0, .int .u64 0]).cells = mv fun _ => false := mv_lit
  rw [e] at hr
  simpa [zcells] using hr
/-- What each operation yields. -/
def asp (B n : Nat) (day : Int) (sl : Value) (l : List Ru) (i : Nat) (v : Value) (W : World) : Prop := match i with
  | 0 => v = .int .i64 day
  | 3 => ∃ mb, v = .map (some mb) ∧ MapN W mb l
  | 5 => v = .int .i64 (n : Int)
  | 6 => ∃ gk : Nat, v = .slice (some ⟨gk, 0, none⟩) n n ∧ B ≤ gk ∧ W.heap[gk]? = some (.cells (bcells n fun _ => false) 4 (0, 0))
  | 8 => v = .int .i64 (n : Int)
  | 9 => ∃ gm : Nat, v = .slice (some ⟨gm, 0, none⟩) n n ∧ B ≤ gm ∧ W.heap[gm]? = some (.cells (zcells n) 29 (0, 0))
  | 10 => ∃ mb gk gm : Nat, v = .agg #[.int .i64 day, sl, .map (some mb), .slice (some ⟨gk, 0, none⟩) n n, .slice (some ⟨gm, 0, none⟩) n n] ∧ MapN W mb l ∧ B ≤ gk ∧ W.heap[gk]? = some (.cells (bcells n fun _ => false) 4 (0, 0)) ∧ B ≤ gm ∧ W.heap[gm]? = some (.cells (zcells n) 29 (0, 0))
  | 11 => ∃ g : Nat, v = .pointer (some ⟨g, 0, none⟩) ∧ B ≤ g ∧ W.heap[g]? = some (.cells #[.int .i64 0, .slice none 0 0, .map none, .slice none 0 0, .slice none 0 0] 65 (0, 0))
  | _ => v = sl
theorem asp_mono {B n : Nat} {day : Int} {sl : Value} {l : List Ru} {W W' : World} (hb : Below W.heap.size W W') (i : Nat) (v : Value) (h : asp B n day sl l i v W) : asp B n day sl l i v W' := by
  unfold asp at *
  split at h
  · exact h
  · obtain ⟨mb, h1, h2⟩ := h
    exact ⟨mb, h1, h2.later (hb.block _ (lt_of_map h2))⟩
  · exact h
  · obtain ⟨gk, h1, h2, h3⟩ := h
    exact ⟨gk, h1, h2, (hb.block _ (lt_of_block h3)).trans h3⟩
  · exact h
  · obtain ⟨gk, h1, h2, h3⟩ := h
    exact ⟨gk, h1, h2, (hb.block _ (lt_of_block h3)).trans h3⟩
  · obtain ⟨mb, gk, gm, h1, h2, h3, h4, h5, h6⟩ := h
    exact ⟨mb, gk, gm, h1, h2.later (hb.block _ (lt_of_map h2)), h3, (hb.block _ (lt_of_block h4)).trans h4, h5, (hb.block _ (lt_of_block h6)).trans h6⟩
  · obtain ⟨gk, h1, h2, h3⟩ := h
    exact ⟨gk, h1, h2, (hb.block _ (lt_of_block h3)).trans h3⟩
  · exact h
/-- The day begins: nothing is known. -/
theorem MD.begin {w W : World} {n g gk gm mb : Nat} {day : Int} {sl : Value} {l : List Ru} {V : Nat → Nat → Bool} {old : Array Value} (hJ : Below w.heap.size w W) (hM : MapN W mb l) (b7 : w.heap.size ≤ g) (k7 : W.heap[g]? = some (.cells old 65 (0, 0)))
    (b28 : w.heap.size ≤ gk) (k28 : W.heap[gk]? = some (.cells (bcells n fun _ => false) 4 (0, 0))) (b31 : w.heap.size ≤ gm) (k31 : W.heap[gm]? = some (.cells (zcells n) 29 (0, 0))) :
    MI ⟨w, n, g, gk, gm, mb, day, sl, l, V⟩ (fun _ => false) (W.setRow g #[.int .i64 day, sl, .map (some mb), .slice (some ⟨gk, 0, none⟩) n n, .slice (some ⟨gm, 0, none⟩) n n]) := by
  have n1 : g ≠ gk := fun e => by subst e; rw [k7] at k28; cases k28
  have n2 : g ≠ gm := fun e => by subst e; rw [k7] at k31; cases k31
  have n3 : gk ≠ gm := fun e => by
    subst e
    rw [k28] at k31
    injection k31 with e1
    injection e1 with _ e2
    exact absurd e2 (by decide)
  obtain ⟨es, c, hm, _⟩ := id hM
  have n4 : mb ≠ gk := fun e => by subst e; rw [hm] at k28; cases k28
  have n5 : mb ≠ gm := fun e => by subst e; rw [hm] at k31; cases k31
  have n6 : mb ≠ g := fun e => by subst e; rw [hm] at k7; cases k7
  have ho : ∀ q, q ≠ g → (W.setRow g #[.int .i64 day, sl, .map (some mb), .slice (some ⟨gk, 0, none⟩) n n, .slice (some ⟨gm, 0, none⟩) n n]).heap[q]? = W.heap[q]? := fun q hq => setRow_other _ _ _ _ hq
  refine ⟨fun _ _ => false, ⟨below_setRow hJ b7 _, setRow_heap _ _ _ _ _ _ k7, (ho _ (fun e => n1 e.symm)).trans k28, fun i hi => ?_, ⟨_, (ho _ (fun e => n2 e.symm)).trans k31⟩, hM.later (ho _ n6), ⟨b7, b28, b31⟩, n1, n2, n3, n4, n5⟩, fun _ _ h => by cases h⟩
  exact zcells_range ((ho _ (fun e => n2 e.symm)).trans k31) hi
theorem mall_post {R : Ending → World → Prop} {a : Act} {w : World} (g : Nat) (v : Value) (er at_ : Int) (hd : a.defers = []) (h2 : a.tmps.getD 4 undef = v) (h3 : a.tmps.getD 5 undef = .pointer (some ⟨g, 0, none⟩))
    (hg : w.heap[g]? = some (.cells #[.int .i64 er, .int .i64 at_] 43 (0, 0))) (hR : R (.returned (.tuple #[v, .agg #[.int .i64 er, .int .i64 at_]])) w) : bodyPost Tryz.prog Tryz.f16 R .ret a w := by
  refine bodyPost_ret (v := .tuple #[v, .agg #[.int .i64 er, .int .i64 at_]]) ?_ hd hR
  have h2' : a.tmps[4]?.getD undef = v := by simpa using h2
  have h3' : a.tmps[5]?.getD undef = .pointer (some ⟨g, 0, none⟩) := by simpa using h3
  have hv := run_loadVar_row (P := Tryz.prog) w g 43 43 _ _ _ hg faultType rfl (by kernel_rfl)
  simp [results, Tryz.results16, h2', h3', asAddr, hv]
set_option maxRecDepth 100000 in
set_option maxHeartbeats 4000000 in
theorem mall_any (us : List (Ru × Value)) (v : Value) (day : Int) (w : World) (h : InR w v us) : Calls Tryz.prog 16 #[v, .int .i64 day] w (OutMe (us.map (fun p => p.1)) day w) := by
  obtain ⟨l, hl⟩ : ∃ l, us.map (fun p => p.1) = l := ⟨_, rfl⟩
  obtain ⟨n, hn⟩ : ∃ n, us.length = n := ⟨_, rfl⟩
  have hll : l.length = n := by rw [← hl, List.length_map, hn]
  obtain ⟨pv, cv, rfl⟩ := h.form
  have bA := (Below.refl w.heap.size w).alloc (Nat.le_refl _) (.cells #[.int .i64 0, .int .i64 0] 43)
  have n1 := heap_alloc_new w (.cells #[.int .i64 0, .int .i64 0] 43)
  generalize hwA : w.alloc (.cells #[.int .i64 0, .int .i64 0] 43) = wA at *
  have cW := chk_any us _ wA (h.below bA)
  rw [hl] at cW
  rw [hl, hn]
  have HL := hid5 hl
  have HLN := hid5 hn
  have HLL := hid5 hll
  have HI0 := hid5 h
  rw [hn] at cW
  clear hl hll h hn
  go_enter Tryz.func16, Tryz.ntmps16
  go_wp2_with fail
  refine cW.mono ?_
  rintro r w1 ⟨rfl, hb1⟩
  have m2 := (hb1.block _ (lt_of_block n1)).trans n1
  have hb1w := bA.trans (hb1.mono bA.size)
  clear cW n1 hb1 bA hwA
  by_cases h0 : (chkW l).1 = 0
  · obtain ⟨hw0, _⟩ := chk_lk2 h0
    have h40 := (wrongR_oke hw0).1
    rw [HLL.out] at h40
    have H0 := hid5 h0
    rw [h0]
    generalize (((chkW l).2 : Nat) : Int) = at0 at *
    have bC := (Below.refl w1.heap.size w1).alloc (Nat.le_refl _) (.cells #[.int .i64 0, .int .i64 at0] 43)
    have HBw := hid5 (hb1w.trans (bC.mono hb1w.size))
    have HR := hid5 ((bC.block _ (lt_of_block m2)).trans m2)
    have m3 := heap_alloc_new w1 (.cells #[.int .i64 0, .int .i64 at0] 43)
    have Hn40 := hid5 h40
    have hI40 : (n : Int) ≤ 40 := by omega
    clear bC hb1w m2 h0 h40 hw0
    generalize hw2 : w1.alloc (.cells #[.int .i64 0, .int .i64 at0] 43) = wB at *
    have HI := hid5 (HI0.out.below HBw.out)
    have z0 := (cell_of_row _ _ 0 _ _ _ m3).trans rfl
    by_cases hd : day < 0 ∨ 146097 ≤ day
    · have HF : Hid (mflt l day = (3, 0)) := by
        show _ = _
        unfold mflt
        rw [if_neg (by simpa using H0.out), if_pos hd]
      have HO : Hid (∀ cs, OutMe l day w (.returned (.tuple #[.slice none 0 0, .agg #[.int .i64 3, .int .i64 0]])) (wB.setRow w.heap.size cs)) := fun cs => by
        have hML : meanL l day = [] := by
          unfold meanL
          rw [HF.out]
          rfl
        refine ⟨_, by rw [HF.out]; rfl, ?_, below_setRow HBw.out (Nat.le_refl _) _⟩
        rw [hML]
        exact rowM_nil _ _ _
      have n9 := HR.out
      by_cases hd0 : day < 0
      · clear hd
        go_wp2_with (refine wpList_store_row rfl 43 _ _ rfl _ _ rfl rfl _ _ n9 (by kernel_rfl) (by simp) (by simp [Value.oneCell']) ?_)
        exact mall_post w.heap.size _ 3 0 rfl rfl rfl (setRow_heap _ _ _ _ _ _ n9) (HO.out _)
      · have hd1 : 146097 ≤ day := by omega
        clear hd
        go_wp2_with (refine wpList_store_row rfl 43 _ _ rfl _ _ rfl rfl _ _ n9 (by kernel_rfl) (by simp) (by simp [Value.oneCell']) ?_)
        exact mall_post w.heap.size _ 3 0 rfl rfl rfl (setRow_heap _ _ _ _ _ _ n9) (HO.out _)
    · have HF : Hid (mflt l day = (0, 0)) := by
        show _ = _
        unfold mflt
        rw [if_neg (by simpa using H0.out), if_neg hd]
      have HML : Hid (meanL l day = (List.range n).map (meanP l (wkB day) day)) := by
        show _ = _
        unfold meanL
        rw [HF.out, HLL.out]
        rfl
      have hd0 : ¬ day < 0 := fun e => hd (.inl e)
      have hd1 : ¬ 146097 ≤ day := fun e => hd (.inr e)
      have Hall : Hid (∀ (g gk gm mb i : Nat), i < n → RuleC ⟨wB, n, g, gk, gm, mb, day, .slice pv n cv, l, meanP l (wkB day) day⟩ (i : Int) (meanP l (wkB day) day i)) := fun g gk gm mb i hi => by
        have hin := HI.out
        rw [HLN.out] at hin
        exact mrule_all (D := ⟨wB, n, g, gk, gm, mb, day, .slice pv n cv, l, meanP l (wkB day) day⟩) hin HL.out HLN.out H0.out (by show 0 ≤ day; omega) (by show day < 146097; omega) (fun _ => rfl) (muR l i + 1) i hi (by show muR l i < muR l i + 1; omega)
      have Hmb := hid5 (run_make_row' (P := Tryz.prog) 63 4 (.bool false) 1 boolsType boolInfo rfl .i64 .i64 n (by omega) (by omega))
      rw [bcells_none] at Hmb
      have Hmm := hid5 (make_masks n (by omega))
      clear hd
      go_wp2_with fail
      clear z0 m3 hw2
      refine wp_region_lastP (Below wB.heap.size wB) (asp wB.heap.size n day (.slice pv n cv) l) ((Below.refl _ _).drew) (fun W W' hb j u h => asp_mono hb j u h) (by kernel_rfl) (by kernel_rfl) (by kernel_rfl) (by kernel_rfl) 12 (by kernel_rfl) (by kernel_rfl) [22, 23, 24, 25, 26, 27, 28, 29, 30, 31, 32, 7] (by kernel_rfl) (by kernel_rfl) ?_ ?_
      · intro i' s o' L A W2 ho hs hdep hJ hkept hhas
        match i', ho, hs with
        | 0, ho, hs =>
          cases Option.some.inj ho
          cases Option.some.inj hs
          have h1 : A.tmps[1]?.getD undef = .int .i64 day := (gd A 1).trans (hkept 1 (by kernel_rfl))
          refine wpOp_step rfl (fun K hK => ?_)
          go_simp
          exact hK _ _ ⟨_, rfl, rfl, hJ, Below.refl _ _⟩
        | 1, ho, hs =>
          cases Option.some.inj ho
          cases Option.some.inj hs
          have h0 : A.tmps[0]?.getD undef = .slice pv n cv := (gd A 0).trans (hkept 0 (by kernel_rfl))
          refine wpOp_step rfl (fun K hK => ?_)
          go_simp
          exact hK _ _ ⟨_, rfl, rfl, hJ, Below.refl _ _⟩
        | 2, ho, hs =>
          cases Option.some.inj ho
          cases Option.some.inj hs
          have h0 : A.tmps[0]?.getD undef = .slice pv n cv := (gd A 0).trans (hkept 0 (by kernel_rfl))
          refine wpOp_step rfl (fun K hK => ?_)
          go_simp
          exact hK _ _ ⟨_, rfl, rfl, hJ, Below.refl _ _⟩
        | 3, ho, hs =>
          cases Option.some.inj ho
          cases Option.some.inj hs
          have h24 : A.tmps[24]?.getD undef = .slice pv n cv := (gd A 24).trans (hhas 2 24 rfl (hdep ⟨2, .data⟩ (by simp) rfl))
          have cN := numbers_any us _ W2 (HI.out.below hJ)
          rw [HLN.out] at cN
          refine wpOp_step rfl (fun K hK => ?_)
          go_simp
          refine cN.mono ?_
          rintro e' W' ⟨mb, rfl, _, hM, hb'⟩
          rw [HL.out] at hM
          exact hK _ _ ⟨_, rfl, ⟨mb, rfl, hM⟩, hJ.trans (hb'.mono hJ.size), hb'⟩
        | 4, ho, hs =>
          cases Option.some.inj ho
          cases Option.some.inj hs
          have h0 : A.tmps[0]?.getD undef = .slice pv n cv := (gd A 0).trans (hkept 0 (by kernel_rfl))
          refine wpOp_step rfl (fun K hK => ?_)
          go_simp
          exact hK _ _ ⟨_, rfl, rfl, hJ, Below.refl _ _⟩
        | 5, ho, hs =>
          cases Option.some.inj ho
          cases Option.some.inj hs
          have h26 : A.tmps[26]?.getD undef = .slice pv n cv := (gd A 26).trans (hhas 4 26 rfl (hdep ⟨4, .data⟩ (by simp) rfl))
          refine wpOp_step rfl (fun K hK => ?_)
          go_simp
          exact hK _ _ ⟨_, rfl, rfl, hJ, Below.refl _ _⟩
        | 6, ho, hs =>
          cases Option.some.inj ho
          cases Option.some.inj hs
          have h27 : A.tmps[27]?.getD undef = .int .i64 (n : Int) := (gd A 27).trans (hhas 5 27 rfl (hdep ⟨5, .data⟩ (by simp) rfl))
          have hsz := hJ.size
          have hmk := Hmb.out W2
          have hb := (Below.refl W2.heap.size W2).alloc (Nat.le_refl _) (.cells (bcells n fun _ => false) 4)
          have hnew := heap_alloc_new W2 (.cells (bcells n fun _ => false) 4)
          refine wpOp_step rfl (fun K hK => ?_)
          go_simp
          exact hK _ _ ⟨_, rfl, ⟨_, rfl, hsz, hnew⟩, hJ.trans (hb.mono hJ.size), hb⟩
        | 7, ho, hs =>
          cases Option.some.inj ho
          cases Option.some.inj hs
          have h0 : A.tmps[0]?.getD undef = .slice pv n cv := (gd A 0).trans (hkept 0 (by kernel_rfl))
          refine wpOp_step rfl (fun K hK => ?_)
          go_simp
          exact hK _ _ ⟨_, rfl, rfl, hJ, Below.refl _ _⟩
        | 8, ho, hs =>
          cases Option.some.inj ho
          cases Option.some.inj hs
          have h29 : A.tmps[29]?.getD undef = .slice pv n cv := (gd A 29).trans (hhas 7 29 rfl (hdep ⟨7, .data⟩ (by simp) rfl))
          refine wpOp_step rfl (fun K hK => ?_)
          go_simp
          exact hK _ _ ⟨_, rfl, rfl, hJ, Below.refl _ _⟩
        | 9, ho, hs =>
          cases Option.some.inj ho
          cases Option.some.inj hs
          have h30 : A.tmps[30]?.getD undef = .int .i64 (n : Int) := (gd A 30).trans (hhas 8 30 rfl (hdep ⟨8, .data⟩ (by simp) rfl))
          have hsz := hJ.size
          have hmk := Hmm.out W2
          have hb := (Below.refl W2.heap.size W2).alloc (Nat.le_refl _) (.cells (zcells n) 29)
          have hnew := heap_alloc_new W2 (.cells (zcells n) 29)
          refine wpOp_step rfl (fun K hK => ?_)
          go_simp
          exact hK _ _ ⟨_, rfl, ⟨_, rfl, hsz, hnew⟩, hJ.trans (hb.mono hJ.size), hb⟩
        | 10, ho, hs =>
          cases Option.some.inj ho
          cases Option.some.inj hs
          have h22 : A.tmps[22]?.getD undef = .int .i64 day := (gd A 22).trans (hhas 0 22 rfl (hdep ⟨0, .data⟩ (by simp) rfl))
          have h23 : A.tmps[23]?.getD undef = .slice pv n cv := (gd A 23).trans (hhas 1 23 rfl (hdep ⟨1, .data⟩ (by simp) rfl))
          obtain ⟨mb, e25, hM⟩ := hhas 3 25 rfl (hdep ⟨3, .data⟩ (by simp) rfl)
          obtain ⟨gk, e28, b28, k28⟩ := hhas 6 28 rfl (hdep ⟨6, .data⟩ (by simp) rfl)
          obtain ⟨gm, e31, b31, k31⟩ := hhas 9 31 rfl (hdep ⟨9, .data⟩ (by simp) rfl)
          have h25 : A.tmps[25]?.getD undef = .map (some mb) := (gd A 25).trans e25
          have h28 : A.tmps[28]?.getD undef = .slice (some ⟨gk, 0, none⟩) n n := (gd A 28).trans e28
          have h31 : A.tmps[31]?.getD undef = .slice (some ⟨gm, 0, none⟩) n n := (gd A 31).trans e31
          refine wpOp_step rfl (fun K hK => ?_)
          go_simp
          exact hK _ _ ⟨_, rfl, ⟨mb, gk, gm, rfl, hM, b28, k28, b31, k31⟩, hJ, Below.refl _ _⟩
        | 11, ho, hs =>
          cases Option.some.inj ho
          cases Option.some.inj hs
          have hsz := hJ.size
          have hb := (Below.refl W2.heap.size W2).alloc (Nat.le_refl _) (.cells #[.int .i64 0, .slice none 0 0, .map none, .slice none 0 0, .slice none 0 0] 65)
          have hnew := heap_alloc_new W2 (.cells #[.int .i64 0, .slice none 0 0, .map none, .slice none 0 0, .slice none 0 0] 65)
          refine wpOp_step rfl (fun K hK => ?_)
          go_simp
          exact hK _ _ ⟨_, rfl, ⟨_, rfl, hsz, hnew⟩, hJ.trans (hb.mono hJ.size), hb⟩
        | kk + 12, ho, hs => simp at hs
      · intro o' W2 A ho hJ hhas hkept hput
        obtain ⟨mb, e25, _⟩ := hhas 3 25 rfl
        obtain ⟨gk, e28, _, _⟩ := hhas 6 28 rfl
        obtain ⟨gm, e31, _, _⟩ := hhas 9 31 rfl
        obtain ⟨mb1, gk1, gm1, e32, hM, b28, k28, b31, k31⟩ := hhas 10 32 rfl
        obtain ⟨g, e7, b7, k7⟩ := hhas 11 7 rfl
        have hA : A = putAll [(22, .int .i64 day), (23, .slice pv n cv), (24, .slice pv n cv), (25, .map (some mb)), (26, .slice pv n cv), (27, .int .i64 (n : Int)), (28, .slice (some ⟨gk, 0, none⟩) n n), (29, .slice pv n cv), (30, .int .i64 (n : Int)), (31, .slice (some ⟨gm, 0, none⟩) n n), (32, .agg #[.int .i64 day, .slice pv n cv, .map (some mb1), .slice (some ⟨gk1, 0, none⟩) n n, .slice (some ⟨gm1, 0, none⟩) n n]), (7, .pointer (some ⟨g, 0, none⟩))] _ := hput _ (by kernel_rfl) (fun j s v hj => match j, hj with
          | 0, hj => by cases Option.some.inj hj; exact hhas 0 22 rfl
          | 1, hj => by cases Option.some.inj hj; exact hhas 1 23 rfl
          | 2, hj => by cases Option.some.inj hj; exact hhas 2 24 rfl
          | 3, hj => by cases Option.some.inj hj; exact e25
          | 4, hj => by cases Option.some.inj hj; exact hhas 4 26 rfl
          | 5, hj => by cases Option.some.inj hj; exact hhas 5 27 rfl
          | 6, hj => by cases Option.some.inj hj; exact e28
          | 7, hj => by cases Option.some.inj hj; exact hhas 7 29 rfl
          | 8, hj => by cases Option.some.inj hj; exact hhas 8 30 rfl
          | 9, hj => by cases Option.some.inj hj; exact e31
          | 10, hj => by cases Option.some.inj hj; exact e32
          | 11, hj => by cases Option.some.inj hj; exact e7
          | kk + 12, hj => by simp at hj)
        cases Option.some.inj ho
        have hx : A.eval (.tmp 7) = .pointer (some ⟨g, 0, none⟩) := e7
        have hy : A.eval (.tmp 32) = .agg #[.int .i64 day, .slice pv n cv, .map (some mb1), .slice (some ⟨gk1, 0, none⟩) n n, .slice (some ⟨gm1, 0, none⟩) n n] := e32
        have hst := MD.begin (day := day) (sl := .slice pv n cv) (V := meanP l (wkB day) day) hJ hM b7 k7 b28 k28 b31 k31
        refine wpOp_step rfl (fun K hK => ?_)
        show Oper.wp _ _ _ _ _ _
        refine wp_store_row 65 _ _ rfl _ _ hx hy _ _ k7 (by kernel_rfl) (by simp) (by simp [Value.oneCell']) ?_
        refine hK _ _ ⟨⟨undef, rfl⟩, ?_⟩
        change Exit.then _ _ Exit.normal A _
        subst hA
        simp only [putAll_cons, putAll_nil, Act.put, List.setIfInBounds_toArray, List.set_cons_succ, List.set_cons_zero]
        clear hK hx hy hput hhas hkept e25 e28 e31 e32 e7 k7 k28 k31 hM
        generalize W2.setRow g #[.int .i64 day, .slice pv n cv, .map (some mb1), .slice (some ⟨gk1, 0, none⟩) n n, .slice (some ⟨gm1, 0, none⟩) n n] = W5 at *
        clear hJ
        have cR := Hall.out g gk1 gm1 mb1
        have HC := hid5 cR
        clear cR Hall
        go_wp2_with fail
        go_loopw [8, 35] (fun _ t wr => ∃ j : Nat, t = .int .i64 (j : Int) ∧ j ≤ n ∧ ∃ K, MI ⟨wB, n, g, gk1, gm1, mb1, day, .slice pv n cv, l, meanP l (wkB day) day⟩ K wr ∧ ∀ k, k < j → K k = true) (fun _ t _ => n - (intOf t).toNat)
        case atStart => exact ⟨0, rfl, by omega, _, hst, fun k hk => by omega⟩
        case round =>
          obtain ⟨j, rfl, hj, K, hM, hall⟩ := hrel
          have hj0 : (0 : Int) ≤ (j : Int) := by omega
          have HA := hid5 hall
          clear hall hst
          by_cases hlt : j < n
          · have hlt' : (j : Int) < (n : Int) := by omega
            have cJ := HC.out j hlt K wr hM
            go_wp2_with fail
            refine cJ.mono ?_
            rintro r W6 ⟨rfl, ⟨K', hM', hle, hKj⟩, _⟩
            have HN : Hid (∃ K, MI ⟨wB, n, g, gk1, gm1, mb1, day, .slice pv n cv, l, meanP l (wkB day) day⟩ K W6 ∧ ∀ k, k < j + 1 → K k = true) := ⟨K', hM', fun k hk => by
              by_cases e : k = j
              · subst e
                simpa using hKj
              · exact hle k (HA.out k (by omega))⟩
            clear cJ hM hM' hle hKj HA
            go_wp2_with fail
            go_roundw
            case rel => exact ⟨j + 1, by go_num, by omega, HN.out⟩
            case measure => simp [intOf]; omega
          · have ej : j = n := by omega
            have hlt' : ¬ (j : Int) < (n : Int) := by omega
            have k4 := (cell_of_row _ _ 4 _ _ _ hM.blk).trans rfl
            have hbw := hM.bel
            have n9 := (hbw.block _ (lt_of_block HR.out)).trans HR.out
            have HO : Hid (∀ cs, OutMe l day w (.returned (.tuple #[.slice (some ⟨gm1, 0, none⟩) n n, .agg #[.int .i64 0, .int .i64 0]])) (wr.setRow w.heap.size cs)) := fun cs => by
              obtain ⟨M, h1, h2⟩ := hM
              have hb9 := below_setRow (HBw.out.trans (hbw.mono HBw.out.size)) (Nat.le_refl w.heap.size) cs
              refine ⟨_, by rw [HF.out]; rfl, ?_, hb9⟩
              rw [HML.out]
              refine rowM_of Hn40.out (fun i hi => ?_)
              have h3 := h2 i hi (HA.out i (by omega))
              have h4 := MSt.meant h1 i hi
              rw [h3] at h4
              intro q v hv
              rw [← h4 q v hv]
              exact World.cell?_of_block (setRow_other _ _ _ _ (by have := (MSt.lo h1).2.2; have := HBw.out.size; have := lt_of_block HR.out; dsimp only at *; omega))
            clear HA hM HC
            go_wp2_with (refine wpList_store_row rfl 43 _ _ rfl _ _ rfl rfl _ _ n9 (by kernel_rfl) (by simp) (by simp [Value.oneCell']) ?_)
            exact mall_post w.heap.size _ 0 0 rfl rfl rfl (setRow_heap _ _ _ _ _ _ n9) (HO.out _)
  · have H0 := hid5 h0
    have HF : Hid (mflt l day = chkW l) := by
      show _ = _
      unfold mflt
      rw [if_pos h0]
    have hne : ((chkW l).1 != 0) = true := by simpa using h0
    have bC := (Below.refl w1.heap.size w1).alloc (Nat.le_refl _) (.cells #[.int .i64 (chkW l).1, .int .i64 ((chkW l).2 : Int)] 43)
    have HBw := hid5 (hb1w.trans (bC.mono hb1w.size))
    have n9 := (bC.block _ (lt_of_block m2)).trans m2
    have m3 := heap_alloc_new w1 (.cells #[.int .i64 (chkW l).1, .int .i64 ((chkW l).2 : Int)] 43)
    clear bC hb1w m2 h0
    generalize hw2 : w1.alloc (.cells #[.int .i64 (chkW l).1, .int .i64 ((chkW l).2 : Int)] 43) = wB at *
    have HO : Hid (∀ W, Below w.heap.size w W → OutMe l day w (.returned (.tuple #[.slice none 0 0, .agg #[.int .i64 (chkW l).1, .int .i64 ((chkW l).2 : Int)]])) W) := fun W hW => by
      have hML : meanL l day = [] := by
        unfold meanL
        rw [HF.out, if_neg H0.out]
      refine ⟨_, by rw [HF.out], ?_, hW⟩
      rw [hML]
      exact rowM_nil _ _ _
    have z0 := (cell_of_row _ _ 0 _ _ _ m3).trans rfl
    have z1 := (cell_of_row _ _ 1 _ _ _ m3).trans rfl
    have y0 := (cell_of_row _ _ 0 _ _ _ n9).trans rfl
    have y1 := (cell_of_row _ _ 1 _ _ _ n9).trans rfl
    have x0 := frozen_of_row _ _ 0 _ _ n9
    have x1 := frozen_of_row _ _ 1 _ _ n9
    have hmm := heap_setCell_same _ _ 1 _ _ (.int .i64 ((chkW l).2 : Int)) (heap_setCell_same _ _ 0 _ _ (.int .i64 (chkW l).1) n9)
    have HBB := hid5 ((HBw.out.setCell (p := ⟨w.heap.size, 0, none⟩) (Nat.le_refl _) (.int .i64 (chkW l).1)).setCell (p := ⟨w.heap.size, 1, none⟩) (Nat.le_refl _) (.int .i64 ((chkW l).2 : Int)))
    have HMM := hid5 hmm
    clear hmm n9 m3
    clear HF H0
    generalize (chkW l).1 = er at *
    generalize (((chkW l).2 : Nat) : Int) = at0 at *
    go_wp2_with fail
    go_region
    go_wp2_with fail
    exact mall_post w.heap.size _ er at0 rfl rfl rfl HMM.out (HO.out _ (below_drewN HBB.out 1))
end Go.Proofs.YtllcpoibnmhghaaGreatDoor

/- The text that the laws of mean ask of first, and what its rules mean: plain. -/
namespace Go.Proofs.YtllcpoibnmhghaaGreatDoor
open Go.RowKit Lx Msk

def a6S : List UInt8 := [114, 117, 108, 101, 32, 97, 32, 61, 32, 119, 101, 101, 107, 108, 121, 32, 115, 97, 116, 58, 32, 48, 57, 58, 48, 48, 45, 49, 48, 58, 48, 48, 59, 32, 114, 117, 108, 101, 32, 98, 32, 61, 32, 97, 32, 115, 104, 105, 102, 116, 32, 54, 48, 59]
def a6X : Ex := ⟨4, 32, 0, [], [⟨3, 540, 600, [], []⟩]⟩
def a6Y : Ex := ⟨9, 60, 0, [], [xN 97]⟩
def a6L : List Ru := [([97], a6X), ([98], a6Y)]
def a6T : List Tk := ((iterN a6S 17).getD ([], 0)).1
theorem a6_iter : iterN a6S 17 = some (a6T, 54) := by kernel_rfl
theorem a6_rules : rulesR a6S.length (a6T.length + 1) [] a6T = .ok a6L := by kernel_rfl
theorem a6_wrong : wrongR a6L = (0, 0) := by
  have s1 : (shapeP a6X 1 0).1 = 0 := by
    simp only [a6X, shapeP_eq, shapeL_cons, shapeL_nil]
    decide
  have s2 : (shapeP a6Y 1 0).1 = 0 := by
    simp only [a6Y, xN, shapeP_eq, shapeL_cons, shapeL_nil]
    decide
  unfold wrongR a6L wrongL ruleP
  rw [s1]
  unfold wrongL ruleP
  rw [s2]
  decide
theorem a6_spk0 : spkR a6L ([97], a6X) = [] := by
  have : nms a6X = [] := by simp [a6X, nms_eq, nmsL]
  unfold spkR
  dsimp only
  rw [this]
  decide
theorem a6_spk1 : spkR a6L ([98], a6Y) = [0] := by
  have : nms a6Y = [[97]] := by simp [a6Y, xN, nms_eq, nmsL]
  unfold spkR
  dsimp only
  rw [this]
  decide
theorem a6_lead : leadS a6L = fun i => ([[], [0]] : List (List Nat)).getD i [] := by
  funext i
  match i with
  | 0 => exact (leadS_at rfl).trans (by rw [a6_spk0]; rfl)
  | 1 => exact (leadS_at rfl).trans (by rw [a6_spk1]; rfl)
  | i + 2 => rfl
theorem a6_chk : chkW a6L = (0, 0) := by
  refine chk_d (by rw [a6_wrong]) ?_ ?_ ?_
  · intro i hi
    match i, hi with
    | 0, _ => decide
    | 1, _ => decide
    | i + 2, hi => exact absurd hi (by show ¬ (i + 2 < 2); omega)
  · intro i hi
    match i, hi with
    | 0, _ => show decide (-1 ∈ spkR a6L ([97], a6X)) = false; rw [a6_spk0]; decide
    | 1, _ => show decide (-1 ∈ spkR a6L ([98], a6Y)) = false; rw [a6_spk1]; decide
    | i + 2, hi => exact absurd hi (by show ¬ (i + 2 < 2); omega)
  · intro i hi
    unfold lk3
    rw [a6_lead]
    match i, hi with
    | 0, _ => decide
    | 1, _ => decide
    | i + 2, hi => exact absurd hi (by show ¬ (i + 2 < 2); omega)
/-- Nine to ten. -/
def g6 : Nat → Bool := fun i => (decide ((540 : Int) ≤ (i : Int)) && decide ((i : Int) < 600)) && decide (i < 1440)
theorem a6_m0 : meanP a6L (wkB 0) 0 0 = g6 := by
  rw [meanP_eq (u := ([97], a6X)) (by rw [a6_chk]) rfl]
  unfold a6X
  rw [valE_eq]
  show valK (wkB 0 32) 0 4 32 0 _ [valE (wkB 0) 0 _ ⟨3, 540, 600, [], []⟩] = g6
  rw [valK_4, if_pos (by decide +kernel), valE_eq]
  rfl
theorem a6_y (wk : Int → Bool) (day : Int) (env : List UInt8 → Nat → Bool) : valE wk day env a6Y = shf (env [97]) 60 := by
  have e1 : valE wk day env (xN 97) = env [97] := by
    unfold xN
    rw [valE_eq]
    rfl
  unfold a6Y
  rw [valE_eq]
  show shf (valE wk day env (xN 97)) 60 = _
  rw [e1]
theorem a6_m1 : meanP a6L (wkB 0) 0 1 = shf g6 60 := by
  rw [meanP_eq (u := ([98], a6Y)) (by rw [a6_chk]) rfl, a6_y]
  rw [show (atP5 a6L [97]).toNat = 0 by decide, a6_m0]
theorem a6_flt : mflt a6L 0 = (0, 0) := by
  unfold mflt
  rw [a6_chk]
  decide
theorem a6_mean : meanL a6L 0 = [g6, shf g6 60] := by
  unfold meanL
  rw [a6_flt, if_pos rfl]
  show [meanP a6L (wkB 0) 0 0, meanP a6L (wkB 0) 0 1] = _
  rw [a6_m0, a6_m1]
end Go.Proofs.YtllcpoibnmhghaaGreatDoor

/- What the document's Ints comes to where both rows are the same. -/
namespace Go.Proofs.YtllcpoibnmhghaaGreatDoor
open Go.RowKit Lx

end Go.Proofs.YtllcpoibnmhghaaGreatDoor
