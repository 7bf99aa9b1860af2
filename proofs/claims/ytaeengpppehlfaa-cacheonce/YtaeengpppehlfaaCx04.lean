/- A region that draws its order and makes memory: what each operation yields is said by a predicate that later operations keep; then whatever order is drawn, all that is said holds at the end. It speaks of no program. -/
import Derived.WalkKit
import Derived.Deep.Quiet
import Derived.RegionTactic
import Derived.Below
import Derived.Test.YtaeengpppehlfaaCx03
namespace Go.Proofs.Ytaeengpppehlfaa
open Go

/-- How many are not listed yet. -/
def uc : List Bool → Nat
  | [] => 0
  | b :: l => (if b then 0 else 1) + uc l
theorem uc_set : ∀ (l : List Bool) (i : Nat), l[i]? = some false → uc (l.set i true) + 1 = uc l
  | [], i, h => by simp at h
  | b :: l, 0, h => by
    simp at h; subst h
    simp [uc]; omega
  | b :: l, i + 1, h => by
    have := uc_set l i (by simpa using h)
    simp only [List.set_cons_succ, uc]
    omega
theorem uc_zero : ∀ (l : List Bool), uc l = 0 → ∀ i : Nat, l[i]? ≠ some false
  | [], _, i => by simp
  | b :: l, h, 0 => by
    cases b
    · simp [uc] at h
    · simp
  | b :: l, h, i + 1 => by
    have : uc l = 0 := by simp only [uc] at h; omega
    simpa using uc_zero l this i
theorem uc_rep : ∀ n, uc (List.replicate n false) = n
  | 0 => rfl
  | n + 1 => by simp only [List.replicate_succ, uc, uc_rep n]; simp; omega

section
variable {P : Program} {ops : Array Oper} {Q : Exit → Act → World → Prop}

theorem ready_false {listed : Array Bool} {i : Nat} (h : i ∈ Region.ready .any ops listed) : listed.toList[i]? = some false := by
  have := (mem_ready.1 h).1
  by_cases hi : i < listed.size
  · simp [Array.getD, hi] at this
    simp [hi, this]
  · simp [Array.getD, hi] at this

/-- A step of the drawn order keeps the invariant: so the region's end is reached under it. -/
theorem wpAny_inv (I : Array Bool → Act → World → Prop) (hstep : ∀ listed a w i, I listed a w → i ∈ Region.ready .any ops listed → wpOp P ops Q i (fun a' w' => I (listed.setIfInBounds i true) a' w') a w)
    (hend : ∀ listed a w, I listed a w → Region.ready .any ops listed = [] → Q .normal a w) :
    ∀ (fuel : Nat) (listed : Array Bool) (a : Act) (w : World), uc listed.toList ≤ fuel → I listed a w → wpAny P .any ops Q fuel listed a w
  | 0, listed, a, w, hu, h => by
    have hr : Region.ready .any ops listed = [] := by
      cases hr : Region.ready .any ops listed with
      | nil => rfl
      | cons i l =>
        have h1 := ready_false (ops := ops) (listed := listed) (i := i) (by rw [hr]; simp)
        exact absurd h1 (uc_zero _ (by omega) i)
    exact ⟨hr, hend _ _ _ h hr⟩
  | fuel + 1, listed, a, w, hu, h => by
    refine ⟨fun hr => hend _ _ _ h hr, fun i hi => ?_⟩
    have h1 := ready_false hi
    have h2 := uc_set _ i h1
    refine wpOp_mono (fun a' w' h' => ?_) (hstep listed a w i h hi)
    refine wpAny_inv I hstep hend fuel _ a' w' ?_ h'
    rw [Array.toList_setIfInBounds]
    omega

/-- Each operation waits only for earlier ones. -/
def backB (ops : Array Oper) : Bool := (List.range ops.size).all fun i => match ops[i]? with | none => true | some o => o.after.all fun e => !Region.binds .any e || decide (e.on < i)
theorem ready_nil (hB : backB ops = true) {listed : Array Bool} (hr : Region.ready .any ops listed = []) : ∀ i, i < ops.size → listed.getD i true = true := by
  intro i
  induction i using Nat.strongRecOn with
  | ind i ih =>
    intro hi
    cases hb : listed.getD i true with
    | true => rfl
    | false =>
      exfalso
      have ho : ops[i]? = some ops[i] := by simp [hi]
      have hm : i ∈ Region.ready .any ops listed := mem_ready.2 ⟨hb, ops[i], ho, fun e he hbd => by
        have h1 := List.all_eq_true.1 hB i (by simpa using hi)
        rw [ho] at h1
        have h2 := Array.all_eq_true'.1 h1 e he
        have h3 : e.on < i := by rw [hbd] at h2; simpa using h2
        have h4 := ih e.on h3 (by omega)
        by_cases hs : e.on < listed.size
        · simp [Array.getD, hs] at h4 ⊢; exact h4
        · exfalso
          have h5 : i < listed.size := by
            by_cases h6 : i < listed.size
            · exact h6
            · simp [Array.getD, h6] at hb
          omega⟩
      rw [hr] at hm
      cases hm

/-- The slots that the operations write are apart, and are there. -/
def dstB (ops : Array Oper) : Bool := (List.range ops.size).all fun i => (List.range ops.size).all fun j => i == j || (match (ops[i]?).bind (·.dst), (ops[j]?).bind (·.dst) with | some s, some t => s != t | _, _ => true)
def inB (ops : Array Oper) (n : Nat) : Bool := (List.range ops.size).all fun i => (match (ops[i]?).bind (·.dst) with | some s => decide (s < n) | none => true)

/-- What is said of the frame while some operations are listed. -/
structure St (ops : Array Oper) (sp : Nat → Value → World → Prop) (a0 : Act) (listed : Array Bool) (a : Act) (w : World) : Prop where
  defs : a.defers = a0.defers
  size : a.tmps.size = a0.tmps.size
  kept : ∀ s, (∀ i o, ops[i]? = some o → listed.getD i true = true → o.dst ≠ some s) → a.tmps.getD s undef = a0.tmps.getD s undef
  has : ∀ i o, ops[i]? = some o → listed.getD i true = true → ∀ s, o.dst = some s → sp i (a.tmps.getD s undef) w

theorem getD_set_same (t : Array Value) (s : Nat) (v : Value) (h : s < t.size) : (t.setIfInBounds s v).getD s undef = v := by simp [Array.getD, h]
theorem getD_set_other (t : Array Value) (s s' : Nat) (v : Value) (h : s ≠ s') : (t.setIfInBounds s v).getD s' undef = t.getD s' undef := by
  by_cases hs : s' < t.size
  · simp [Array.getD, hs, h]
  · simp [Array.getD, hs]
theorem getD_listed (l : Array Bool) (i j : Nat) : (l.setIfInBounds i true).getD j true = (decide (i = j) || l.getD j true) := by
  by_cases hj : j < l.size
  · by_cases hij : i = j
    · subst hij; simp [Array.getD, hj]
    · simp [Array.getD, hj, hij]
  · simp [Array.getD, hj]

/-- No operation writes the slot. -/
def notDst (ops : Array Oper) (s : Nat) : Bool := ops.all fun o => o.dst != some s
theorem nd {s : Nat} (h : notDst ops s = true) (j : Nat) (p : Oper) (hp : ops[j]? = some p) : p.dst ≠ some s := by
  have := Array.all_eq_true'.1 h p (Array.mem_of_getElem? hp)
  simpa using this
theorem arr_ext (t : Array Value) (l : List Value) (hs : t.size = l.length) (h : ∀ i, i < l.length → t.getD i undef = l.getD i undef) : t = l.toArray := by
  apply Array.ext
  · simpa using hs
  · intro i h1 h2
    have := h i (by simpa using h2)
    simp only [List.size_toArray] at h2
    simpa [Array.getD, List.getD, h1, h2] using this

/-- **The law.** -/
theorem wp_region_flow {id : Nat} {a0 : Act} {w : World} (hm : P.follows .mixedOrders = true) (hback : backB ops = true) (hdst : dstB ops = true) (hin : inB ops a0.tmps.size = true)
    (J : (Nat → Bool) → Act → World → Prop) (sp : Nat → Value → World → Prop)
    (hJ : ∀ L : Nat → Bool, (∀ i, i < ops.size → L i = false) → J L a0 { w with drawn := w.drawn + 1 })
    (hstep : ∀ (i : Nat) (o : Oper) (L : Nat → Bool) (a : Act) (W : World), ops[i]? = some o → L i = false → (∀ e ∈ o.after, Region.binds .any e = true → L e.on = true) → J L a W →
      a.defers = a0.defers → (∀ s, (∀ (j : Nat) (p : Oper), ops[j]? = some p → L j = true → p.dst ≠ some s) → a.tmps.getD s undef = a0.tmps.getD s undef) → (∀ (j : Nat) (p : Oper), ops[j]? = some p → L j = true → ∀ s, p.dst = some s → sp j (a.tmps.getD s undef) W) →
      wpOp P ops Q i (fun a' W' => ∃ v, a' = a.put o.dst v ∧ (o.dst ≠ none → sp i v W') ∧ (∀ j u, L j = true → sp j u W → sp j u W') ∧ J (fun k => decide (i = k) || L k) a' W') a W)
    (hend : ∀ (L : Nat → Bool) (a : Act) (W : World), (∀ i, i < ops.size → L i = true) → J L a W → a.defers = a0.defers → a.tmps.size = a0.tmps.size → (∀ s, (∀ (j : Nat) (p : Oper), ops[j]? = some p → p.dst ≠ some s) → a.tmps.getD s undef = a0.tmps.getD s undef) →
      (∀ (j : Nat) (p : Oper), ops[j]? = some p → ∀ s, p.dst = some s → sp j (a.tmps.getD s undef) W) → Q .normal a W) : (Code.region id ops true).wp P Q a0 w := by
  refine wp_region_any hm (wpAny_inv (fun listed a W => listed.size = ops.size ∧ J (fun i => listed.getD i true) a W ∧ St ops sp a0 listed a W) ?_ ?_ _ _ _ _ ?_ ?_)
  · rintro listed a W i ⟨hs, hj, st⟩ hi
    obtain ⟨hf, o, ho, hall⟩ := mem_ready.1 hi
    have hL : ∀ e ∈ o.after, Region.binds .any e = true → listed.getD e.on true = true := fun e he hb => by
      have := hall e he hb
      by_cases hs : e.on < listed.size
      · simp [Array.getD, hs] at this ⊢; exact this
      · simp [Array.getD, hs]
    have hil : i < ops.size := (Array.getElem?_eq_some_iff.1 ho).1
    refine wpOp_mono ?_ (hstep i o (fun i => listed.getD i true) a W ho hf hL hj st.defs (fun s h => st.kept s h) (fun j p hp hl s hsd => st.has j p hp hl s hsd))
    rintro a' W' ⟨v, rfl, hv, hmono, hj'⟩
    have hfun : (fun k => (listed.setIfInBounds i true).getD k true) = fun k => decide (i = k) || listed.getD k true := funext fun k => getD_listed listed i k
    refine ⟨by simpa using hs, by rw [hfun]; exact hj', ?_⟩
    have hdd : ∀ (j : Nat) (p : Oper) s t, ops[j]? = some p → i ≠ j → o.dst = some s → p.dst = some t → s ≠ t := fun j p s t hp hij h1 h2 => by
      have q1 := List.all_eq_true.1 hdst i (by simpa using hil)
      have q2 := List.all_eq_true.1 q1 j (by simpa using (Array.getElem?_eq_some_iff.1 hp).1)
      rw [ho, hp] at q2
      simp only [Option.bind_some, h1, h2] at q2
      simpa [hij] using q2
    have hds : ∀ s, o.dst = some s → s < a.tmps.size := fun s h1 => by
      have q1 := List.all_eq_true.1 hin i (by simpa using hil)
      rw [ho] at q1
      simp only [Option.bind_some, h1] at q1
      rw [st.size]
      simpa using q1
    have hlist : ∀ j, (listed.setIfInBounds i true).getD j true = true → i = j ∨ listed.getD j true = true := fun j h => by
      rw [getD_listed] at h
      simpa using h
    cases hd : o.dst with
    | none =>
      refine ⟨st.defs, st.size, fun s h => ?_, fun j p hp hl s hps => ?_⟩
      · exact st.kept s fun j p hp hl => h j p hp (by rw [getD_listed, hl]; simp)
      · rcases hlist j hl with rfl | hl'
        · rw [ho] at hp
          have := Option.some.inj hp
          subst this
          rw [hd] at hps; cases hps
        · exact hmono j _ hl' (st.has j p hp hl' s hps)
    | some d =>
      have hdl := hds d hd
      refine ⟨st.defs, by simpa [Act.put] using st.size, fun s h => ?_, fun j p hp hl s hps => ?_⟩
      · have hsd : d ≠ s := fun e => by
          subst e
          exact h i o ho (by rw [getD_listed]; simp) hd
        show (a.tmps.setIfInBounds d v).getD s undef = _
        rw [getD_set_other _ _ _ _ hsd]
        exact st.kept s fun j p hp hl => h j p hp (by rw [getD_listed, hl]; simp)
      · show sp j ((a.tmps.setIfInBounds d v).getD s undef) W'
        rcases hlist j hl with rfl | hl'
        · rw [ho] at hp
          have := Option.some.inj hp
          subst this
          rw [hd] at hps
          have := Option.some.inj hps
          subst this
          rw [getD_set_same _ _ _ hdl]
          exact hv (by rw [hd]; simp)
        · by_cases hij : i = j
          · subst hij
            rw [hf] at hl'; cases hl'
          · rw [getD_set_other _ _ _ _ (hdd j p d s hp hij hd hps)]
            exact hmono j _ hl' (st.has j p hp hl' s hps)
  · rintro listed a W ⟨hs, hj, st⟩ hr
    have hall := ready_nil hback hr
    exact hend _ a W hall hj st.defs st.size (fun s h => st.kept s fun j p hp _ => h j p hp) (fun j p hp s hps => st.has j p hp (hall j (Array.getElem?_eq_some_iff.1 hp).1) s hps)
  · simp [uc_rep]
  · have hf : ∀ i, i < ops.size → (Array.replicate ops.size false).getD i true = false := fun i hi => by simp [Array.getD, hi]
    refine ⟨by simp, hJ _ hf, rfl, rfl, fun _ _ => rfl, fun i o ho hl s _ => ?_⟩
    rw [hf i (Array.getElem?_eq_some_iff.1 ho).1] at hl
    cases hl
end
end Go.Proofs.Ytaeengpppehlfaa

/- Small facts about frames and lists of values. -/
namespace Go.Proofs.Ytaeengpppehlfaa
open Go

theorem gd (A : Act) (s : Nat) : A.tmps[s]?.getD undef = A.tmps.getD s undef := by simp
theorem gdb {A : Act} {s : Nat} {b : Bool} (h : A.tmps.getD s undef = .bool b) : A.tmps[s]? = some (.bool b) := by
  rw [← gd] at h
  cases hx : A.tmps[s]? with
  | none => rw [hx] at h; simp [undef] at h
  | some v => rw [hx] at h; simp at h; rw [h]
/-- For all lists of so many. -/
def AllL : Nat → (List Value → Prop) → Prop
  | 0, P => P []
  | n + 1, P => ∀ u, AllL n fun l => P (u :: l)
theorem allL : ∀ (n : Nat) (P : List Value → Prop), AllL n P → ∀ l, l.length = n → P l
  | 0, P, h, l, hl => by
    have e : l = [] := List.length_eq_zero_iff.1 hl
    subst e
    exact h
  | n + 1, P, h, [], hl => by simp at hl
  | n + 1, P, h, u :: l, hl => allL n (fun l => P (u :: l)) (h u) l (by simpa using hl)
end Go.Proofs.Ytaeengpppehlfaa

/- Regions that draw their order and yield values that are known beforehand: the frame behind them is written out. It speaks of no program. -/
namespace Go.Proofs.Ytaeengpppehlfaa
open Go Go.RowKit

/-- Values put into slots. -/
def putAll (ds : List (Nat × Value)) (a : Act) : Act := ds.foldl (fun a p => a.put (some p.1) p.2) a
theorem putAll_nil (a : Act) : putAll [] a = a := rfl
theorem putAll_cons (p : Nat × Value) (ds : List (Nat × Value)) (a : Act) : putAll (p :: ds) a = putAll ds (a.put (some p.1) p.2) := rfl
theorem putAll_defers : ∀ (ds : List (Nat × Value)) (a : Act), (putAll ds a).defers = a.defers
  | [], _ => rfl
  | p :: ds, a => (putAll_defers ds (a.put (some p.1) p.2)).trans rfl
theorem putAll_size : ∀ (ds : List (Nat × Value)) (a : Act), (putAll ds a).tmps.size = a.tmps.size
  | [], _ => rfl
  | p :: ds, a => (putAll_size ds (a.put (some p.1) p.2)).trans (by simp [Act.put])
theorem putAll_other : ∀ (ds : List (Nat × Value)) (a : Act) (s : Nat), (∀ p ∈ ds, p.1 ≠ s) → (putAll ds a).tmps.getD s undef = a.tmps.getD s undef
  | [], _, _, _ => rfl
  | p :: ds, a, s, h => by
    rw [putAll_cons, putAll_other ds _ s (fun q hq => h q (List.mem_cons_of_mem _ hq))]
    exact getD_set_other _ _ _ _ (h p List.mem_cons_self)
theorem putAll_same : ∀ (ds : List (Nat × Value)) (a : Act) (j s : Nat) (v : Value), (ds.map (fun p => some p.1)).Nodup → s < a.tmps.size → ds[j]? = some (s, v) → (putAll ds a).tmps.getD s undef = v
  | [], _, _, _, _, _, _, h => by simp at h
  | p :: ds, a, 0, s, v, hn, hs, h => by
    simp at h
    subst h
    rw [putAll_cons, putAll_other ds _ s ?_]
    · exact getD_set_same _ _ _ hs
    · intro q hq e
      rw [List.map_cons, List.nodup_cons] at hn
      exact hn.1 (List.mem_map.2 ⟨q, hq, by rw [e]⟩)
  | p :: ds, a, j + 1, s, v, hn, hs, h => by
    rw [putAll_cons]
    rw [List.map_cons, List.nodup_cons] at hn
    exact putAll_same ds _ j s v hn.2 (by simpa [Act.put] using hs) (by simpa using h)
theorem act_is {A a0 : Act} (ds : List (Nat × Value)) (hd : A.defers = a0.defers) (hs : A.tmps.size = a0.tmps.size) (hn : (ds.map (fun p => some p.1)).Nodup)
    (hk : ∀ s, (∀ p ∈ ds, p.1 ≠ s) → A.tmps.getD s undef = a0.tmps.getD s undef) (hh : ∀ (j s : Nat) (v : Value), ds[j]? = some (s, v) → A.tmps.getD s undef = v) : A = putAll ds a0 := by
  have e1 := putAll_defers ds a0
  have e2 := putAll_size ds a0
  have e3 : ∀ s, s < a0.tmps.size → A.tmps.getD s undef = (putAll ds a0).tmps.getD s undef := by
    intro s hs'
    by_cases h : ∃ p ∈ ds, p.1 = s
    · obtain ⟨p, hp, rfl⟩ := h
      obtain ⟨j, hj⟩ := List.getElem?_of_mem hp
      rw [hh j _ _ hj, putAll_same ds a0 j _ _ hn hs' hj]
    · have h' : ∀ p ∈ ds, p.1 ≠ s := fun p hp e => h ⟨p, hp, e⟩
      rw [hk s h', putAll_other ds a0 s h']
  generalize putAll ds a0 = F at *
  obtain ⟨t, d⟩ := A
  obtain ⟨t', d'⟩ := F
  dsimp only at *
  have : t = t' := by
    apply Array.ext
    · omega
    · intro i h1 h2
      have := e3 i (by omega)
      simpa [Array.getD, h1, h2] using this
  rw [this, hd, e1]

section
variable {P : Program} {ops : Array Oper} {Q : Exit → Act → World → Prop} {id : Nat} {a0 : Act} {w : World}

/-- What an operation of the region comes to, in whatever world behind the first. -/
def StepV (P : Program) (ops : Array Oper) (Q : Exit → Act → World → Prop) (ds : List (Nat × Value)) (a0 : Act) (w : World) : Prop :=
  ∀ (i s : Nat) (v : Value) (o : Oper) (L : Nat → Bool) (A : Act) (W : World), ops[i]? = some o → ds[i]? = some (s, v) → (∀ e ∈ o.after, Region.binds .any e = true → L e.on = true) → Below w.heap.size w W →
    (∀ s, notDst ops s = true → A.tmps.getD s undef = a0.tmps.getD s undef) → (∀ (j s : Nat) (u : Value), ds[j]? = some (s, u) → L j = true → A.tmps.getD s undef = u) → wpOp P ops Q i (fun a' W' => a' = A.put (some s) v ∧ Below W.heap.size W W') A W

theorem dst_at {k : Nat} {ds : List (Nat × Value)} (hds : (ops.toList.take k).map (fun o => o.dst) = ds.map (fun p => some p.1)) {i s : Nat} {v : Value} {o : Oper} (ho : ops[i]? = some o) (h : ds[i]? = some (s, v)) : o.dst = some s := by
  have h1 : (ds.map (fun p => some p.1))[i]? = some (some s) := by rw [List.getElem?_map, h]; rfl
  rw [← hds, List.getElem?_map] at h1
  have h2 : (ops.toList.take k)[i]? = some o ∨ (ops.toList.take k)[i]? = none := by
    rw [List.getElem?_take]
    split
    · left; simpa using ho
    · right; rfl
  rcases h2 with h2 | h2
  · rw [h2] at h1; simpa using h1
  · rw [h2] at h1; simp at h1
theorem at_dst {k : Nat} {ds : List (Nat × Value)} (hds : (ops.toList.take k).map (fun o => o.dst) = ds.map (fun p => some p.1)) {i : Nat} {o : Oper} (hi : i < k) (ho : ops[i]? = some o) : ∃ s v, ds[i]? = some (s, v) := by
  have h1 : (ops.toList.take k)[i]? = some o := by rw [List.getElem?_take, if_pos hi]; simpa using ho
  have h2 : ((ops.toList.take k).map (fun o => o.dst))[i]? = some o.dst := by rw [List.getElem?_map, h1]; rfl
  rw [hds, List.getElem?_map] at h2
  cases h3 : ds[i]? with
  | none => rw [h3] at h2; simp at h2
  | some p => exact ⟨p.1, p.2, rfl⟩

theorem wp_region_vals (hm : P.follows .mixedOrders = true) (hback : backB ops = true) (hdst : dstB ops = true) (hin : inB ops a0.tmps.size = true) (ds : List (Nat × Value))
    (hds : (ops.toList.take ops.size).map (fun o => o.dst) = ds.map (fun p => some p.1)) (hnd : decide (((ops.toList.take ops.size).map (fun o => o.dst)).Nodup) = true)
    (hstep : StepV P ops Q ds a0 w) (hend : ∀ W, Below w.heap.size w W → Q .normal (putAll ds a0) W) : (Code.region id ops true).wp P Q a0 w := by
  have hnd' : (ds.map (fun p => some p.1)).Nodup := by rw [← hds]; exact of_decide_eq_true hnd
  refine wp_region_flow hm hback hdst hin (fun _ _ W => Below w.heap.size w W) (fun j x _ => ∀ s v, ds[j]? = some (s, v) → x = v) ?_ ?_ ?_
  · intro L _
    exact (Below.refl _ _).drew
  · intro i o L A W ho hLi hdep hJ hdef hkept hhas
    have hi : i < ops.size := (Array.getElem?_eq_some_iff.1 ho).1
    obtain ⟨s, v, hv⟩ := at_dst hds hi ho
    have hd := dst_at hds ho hv
    refine wpOp_mono ?_ (hstep i s v o L A W ho hv hdep hJ (fun s' h => hkept s' fun j p hp _ => nd h j p hp) (fun j s' u hj hL => ?_))
    · rintro a' W' ⟨rfl, hb⟩
      exact ⟨v, by rw [hd], fun _ s' v' h => by rw [hv] at h; cases h; rfl, fun _ _ _ h => h, hJ.trans (hb.mono hJ.size)⟩
    · have hj' : j < ds.length := (List.getElem?_eq_some_iff.1 hj).1
      have hl : ds.length = ops.size := by have := congrArg List.length hds; simpa using this.symm
      obtain ⟨p, hp⟩ : ∃ p, ops[j]? = some p := ⟨ops[j]'(by omega), Array.getElem?_eq_getElem _⟩
      exact hhas j p hp hL s' (dst_at hds hp hj) s' u hj
  · intro L A W hL hJ hdef hsize hkept hhas
    have : A = putAll ds a0 := act_is ds hdef hsize hnd' (fun s h => hkept s fun j p hp e => ?_) (fun j s v hj => ?_)
    · rw [this]; exact hend W hJ
    · have hi : j < ops.size := (Array.getElem?_eq_some_iff.1 hp).1
      obtain ⟨s', v, hv⟩ := at_dst hds hi hp
      have := (dst_at hds hp hv).symm.trans e
      cases this
      exact h _ (List.mem_of_getElem? hv) rfl
    · have hj' : j < ds.length := (List.getElem?_eq_some_iff.1 hj).1
      have hl : ds.length = ops.size := by have := congrArg List.length hds; simpa using this.symm
      obtain ⟨p, hp⟩ : ∃ p, ops[j]? = some p := ⟨ops[j]'(by omega), Array.getElem?_eq_getElem _⟩
      exact hhas j p hp s (dst_at hds hp hj) s v hj

/-- Each operation but the last is waited for by a later one. -/
def useB (ops : Array Oper) : Bool := (List.range (ops.size - 1)).all fun i => (List.range ops.size).any fun j => decide (i < j) && match ops[j]? with | none => false | some o => o.after.any fun e => Region.binds .any e && decide (e.on = i)
theorem use_all (hu : useB ops = true) {n : Nat} (hn : ops.size = n + 1) {L : Nat → Bool} (hc : ∀ (j : Nat) (p : Oper), ops[j]? = some p → L j = true → ∀ e ∈ p.after, Region.binds .any e = true → L e.on = true) (hL : L n = true) : ∀ k i, n - i ≤ k → i ≤ n → L i = true
  | 0, i, hk, hi => by rw [show i = n by omega]; exact hL
  | k + 1, i, hk, hi => by
    by_cases e : i = n
    · rw [e]; exact hL
    have h1 := List.all_eq_true.1 hu i (by simp; omega)
    obtain ⟨j, hj, h2⟩ := List.any_eq_true.1 h1
    simp at hj
    simp only [Bool.and_eq_true, decide_eq_true_eq] at h2
    obtain ⟨hij, h3⟩ := h2
    cases ho : ops[j]? with
    | none => rw [ho] at h3; cases h3
    | some o =>
      rw [ho] at h3
      obtain ⟨e', he, h4⟩ := Array.any_eq_true'.1 h3
      simp only [Bool.and_eq_true, decide_eq_true_eq] at h4
      have := hc j o ho (use_all hu hn hc hL k j (by omega) (by omega)) e' he h4.1
      rw [h4.2] at this
      exact this

theorem wp_region_last (hm : P.follows .mixedOrders = true) (hback : backB ops = true) (hdst : dstB ops = true) (hin : inB ops a0.tmps.size = true) (n : Nat) (hn : ops.size = n + 1) (huse : useB ops = true) (ds : List (Nat × Value))
    (hds : (ops.toList.take n).map (fun o => o.dst) = ds.map (fun p => some p.1)) (hnd : decide (((ops.toList.take n).map (fun o => o.dst)).Nodup) = true)
    (hstep : StepV P ops Q ds a0 w) (hlast : ∀ (o : Oper) (W : World), ops[n]? = some o → Below w.heap.size w W → wpOp P ops Q n (fun a' W' => (∃ v, a' = (putAll ds a0).put o.dst v) ∧ Q .normal a' W') (putAll ds a0) W) : (Code.region id ops true).wp P Q a0 w := by
  have hnd' : (ds.map (fun p => some p.1)).Nodup := by rw [← hds]; exact of_decide_eq_true hnd
  have hl : ds.length = n := by
    have h := congrArg List.length hds
    simp only [List.length_map, List.length_take, Array.length_toList] at h
    omega
  refine wp_region_flow hm hback hdst hin (fun L A W => (∀ (j : Nat) (p : Oper), ops[j]? = some p → L j = true → ∀ e ∈ p.after, Region.binds .any e = true → L e.on = true) ∧ (L n = false → Below w.heap.size w W ∧ A.tmps.size = a0.tmps.size) ∧ (L n = true → Q .normal A W)) (fun j x _ => ∀ s v, ds[j]? = some (s, v) → x = v) ?_ ?_ ?_
  · intro L h
    refine ⟨fun j p hp hj => ?_, fun _ => ⟨(Below.refl _ _).drew, rfl⟩, fun h' => ?_⟩
    · have := h j (Array.getElem?_eq_some_iff.1 hp).1
      rw [this] at hj; cases hj
    · rw [h n (by omega)] at h'; cases h'
  · intro i o L A W ho hLi hdep hJ hdef hkept hhas
    obtain ⟨hc, hbel, hdone⟩ := hJ
    have hi : i < ops.size := (Array.getElem?_eq_some_iff.1 ho).1
    have hLn : L n = false := by
      cases h : L n with
      | false => rfl
      | true =>
        have := use_all huse hn hc h n i (by omega) (by omega)
        rw [this] at hLi; cases hLi
    obtain ⟨hbw, hsz⟩ := hbel hLn
    have hc' : ∀ (j : Nat) (p : Oper), ops[j]? = some p → (decide (i = j) || L j) = true → ∀ e ∈ p.after, Region.binds .any e = true → (decide (i = e.on) || L e.on) = true := by
      intro j p hp hj e he hb
      by_cases hij : i = j
      · subst hij
        rw [ho] at hp
        cases hp
        rw [hdep e he hb]; simp
      · rw [hc j p hp (by simpa [hij] using hj) e he hb]; simp
    have hread : ∀ (j s : Nat) (u : Value), ds[j]? = some (s, u) → L j = true → A.tmps.getD s undef = u := fun j s' u hj hL => by
      have hj' : j < ds.length := (List.getElem?_eq_some_iff.1 hj).1
      obtain ⟨p, hp⟩ : ∃ p, ops[j]? = some p := ⟨ops[j]'(by omega), Array.getElem?_eq_getElem _⟩
      exact hhas j p hp hL s' (dst_at hds hp hj) s' u hj
    by_cases hin' : i = n
    · subst hin'
      have hall : ∀ j, j < i → L j = true := fun j hj => by
        have := use_all huse hn hc' (L := fun k => decide (i = k) || L k) (by simp) i j (by omega) (by omega)
        simpa [show i ≠ j by omega] using this
      have e : A = putAll ds a0 := by
        refine act_is ds hdef hsz hnd' (fun s h => hkept s fun j p hp hj e => ?_) (fun j s v hj => ?_)
        · have hjn : j < i := by
            have h1 := (Array.getElem?_eq_some_iff.1 hp).1
            have h2 : j ≠ i := fun e' => by rw [e', hLn] at hj; cases hj
            omega
          obtain ⟨s', v, hv⟩ := at_dst hds hjn hp
          have := (dst_at hds hp hv).symm.trans e
          cases this
          exact h _ (List.mem_of_getElem? hv) rfl
        · exact hread j s v hj (hall j (by have := (List.getElem?_eq_some_iff.1 hj).1; omega))
      rw [e]
      refine wpOp_mono ?_ (hlast o W ho hbw)
      rintro a' W' ⟨⟨v, hv⟩, hq⟩
      refine ⟨v, hv, fun _ s' v' h => ?_, fun _ _ _ h => h, hc', fun h => by simp at h, fun _ => hq⟩
      have := (List.getElem?_eq_some_iff.1 h).1
      omega
    · obtain ⟨s, v, hv⟩ := at_dst hds (show i < n by omega) ho
      have hd := dst_at hds ho hv
      refine wpOp_mono ?_ (hstep i s v o L A W ho hv hdep hbw (fun s' h => hkept s' fun j p hp _ => nd h j p hp) hread)
      rintro a' W' ⟨rfl, hb⟩
      refine ⟨v, by rw [hd], fun _ s' v' h => by rw [hv] at h; cases h; rfl, fun _ _ _ h => h, hc', fun _ => ⟨hbw.trans (hb.mono hbw.size), by simpa [Act.put] using hsz⟩, fun h => ?_⟩
      simp [hin', hLn] at h
  · intro L A W hL hJ hdef hsize hkept hhas
    exact hJ.2.2 (hL n (by omega))
end
end Go.Proofs.Ytaeengpppehlfaa

/- Code in memory; what is wrong with a rule's code by itself. Written by genvmc.py. -/
namespace Go.Proofs.Ytaeengpppehlfaa
open Go.RowKit Msk Vx

/-- Instructions in memory. -/
def InsRow (w : World) (v : Value) (xs : List (In × Value)) : Prop := ∃ p c, v = .slice p xs.length c ∧ xs.length < 9223372036854775808 ∧ ∀ (j : Nat) (x : In × Value), xs[j]? = some x → RowV w x.2 x.1.sp ∧ ∃ g o : Nat, p = some ⟨g, o, none⟩ ∧
  w.cell? ⟨g, o + j * 5, none⟩ = some (.int .i64 x.1.op) ∧ w.cell? ⟨g, o + j * 5 + 1, none⟩ = some (.int .i64 x.1.a) ∧ w.cell? ⟨g, o + j * 5 + 2, none⟩ = some (.int .i64 x.1.b) ∧ w.cell? ⟨g, o + j * 5 + 3, none⟩ = some (.int .i64 x.1.to) ∧ w.cell? ⟨g, o + j * 5 + 4, none⟩ = some x.2
theorem InsRow.below {w w' : World} {v : Value} {xs : List (In × Value)} (h : InsRow w v xs) (hb : Below w.heap.size w w') : InsRow w' v xs := by
  obtain ⟨p, c, h1, h2, h3⟩ := h
  refine ⟨p, c, h1, h2, fun j x hj => ?_⟩
  obtain ⟨r, g, o, e, c0, c1, c2, c3, c4⟩ := h3 j x hj
  exact ⟨r.later hb, g, o, e, (hb.cell (block_lt_of_cell c0)).trans c0, (hb.cell (block_lt_of_cell c1)).trans c1, (hb.cell (block_lt_of_cell c2)).trans c2, (hb.cell (block_lt_of_cell c3)).trans c3, (hb.cell (block_lt_of_cell c4)).trans c4⟩
/-- A rule's instructions. -/
def InsOf (w : World) (v : Value) (l : List In) : Prop := ∃ xs : List (In × Value), InsRow w v xs ∧ xs.map (fun x => x.1) = l
theorem InsOf.below {w w' : World} {v : Value} {l : List In} (h : InsOf w v l) (hb : Below w.heap.size w w') : InsOf w' v l := by
  obtain ⟨xs, h1, h2⟩ := h
  exact ⟨xs, h1.below hb, h2⟩
theorem InsOf.form {w : World} {v : Value} {l : List In} (h : InsOf w v l) : ∃ p c, v = .slice p l.length c ∧ l.length < 9223372036854775808 ∧ ∀ (j : Nat) (x : In), l[j]? = some x → ∃ sv : Value, RowV w sv x.sp ∧ ∃ g o : Nat, p = some ⟨g, o, none⟩ ∧
    w.cell? ⟨g, o + j * 5, none⟩ = some (.int .i64 x.op) ∧ w.cell? ⟨g, o + j * 5 + 1, none⟩ = some (.int .i64 x.a) ∧ w.cell? ⟨g, o + j * 5 + 2, none⟩ = some (.int .i64 x.b) ∧ w.cell? ⟨g, o + j * 5 + 3, none⟩ = some (.int .i64 x.to) ∧ w.cell? ⟨g, o + j * 5 + 4, none⟩ = some sv := by
  obtain ⟨xs, ⟨p, c, h1, h2, h3⟩, rfl⟩ := h
  rw [List.length_map]
  refine ⟨p, c, h1, h2, fun j x hj => ?_⟩
  rw [List.getElem?_map] at hj
  obtain ⟨y, hy, rfl⟩ := Option.map_eq_some_iff.1 hj
  obtain ⟨r, g, o, e, hc⟩ := h3 j y hy
  exact ⟨y.2, r, g, o, e, hc⟩
/-- Code in memory. -/
def InC (w : World) (v : Value) (us : List (Cd × Value)) : Prop := ∃ p c, v = .slice p us.length c ∧ us.length < 9223372036854775808 ∧ ∀ (j : Nat) (u : Cd × Value), us[j]? = some u → InsOf w u.2 u.1.ins ∧ ∃ g o : Nat, p = some ⟨g, o, none⟩ ∧
  w.cell? ⟨g, o + j * 3, none⟩ = some u.2 ∧ w.cell? ⟨g, o + j * 3 + 1, none⟩ = some (.int .i64 u.1.high) ∧ w.cell? ⟨g, o + j * 3 + 2, none⟩ = some (.int .i64 u.1.steps)
theorem InC.below {w w' : World} {v : Value} {us : List (Cd × Value)} (h : InC w v us) (hb : Below w.heap.size w w') : InC w' v us := by
  obtain ⟨p, c, h1, h2, h3⟩ := h
  refine ⟨p, c, h1, h2, fun j u hj => ?_⟩
  obtain ⟨r, g, o, e, c0, c1, c2⟩ := h3 j u hj
  exact ⟨r.below hb, g, o, e, (hb.cell (block_lt_of_cell c0)).trans c0, (hb.cell (block_lt_of_cell c1)).trans c1, (hb.cell (block_lt_of_cell c2)).trans c2⟩
/-- The code of rules that came in. -/
def InV (w : World) (v : Value) (cs : List Cd) : Prop := ∃ us : List (Cd × Value), InC w v us ∧ us.map (fun u => u.1) = cs
theorem InV.below {w w' : World} {v : Value} {cs : List Cd} (h : InV w v cs) (hb : Below w.heap.size w w') : InV w' v cs := by
  obtain ⟨xs, h1, h2⟩ := h
  exact ⟨xs, h1.below hb, h2⟩
theorem InV.form {w : World} {v : Value} {cs : List Cd} (h : InV w v cs) : ∃ p c, v = .slice p cs.length c ∧ cs.length < 9223372036854775808 ∧ ∀ (j : Nat) (u : Cd), cs[j]? = some u → ∃ sv : Value, InsOf w sv u.ins ∧ ∃ g o : Nat, p = some ⟨g, o, none⟩ ∧
    w.cell? ⟨g, o + j * 3, none⟩ = some sv ∧ w.cell? ⟨g, o + j * 3 + 1, none⟩ = some (.int .i64 u.high) ∧ w.cell? ⟨g, o + j * 3 + 2, none⟩ = some (.int .i64 u.steps) := by
  obtain ⟨xs, ⟨p, c, h1, h2, h3⟩, rfl⟩ := h
  rw [List.length_map]
  refine ⟨p, c, h1, h2, fun j x hj => ?_⟩
  rw [List.getElem?_map] at hj
  obtain ⟨y, hy, rfl⟩ := Option.map_eq_some_iff.1 hj
  obtain ⟨r, g, o, e, hc⟩ := h3 j y hy
  exact ⟨y.2, r, g, o, e, hc⟩
theorem codeType : Try.prog.underlying 36 = some (.struct (Try.prog.fieldsOf 36)) := by kernel_rfl
set_option maxRecDepth 100000 in
set_option maxHeartbeats 2000000 in
theorem valone_any (c : Cd) (sv : Value) (r : Nat) (w : World) (h : InsOf w sv c.ins) : Calls Try.prog 30 #[.agg #[sv, .int .i64 c.high, .int .i64 c.steps], .int .i64 (r : Int)] w fun e w' => e = .returned (.int .i64 (aloneE c r)) ∧ Below w.heap.size w w' := by
  obtain ⟨p, cp, rfl, hlen, hc⟩ := h.form
  have HC := hidv hc
  clear hc h
  generalize hX : aloneE c r = X
  unfold aloneE at hX
  obtain ⟨l, hi, st⟩ := c
  dsimp only at hX hlen HC ⊢
  have hbA := (Below.refl w.heap.size w).alloc (Nat.le_refl _) (.cells #[.slice p l.length cp, .int .i64 hi, .int .i64 st] 36)
  have hxA := heap_alloc_new w (.cells #[.slice p l.length cp, .int .i64 hi, .int .i64 st] 36)
  generalize hwA : w.alloc (.cells #[.slice p l.length cp, .int .i64 hi, .int .i64 st] 36) = wA at *
  have z0 := (cell_of_row _ _ 0 _ _ _ hxA).trans rfl
  have z1 := (cell_of_row _ _ 1 _ _ _ hxA).trans rfl
  have z2 := (cell_of_row _ _ 2 _ _ _ hxA).trans rfl
  have hl0 : (0 : Int) ≤ (l.length : Int) := by omega
  have c1 := within_any (l.length : Int) 1 2000 wA
  by_cases h1 : 1 ≤ l.length ∧ l.length ≤ 2000
  · rw [if_neg (fun e => e h1)] at hX
    rw [decide_eq_true (show (1 : Int) ≤ (l.length : Int) ∧ (l.length : Int) ≤ 2000 by omega)] at c1
    have c2 := within_any hi 1 100 wA
    by_cases h2 : 1 ≤ hi ∧ hi ≤ 100
    · rw [decide_eq_true h2] at c2
      have c3 := within_any st 1 20000 wA
      by_cases h3 : 1 ≤ st ∧ st ≤ 20000
      · rw [decide_eq_true h3] at c3
        rw [if_neg (fun e => e ⟨h2, h3⟩)] at hX
        have HS : Hid (insL (l.drop 0) 0 l.length r = X) := hX
        clear hX h2 h3
        go_enter Try.func30, Try.ntmps30
        go_wp2_with fail
        refine c1.mono ?_
        rintro e w1 ⟨rfl, rfl⟩
        clear c1
        go_wp2_with fail
        refine c2.mono ?_
        rintro e w2 ⟨rfl, rfl⟩
        clear c2
        go_wp2_with fail
        refine c3.mono ?_
        rintro e w3 ⟨rfl, rfl⟩
        clear c3
        go_wp2_with fail
        go_loopw [26] (fun t wr => ∃ j : Nat, t = .int .i64 (j : Int) ∧ j ≤ l.length ∧ insL (l.drop j) j l.length r = X ∧ wr.heap[w.heap.size]? = some (.cells #[.slice p l.length cp, .int .i64 hi, .int .i64 st] 36 (0, 0)) ∧ Below w.heap.size w wr) (fun t _ => l.length - (intOf t).toNat)
        case atStart => exact ⟨0, rfl, by omega, HS.out, hxA, hbA⟩
        case round =>
          obtain ⟨j, rfl, hj, hXr, hxr, hbr⟩ := hrel
          clear HS hxA hbA z0 z1 z2 hwA
          have hj0 : (0 : Int) ≤ (j : Int) := by omega
          by_cases hlt : j < l.length
          · have hlt' : (j : Int) < (l.length : Int) := by omega
            obtain ⟨x, hjk⟩ : ∃ x, l[j]? = some x := ⟨l[j], List.getElem?_eq_getElem hlt⟩
            rw [insL_step hjk] at hXr
            obtain ⟨sk, hrow, g, o, hpe, e0, e1, e2, e3, e4⟩ := HC.out j _ hjk
            subst hpe
            have d0 := (hbr.cell (block_lt_of_cell e0)).trans e0
            have d1 := (hbr.cell (block_lt_of_cell e1)).trans e1
            have d2 := (hbr.cell (block_lt_of_cell e2)).trans e2
            have d3 := (hbr.cell (block_lt_of_cell e3)).trans e3
            have d4 := (hbr.cell (block_lt_of_cell e4)).trans e4
            obtain ⟨op, a, b, t, sp⟩ := x
            dsimp only at d0 d1 d2 d3 d4 hrow
            obtain ⟨ps, ck, rfl, _, _⟩ := hrow.form
            have bI := (Below.refl wr.heap.size wr).alloc (Nat.le_refl _) (.cells #[.int .i64 op, .int .i64 a, .int .i64 b, .int .i64 t, .slice ps sp.length ck] 65)
            have hxI := heap_alloc_new wr (.cells #[.int .i64 op, .int .i64 a, .int .i64 b, .int .i64 t, .slice ps sp.length ck] 65)
            have hbI := hbr.trans (bI.mono hbr.size)
            have hxr2 := (bI.block _ (lt_of_block hxr)).trans hxr
            have hi0 := instr_any ⟨op, a, b, t, sp⟩ (.slice ps sp.length ck) j l.length r (wr.alloc (.cells #[.int .i64 op, .int .i64 a, .int .i64 b, .int .i64 t, .slice ps sp.length ck] 65)) (hrow.later hbI) (by omega)
            dsimp only at hi0
            have z0 := (cell_of_row _ _ 0 _ _ _ hxr2).trans rfl
            clear e0 e1 e2 e3 e4 hjk hrow bI hxr
            by_cases hE : insE ⟨op, a, b, t, sp⟩ j l.length r = 0
            · rw [if_neg (fun e => e hE)] at hXr
              rw [hE] at hi0
              have HX := hidv hXr
              clear hXr hE
              go_wp2_with (refine wpList_load_row rfl 65 _ rfl _ rfl _ _ _ _ hxI insType rfl (by kernel_rfl) ?_)
              refine hi0.mono ?_
              rintro e w1 ⟨rfl, hb1⟩
              have hbw := hbI.trans (hb1.mono hbI.size)
              have hxr3 := (hb1.block _ (lt_of_block hxr2)).trans hxr2
              clear hi0 hb1 hbI hxr2 hxI hbr d0 d1 d2 d3 d4 z0
              go_wp2_with fail
              go_roundw
              case rel => exact ⟨j + 1, by go_num, by omega, HX.out, hxr3, hbw⟩
              case measure => simp [intOf]; omega
            · rw [if_pos hE] at hXr
              rw [hXr] at hi0 hE
              have hEb : (X == 0) = false := beq_eq_false_iff_ne.2 hE
              have hEn : (X != 0) = true := by simpa using hE
              clear hXr hE
              go_wp2_with (refine wpList_load_row rfl 65 _ rfl _ rfl _ _ _ _ hxI insType rfl (by kernel_rfl) ?_)
              refine hi0.mono ?_
              rintro e w1 ⟨rfl, hb1⟩
              have hbw := hbI.trans (hb1.mono hbI.size)
              clear hi0 hb1 hbI hxr2 hxI hbr d0 d1 d2 d3 d4 z0
              go_wp2_with fail
              go_ret
              exact ⟨rfl, hbw⟩
          · have hlt' : ¬ (j : Int) < (l.length : Int) := by omega
            have HX : Hid (X = 0) := by
              show _ = _
              rw [← hXr, List.drop_of_length_le (by omega)]
              rfl
            clear hXr HC
            go_wp2_with fail
            go_ret
            exact ⟨by (rw [HX.out]) <;> rfl, hbr⟩
      · rw [decide_eq_false h3] at c3
        rw [if_pos (fun e => h3 e.2)] at hX
        subst hX
        clear h2 h3 HC
        go_enter Try.func30, Try.ntmps30
        go_wp2_with fail
        refine c1.mono ?_
        rintro e w1 ⟨rfl, rfl⟩
        clear c1
        go_wp2_with fail
        refine c2.mono ?_
        rintro e w2 ⟨rfl, rfl⟩
        clear c2
        go_wp2_with fail
        refine c3.mono ?_
        rintro e w3 ⟨rfl, rfl⟩
        clear c3
        go_wp2_with fail
        go_ret
        exact ⟨rfl, hbA⟩
    · rw [decide_eq_false h2] at c2
      rw [if_pos (fun e => h2 e.1)] at hX
      subst hX
      clear h2 HC
      go_enter Try.func30, Try.ntmps30
      go_wp2_with fail
      refine c1.mono ?_
      rintro e w1 ⟨rfl, rfl⟩
      clear c1
      go_wp2_with fail
      refine c2.mono ?_
      rintro e w2 ⟨rfl, rfl⟩
      clear c2
      go_wp2_with fail
      go_ret
      exact ⟨rfl, hbA⟩
  · rw [if_pos h1] at hX
    subst hX
    rw [decide_eq_false (show ¬ ((1 : Int) ≤ (l.length : Int) ∧ (l.length : Int) ≤ 2000) by omega)] at c1
    clear h1 HC
    go_enter Try.func30, Try.ntmps30
    go_wp2_with fail
    refine c1.mono ?_
    rintro e w1 ⟨rfl, rfl⟩
    clear c1
    go_wp2_with fail
    go_ret
    exact ⟨rfl, hbA⟩
theorem faultTypeV : Try.prog.underlying 28 = some (.struct (Try.prog.fieldsOf 28)) := by kernel_rfl
theorem flt_retV {fn : Func} (s : Nat) (h : fn.results = #[ResultVar.cell s 28]) {R : Ending → World → Prop} {a : Act} {w : World} (g : Nat) (er at_ : Int) (hd : a.defers = []) (h2 : a.tmps.getD s undef = .pointer (some ⟨g, 0, none⟩))
    (hg : w.heap[g]? = some (.cells #[.int .i64 er, .int .i64 at_] 28 (0, 0))) (hR : R (.returned (.agg #[.int .i64 er, .int .i64 at_])) w) : bodyPost Try.prog fn R .ret a w := by
  refine bodyPost_ret (v := .agg #[.int .i64 er, .int .i64 at_]) ?_ hd hR
  have h2' : a.tmps[s]?.getD undef = .pointer (some ⟨g, 0, none⟩) := by simpa using h2
  have hv := run_loadVar_row (P := Try.prog) w g 28 28 _ _ _ hg faultTypeV rfl (by kernel_rfl)
  simp [results, h, h2', asAddr, hv]
theorem firstF_step (E : Nat → Int) (n j : Nat) (h : j < n) : firstF E (n - j) j = if E j ≠ 0 then (E j, j) else firstF E (n - (j + 1)) (j + 1) := by
  rw [show n - j = (n - (j + 1)) + 1 by omega]
  rfl
set_option maxRecDepth 100000 in
set_option maxHeartbeats 2000000 in
theorem firstFault_any (E : Nat → Int) (n K : Nat) (C : Array Value) (p : Option Addr) (c : Nat) (w : World) (hn : n < 9223372036854775808) (eK : ∀ args w, (callFunc K args).run Try.prog w = .ok (.enter K args) w)
    (hc : ∀ (i : Nat) (wr : World), i < n → Below w.heap.size w wr → Calls Try.prog K (#[.int .i64 (i : Int)] ++ C) wr fun e w' => e = .returned (.int .i64 (E i)) ∧ Below wr.heap.size wr w') :
    Calls Try.prog 28 #[.slice p n c, .func (.func K) #[] C] w fun e w' => e = .returned (.agg #[.int .i64 (firstF E n 0).1, .int .i64 ((firstF E n 0).2 : Int)]) ∧ Below w.heap.size w w' := by
  have HC := hidv hc
  clear hc
  generalize hX : firstF E n 0 = X
  have HS : Hid (firstF E (n - 0) 0 = X) := hX
  clear hX
  have hb0 := (Below.refl w.heap.size w).alloc (Nat.le_refl _) (.cells #[.int .i64 0, .int .i64 0] 28)
  have hr0 := heap_alloc_new w (.cells #[.int .i64 0, .int .i64 0] 28)
  generalize hwA : w.alloc (.cells #[.int .i64 0, .int .i64 0] 28) = wA at *
  go_enter Try.func28, Try.ntmps28
  go_wp2_with fail
  clear hwA
  go_loopw [9] (fun t wr => ∃ j : Nat, t = .int .i64 (j : Int) ∧ j ≤ n ∧ firstF E (n - j) j = X ∧ wr.heap[w.heap.size]? = some (.cells #[.int .i64 0, .int .i64 0] 28 (0, 0)) ∧ Below w.heap.size w wr) (fun t _ => n - (intOf t).toNat)
  case atStart => exact ⟨0, rfl, by omega, HS.out, hr0, hb0⟩
  case round =>
    obtain ⟨j, rfl, hj, hXr, hrr, hbr⟩ := hrel
    clear HS hr0 hb0
    have hj0 : (0 : Int) ≤ (j : Int) := by omega
    by_cases hlt : j < n
    · have hlt' : (j : Int) < (n : Int) := by omega
      have hc := HC.out j wr hlt hbr
      rw [firstF_step E n j hlt] at hXr
      by_cases hE : E j = 0
      · rw [if_neg (fun e => e hE)] at hXr
        rw [hE] at hc
        have HX := hidv hXr
        clear hXr hE
        go_wp2_with fail
        refine hc.mono ?_
        rintro e w1 ⟨rfl, hb1⟩
        have hbw := hbr.trans (hb1.mono hbr.size)
        have hrr3 := (hb1.block _ (lt_of_block hrr)).trans hrr
        clear hc hb1 hbr hrr
        go_wp2_with fail
        go_roundw
        case rel => exact ⟨j + 1, by go_num, by omega, HX.out, hrr3, hbw⟩
        case measure => simp [intOf]; omega
      · rw [if_pos hE] at hXr
        have HX := hidv hXr
        generalize E j = q at *
        have hEb : (q == 0) = false := beq_eq_false_iff_ne.2 hE
        have hEn : (q != 0) = true := by simpa using hE
        clear hXr hE
        go_wp2_with fail
        refine hc.mono ?_
        rintro e w1 ⟨rfl, hb1⟩
        have hbw := hbr.trans (hb1.mono hbr.size)
        have hrr3 := (hb1.block _ (lt_of_block hrr)).trans hrr
        clear hc hb1 hbr hrr
        have hrr := hrr3
        go_wp2_with (refine wpList_store_row rfl 28 _ _ rfl _ _ rfl rfl _ _ hrr (by kernel_rfl) (by simp) (by simp [Value.oneCell']) ?_)
        exact flt_retV 4 (by kernel_rfl) w.heap.size q (j : Int) rfl rfl (setRow_heap _ _ _ _ _ _ hrr) ⟨by rw [← HX.out], below_setRow hbw (Nat.le_refl _) _⟩
    · have hlt' : ¬ (j : Int) < (n : Int) := by omega
      have HX : Hid (X = (0, 0)) := by
        show _ = _
        rw [← hXr, show n - j = 0 by omega]
        rfl
      clear hXr HC
      go_wp2_with (refine wpList_store_row rfl 28 _ _ rfl _ _ rfl rfl _ _ hrr (by kernel_rfl) (by simp) (by simp [Value.oneCell']) ?_)
      exact flt_retV 4 (by kernel_rfl) w.heap.size 0 0 rfl rfl (setRow_heap _ _ _ _ _ _ hrr) ⟨by (rw [HX.out]) <;> rfl, below_setRow hbr (Nat.le_refl _) _⟩
set_option maxRecDepth 100000 in
set_option maxHeartbeats 2000000 in
theorem wrong1_any (cs : List Cd) (lv : Value) (gl ri : Nat) (w : World) (h : InV w lv cs) (hl : w.cell? ⟨gl, 0, none⟩ = some lv) (hri : ri < cs.length) :
    Calls Try.prog 29 #[.int .i64 (ri : Int), .pointer (some ⟨gl, 0, none⟩)] w fun e w' => e = .returned (.int .i64 (aloneE (cs.getD ri cd0) cs.length)) ∧ Below w.heap.size w w' := by
  obtain ⟨p, cp, rfl, hlen, hc⟩ := h.form
  obtain ⟨u, hiu⟩ : ∃ u, cs[ri]? = some u := ⟨cs[ri], List.getElem?_eq_getElem hri⟩
  obtain ⟨sv, hin, g, o, rfl, e0, e1, e2⟩ := hc ri u hiu
  rw [cd_at hiu]
  have HA : Hid (∀ W, Below w.heap.size w W → Calls Try.prog 30 #[.agg #[sv, .int .i64 u.high, .int .i64 u.steps], .int .i64 (cs.length : Int)] W fun e w' => e = .returned (.int .i64 (aloneE u cs.length)) ∧ Below W.heap.size W w') := fun W hW => valone_any u sv cs.length W (hin.below hW)
  generalize aloneE u cs.length = q at *
  obtain ⟨ul, hi, st⟩ := u
  dsimp only at e1 e2 HA
  have hi0 : (0 : Int) ≤ (ri : Int) := by omega
  have hi1 : (ri : Int) < (cs.length : Int) := by omega
  clear h hc hin hiu
  go_enter Try.func29, Try.ntmps29
  go_wp2_with fail
  refine wp_region_vals (by kernel_rfl) (by kernel_rfl) (by kernel_rfl) (by kernel_rfl) [(4, .slice (some ⟨g, o, none⟩) cs.length cp), (5, .int .i64 (ri : Int)), (6, .pointer (some ⟨g, o + ri * 3, none⟩)), (7, .agg #[sv, .int .i64 hi, .int .i64 st]), (8, .slice (some ⟨g, o, none⟩) cs.length cp), (9, .int .i64 (cs.length : Int)), (10, .int .i64 q), (3, .int .i64 q)] (by kernel_rfl) (by kernel_rfl) ?_ ?_
  · intro i s v o L A W ho hv hdep hJ hkept hhas
    match i, ho, hv with
    | 0, ho, hv =>
      cases Option.some.inj ho
      cases Option.some.inj hv
      have h1 : A.tmps[1]?.getD undef = .pointer (some ⟨gl, 0, none⟩) := (gd A 1).trans (hkept 1 (by kernel_rfl))
      have z := (hJ.cell (block_lt_of_cell hl)).trans hl
      refine wpOp_step rfl (fun K hK => ?_)
      go_simp
      exact hK _ _ ⟨rfl, Below.refl _ _⟩
    | 1, ho, hv =>
      cases Option.some.inj ho
      cases Option.some.inj hv
      have h0 : A.tmps[0]?.getD undef = .int .i64 (ri : Int) := (gd A 0).trans (hkept 0 (by kernel_rfl))
      refine wpOp_step rfl (fun K hK => ?_)
      go_simp
      exact hK _ _ ⟨rfl, Below.refl _ _⟩
    | 2, ho, hv =>
      cases Option.some.inj ho
      cases Option.some.inj hv
      have h4 : A.tmps[4]?.getD undef = .slice (some ⟨g, o, none⟩) cs.length cp := (gd A 4).trans (hhas 0 4 _ rfl (hdep ⟨0, .data⟩ (by simp) rfl))
      have h5 : A.tmps[5]?.getD undef = .int .i64 (ri : Int) := (gd A 5).trans (hhas 1 5 _ rfl (hdep ⟨1, .data⟩ (by simp) rfl))
      refine wpOp_step rfl (fun K hK => ?_)
      go_simp
      exact hK _ _ ⟨rfl, Below.refl _ _⟩
    | 3, ho, hv =>
      cases Option.some.inj ho
      cases Option.some.inj hv
      have h6 : A.tmps[6]?.getD undef = .pointer (some ⟨g, o + ri * 3, none⟩) := (gd A 6).trans (hhas 2 6 _ rfl (hdep ⟨2, .data⟩ (by simp) rfl))
      have f0 := (hJ.cell (block_lt_of_cell e0)).trans e0
      have f1 := (hJ.cell (block_lt_of_cell e1)).trans e1
      have f2 := (hJ.cell (block_lt_of_cell e2)).trans e2
      refine wpOp_step rfl (fun K hK => ?_)
      go_simp
      exact hK _ _ ⟨rfl, Below.refl _ _⟩
    | 4, ho, hv =>
      cases Option.some.inj ho
      cases Option.some.inj hv
      have h1 : A.tmps[1]?.getD undef = .pointer (some ⟨gl, 0, none⟩) := (gd A 1).trans (hkept 1 (by kernel_rfl))
      have z := (hJ.cell (block_lt_of_cell hl)).trans hl
      refine wpOp_step rfl (fun K hK => ?_)
      go_simp
      exact hK _ _ ⟨rfl, Below.refl _ _⟩
    | 5, ho, hv =>
      cases Option.some.inj ho
      cases Option.some.inj hv
      have h8 : A.tmps[8]?.getD undef = .slice (some ⟨g, o, none⟩) cs.length cp := (gd A 8).trans (hhas 4 8 _ rfl (hdep ⟨4, .data⟩ (by simp) rfl))
      refine wpOp_step rfl (fun K hK => ?_)
      go_simp
      exact hK _ _ ⟨rfl, Below.refl _ _⟩
    | 6, ho, hv =>
      cases Option.some.inj ho
      cases Option.some.inj hv
      have h7 : A.tmps[7]?.getD undef = .agg #[sv, .int .i64 hi, .int .i64 st] := (gd A 7).trans (hhas 3 7 _ rfl (hdep ⟨3, .data⟩ (by simp) rfl))
      have h9 : A.tmps[9]?.getD undef = .int .i64 (cs.length : Int) := (gd A 9).trans (hhas 5 9 _ rfl (hdep ⟨5, .data⟩ (by simp) rfl))
      refine wpOp_step rfl (fun K hK => ?_)
      go_simp
      refine (HA.out W hJ).mono ?_
      rintro e' W' ⟨rfl, hb'⟩
      exact hK _ _ ⟨rfl, hb'⟩
    | 7, ho, hv =>
      cases Option.some.inj ho
      cases Option.some.inj hv
      have h10 : A.tmps[10]?.getD undef = .int .i64 q := (gd A 10).trans (hhas 6 10 _ rfl (hdep ⟨6, .data⟩ (by simp) rfl))
      refine wpOp_step rfl (fun K hK => ?_)
      go_simp
      exact hK _ _ ⟨rfl, Below.refl _ _⟩
    | k + 8, ho, hv => simp at ho
  · intro W hJ
    simp only [putAll_cons, putAll_nil]
    go_simp
    go_wp2_with fail
    go_ret
    exact ⟨rfl, hJ⟩
end Go.Proofs.Ytaeengpppehlfaa

/- vm.has, vm.exchange; rows of bits in memory. -/
namespace Go.Proofs.Ytaeengpppehlfaa
open Go.RowKit Msk Vx

theorem bit_has (f : Nat → Bool) (n : Nat) (hn : n < 64) : (bits BinOp.and IntKind.u64 ((wd f 0 : Int) / 2 ^ n) 1 == 1) = f n := by
  have e1 : ((wd f 0 : Int) / 2 ^ n) = ((wd f 0 / 2 ^ n : Nat) : Int) := by push_cast; rfl
  have hlt : wd f 0 / 2 ^ n < 18446744073709551616 := Nat.lt_of_le_of_lt (Nat.div_le_self _ _) (wd_lt f 0)
  have e2 : bits BinOp.and IntKind.u64 ((wd f 0 / 2 ^ n : Nat) : Int) 1 = ((wd f 0 / 2 ^ n &&& 1 : Nat) : Int) := by
    have := bits_and_u64_nat (wd f 0 / 2 ^ n) 1 hlt (by decide)
    exact this
  rw [e1, e2, Nat.and_one_is_mod]
  have hb := wd_bit f 0 n
  rw [decide_eq_true hn, Bool.true_and, Nat.mul_zero, Nat.zero_add] at hb
  have h3 : (wd f 0).testBit n = decide ((wd f 0 / 2 ^ n) % 2 = 1) := by
    rw [Nat.testBit_eq_decide_div_mod_eq]
  rw [← hb, h3]
  have : wd f 0 / 2 ^ n % 2 = 0 ∨ wd f 0 / 2 ^ n % 2 = 1 := by omega
  rcases this with h | h
  · rw [h]; rfl
  · rw [h]; rfl
set_option maxHeartbeats 400000 in
theorem has_any (f : Nat → Bool) (n : Nat) (hn : n < 64) (w : World) : Calls Try.prog 33 #[.int .u64 (wd f 0 : Int), .int .i64 (n : Int)] w fun e w' => e = .returned (.bool (f n)) ∧ w' = w := by
  have h0 : (0 : Int) ≤ (n : Int) := by omega
  have h1 : (n : Int) < 64 := by omega
  have HB := hidv (bit_has f n hn)
  go_enter Try.func33, Try.ntmps33
  go_wp2_with fail
  go_ret
  exact ⟨congrArg (fun b => Ending.returned (.bool b)) HB.out, rfl⟩
/-- How many it takes, and puts. -/
theorem exchange_any (x : In) (w : World) : Calls Try.prog 74 #[.int .i64 x.op] w fun e w' => e = .returned (.tuple #[.int .i64 (tk x), .int .i64 (tk x + eff x)]) ∧ w' = w := by
  obtain ⟨op, a, b, t, sp⟩ := x
  unfold tk eff
  dsimp only
  by_cases h1 : op = 1
  · subst h1
    go_enter Try.func74, Try.ntmps74
    go_wp2_with fail
    exact bodyPost_ret (v := .tuple #[.int .i64 0, .int .i64 1]) (by simp [results, Try.results74, go_sem]) rfl ⟨rfl, rfl⟩
  by_cases h8 : op = 8
  · subst h8
    go_enter Try.func74, Try.ntmps74
    go_wp2_with fail
    exact bodyPost_ret (v := .tuple #[.int .i64 0, .int .i64 1]) (by simp [results, Try.results74, go_sem]) rfl ⟨rfl, rfl⟩
  by_cases h5 : op = 5
  · subst h5
    go_enter Try.func74, Try.ntmps74
    go_wp2_with fail
    exact bodyPost_ret (v := .tuple #[.int .i64 1, .int .i64 1]) (by simp [results, Try.results74, go_sem]) rfl ⟨rfl, rfl⟩
  by_cases h2 : op = 2
  · subst h2
    go_enter Try.func74, Try.ntmps74
    go_wp2_with fail
    exact bodyPost_ret (v := .tuple #[.int .i64 2, .int .i64 1]) (by simp [results, Try.results74, go_sem]) rfl ⟨rfl, rfl⟩
  by_cases h3 : op = 3
  · subst h3
    go_enter Try.func74, Try.ntmps74
    go_wp2_with fail
    exact bodyPost_ret (v := .tuple #[.int .i64 2, .int .i64 1]) (by simp [results, Try.results74, go_sem]) rfl ⟨rfl, rfl⟩
  by_cases h4 : op = 4
  · subst h4
    go_enter Try.func74, Try.ntmps74
    go_wp2_with fail
    exact bodyPost_ret (v := .tuple #[.int .i64 2, .int .i64 1]) (by simp [results, Try.results74, go_sem]) rfl ⟨rfl, rfl⟩
  rw [if_neg h5, if_neg (by omega), if_neg (by omega), if_neg (by omega)]
  have b1 : (op == 1) = false := beq_eq_false_iff_ne.2 h1
  have b2 : (op == 2) = false := beq_eq_false_iff_ne.2 h2
  have b3 : (op == 3) = false := beq_eq_false_iff_ne.2 h3
  have b4 : (op == 4) = false := beq_eq_false_iff_ne.2 h4
  have b5 : (op == 5) = false := beq_eq_false_iff_ne.2 h5
  have b8 : (op == 8) = false := beq_eq_false_iff_ne.2 h8
  go_enter Try.func74, Try.ntmps74
  go_wp2_with fail
  exact bodyPost_ret (v := .tuple #[.int .i64 0, .int .i64 0]) (by simp [results, Try.results74, go_sem]) rfl ⟨rfl, rfl⟩
/-- Rows of bits as cells. -/
def ucells (n : Nat) (R : Nat → Nat → Bool) : Array Value := ((List.range n).map fun i => Value.int .u64 (wd (R i) 0 : Int)).toArray
theorem ucells_at {n : Nat} {R : Nat → Nat → Bool} {i : Nat} (h : i < n) : (ucells n R)[i]? = some (.int .u64 (wd (R i) 0 : Int)) := by
  simp [ucells, h]
theorem ucells_ext {n : Nat} {R R' : Nat → Nat → Bool} (h : ∀ i k, i < n → k < 64 → R i k = R' i k) : ucells n R = ucells n R' := by
  unfold ucells
  congr 1
  apply List.map_congr_left
  intro i hi
  rw [wd_ext fun j hj => ?_]
  rw [Nat.mul_zero, Nat.zero_add]
  exact h i j (List.mem_range.1 hi) hj
def updR (R : Nat → Nat → Bool) (i : Nat) (f : Nat → Bool) : Nat → Nat → Bool := fun r k => if r = i then f k else R r k
theorem ucells_set {n : Nat} {R : Nat → Nat → Bool} {i : Nat} {f : Nat → Bool} : (ucells n R).setIfInBounds i (.int .u64 (wd f 0 : Int)) = ucells n (updR R i f) := by
  apply Array.ext
  · simp [ucells]
  · intro k h1 h2
    have hk : k < n := by simpa [ucells] using h2
    rw [Array.getElem_setIfInBounds (by simpa [ucells] using hk)]
    by_cases e : i = k
    · subst e
      have hu : updR R i f i = f := by funext q; simp [updR]
      simp [ucells, hu]
    · rw [if_neg e]
      have hu : updR R i f k = R k := by funext q; simp [updR, show k ≠ i from fun h => e h.symm]
      simp [ucells, hu]
theorem ucells_none (n : Nat) : madeCells #[Value.int .u64 0] n = ucells n (fun _ _ => false) := by
  apply Array.ext
  · simp [ucells, madeCells]
  · intro k h1 h2
    simp [ucells, madeCells, Nat.mod_one, wd_zero]
/-- Bits in memory, made since. -/
structure UcM (w : World) (n : Nat) (R : Nat → Nat → Bool) (W : World) : Prop where
  bel : Below w.heap.size w W
  row : W.heap[w.heap.size]? = some (.cells (ucells n R) 23 (0, 0))
theorem UcM.below {w W W' : World} {n : Nat} {R : Nat → Nat → Bool} (h : UcM w n R W) (hb : Below W.heap.size W W') : UcM w n R W' :=
  ⟨h.bel.trans (hb.mono h.bel.size), (hb.block _ (lt_of_block h.row)).trans h.row⟩
theorem UcM.same {w W : World} {n : Nat} {R R' : Nat → Nat → Bool} (h : UcM w n R W) (he : ∀ i k, i < n → k < 64 → R i k = R' i k) : UcM w n R' W :=
  ⟨h.bel, by rw [h.row, ucells_ext he]⟩
theorem UcM.cell {w W : World} {n : Nat} {R : Nat → Nat → Bool} (h : UcM w n R W) {i : Nat} (hi : i < n) : W.cell? ⟨w.heap.size, i, none⟩ = some (.int .u64 (wd (R i) 0 : Int)) := (cell_of_row _ _ i _ _ _ h.row).trans (ucells_at hi)
theorem UcM.frz {w W : World} {n : Nat} {R : Nat → Nat → Bool} (h : UcM w n R W) (i : Nat) : W.frozen? ⟨w.heap.size, i, none⟩ = false := frozen_of_row _ _ i _ _ h.row
theorem UcM.set {w W : World} {n : Nat} {R : Nat → Nat → Bool} (h : UcM w n R W) (i : Nat) (f : Nat → Bool) : UcM w n (updR R i f) (W.setCell ⟨w.heap.size, i, none⟩ (.int .u64 (wd f 0 : Int))) := by
  refine ⟨h.bel.setCell (Nat.le_refl _) _, ?_⟩
  rw [← ucells_set]
  exact heap_setCell_same W w.heap.size i _ _ _ h.row
end Go.Proofs.Ytaeengpppehlfaa
