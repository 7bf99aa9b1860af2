/- The law MatchMore, walked. Written by genman.py. -/
import Derived.Test.YtlhjgajhcabhoaaDoorMn10
import Derived.Test.YtlhjgajhcabhoaaDoorMn02
import Derived.Test.YtlhjgajhcabhoaaDoorMn04
import Derived.Test.YtlhjgajhcabhoaaDoorMn06
import Derived.Deep.MidRow
import Derived.Deep.Cut
namespace Go.Proofs.YtlhjgajhcabhoaaDoor
open Go.RowKit Msk Mx Lx

def uni (f g : Nat → Bool) : Nat → Bool := fun i => (f i || g i) && decide (i < 1440)
theorem ok_more {fs : List (Nat → Bool)} {rn : Nat} {f g : Nat → Bool} (hf : fs[rn]? = some f) {x y r : Int} (h : okP fs x y r = true) : okP (fs.set rn (uni f g)) x y r = true := by
  rw [okP_iff] at h ⊢
  obtain ⟨h1, h2, h3, h4⟩ := h
  refine ⟨h1, h2, h3, fun i hi hi' => ?_⟩
  have := h4 i hi hi'
  by_cases e : r.toNat = rn
  · have hl := (List.getElem?_eq_some_iff.1 hf).1
    rw [e] at this ⊢
    rw [show fs.getD rn (fun _ => false) = f by simp [List.getD, hf]] at this
    rw [show (fs.set rn (uni f g)).getD rn (fun _ => false) = uni f g by simp [List.getD, hl]]
    unfold uni
    rw [this, decide_eq_true (by omega)]
    rfl
  · rw [show (fs.set rn (uni f g)).getD r.toNat (fun _ => false) = fs.getD r.toNat (fun _ => false) by simp [List.getD, Ne.symm e]]
    exact this
theorem fit_more {s : Sv} {fs : List (Nat → Bool)} {rn : Nat} {f g : Nat → Bool} (hf : fs[rn]? = some f) {m : Int} {who : List Int} (h : Fit s fs m who) : Fit s (fs.set rn (uni f g)) m who :=
  ⟨h.len, h.mem, h.nd, fun _ hr => ok_more hf (h.ok _ hr)⟩
theorem daysE_len {s : Sv} : ∀ {l k : List (List (Nat → Bool))}, l.map List.length = k.map List.length → daysE s l = daysE s k
  | [], [], _ => rfl
  | [], _ :: _, h => by simp at h
  | _ :: _, [], h => by simp at h
  | d :: l, e :: k, h => by
    simp only [List.map_cons, List.cons.injEq] at h
    rw [daysE, daysE, h.1, daysE_len h.2]
/-- Who is freer is no later. -/
theorem find_more {s : Sv} {ds : List (List (Nat → Bool))} {dn rn : Nat} {fs : List (Nat → Bool)} {f g : Nat → Bool} (hd : ds[dn]? = some fs) (hf : fs[rn]? = some f) {sd sm : Int} {who : List Int} (h : findP s ds = ⟨0, sd, sm, who⟩) : (findP s (ds.set dn (fs.set rn (uni f g)))).err = 0 ∧ ((findP s (ds.set dn (fs.set rn (uni f g)))).day < sd ∨ (findP s (ds.set dn (fs.set rn (uni f g)))).day = sd ∧ (findP s (ds.set dn (fs.set rn (uni f g)))).min ≤ sm) := by
  have hz := find_zero (s := s) (ds := ds) (by rw [h])
  rw [h] at hz
  obtain ⟨h1, h2, d0, fs0, e1, e2, e3, _⟩ := hz
  dsimp only at e1 e3
  have hdl := (List.getElem?_eq_some_iff.1 hd).1
  have hE : daysE s (ds.set dn (fs.set rn (uni f g))) = 0 := by
    rw [← h2]
    refine daysE_len ?_
    rw [List.map_set, List.length_set]
    apply List.ext_getElem?
    intro i
    rw [List.getElem?_set]
    by_cases e : dn = i
    · subst e
      rw [if_pos rfl, if_pos (by simpa using hdl), List.getElem?_map, hd]
      rfl
    · rw [if_neg e]
  have hS0 := days_ok h2 d0 fs0 e2
  obtain ⟨fs1, k1, hfit⟩ : ∃ fs1, (ds.set dn (fs.set rn (uni f g)))[d0]? = some fs1 ∧ Fit s fs1 sm who := by
    rw [List.getElem?_set]
    by_cases e : dn = d0
    · subst e
      rw [hd] at e2
      cases Option.some.inj e2
      rw [if_pos rfl, if_pos hdl]
      exact ⟨_, rfl, fit_more hf (first_some hS0 e3).1⟩
    · rw [if_neg e]
      exact ⟨fs0, e2, (first_some hS0 e3).1⟩
  have hS1 := days_ok hE d0 fs1 k1
  cases hF : daysF s (ds.set dn (fs.set rn (uni f g))) 0 with
  | none => exact absurd hfit (first_none hS1 (daysF_none hF fs1 (List.mem_of_getElem? k1)) sm who)
  | some x =>
    have hP : findP s (ds.set dn (fs.set rn (uni f g))) = ⟨0, (x.1 : Int), x.2.1, x.2.2⟩ := by
      unfold findP
      rw [if_neg (by rw [List.length_set]; omega), if_neg (by rw [hE]; simp), hF]
    obtain ⟨k, gs, q1, q2, q3, q4⟩ := daysF_some hF
    rw [hP]
    refine ⟨rfl, ?_⟩
    dsimp only
    by_cases hk : d0 < k
    · exact absurd hfit (first_none hS1 (q4 d0 fs1 hk k1) sm who)
    · by_cases hk2 : k = d0
      · subst hk2
        rw [k1] at q2
        cases Option.some.inj q2
        right
        refine ⟨by omega, ?_⟩
        rcases (first_some hS1 q3).2 sm who hfit with h | ⟨h, _⟩ <;> omega
      · left
        omega
/-- The values of days' row. -/
theorem rowDs_vals {w : World} {p : Option Addr} {c : Nat} : ∀ {ds : List (List (Nat → Bool))}, RowDs w (.slice p ds.length c) ds → ∃ vs : List Value, vs.length = ds.length ∧ ∀ (j : Nat) (fs : List (Nat → Bool)), ds[j]? = some fs → ∃ (g o : Nat) (sv : Value), p = some ⟨g, o, none⟩ ∧ vs[j]? = some sv ∧ w.cell? ⟨g, o + j, none⟩ = some sv ∧ RowMk w sv fs := by
  intro ds h
  obtain ⟨_, _, e, _, h3⟩ := h
  cases e
  have each : ∀ j : Nat, j < ds.length → ∃ sv : Value, ∀ fs, ds[j]? = some fs → ∃ g o : Nat, p = some ⟨g, o, none⟩ ∧ w.cell? ⟨g, o + j, none⟩ = some sv ∧ RowMk w sv fs := fun j hj => by
    obtain ⟨g, o, sv, h1, h2, h4⟩ := h3 j _ (List.getElem?_eq_getElem hj)
    exact ⟨sv, fun fs hfs => by
      rw [List.getElem?_eq_getElem hj] at hfs
      cases Option.some.inj hfs
      exact ⟨g, o, h1, h2, h4⟩⟩
  let pick : Nat → Value := fun j => if h : j < ds.length then Classical.choose (each j h) else undef
  refine ⟨(List.range ds.length).map pick, by simp, fun j fs hj => ?_⟩
  have hjl := (List.getElem?_eq_some_iff.1 hj).1
  have hsp := Classical.choose_spec (each j hjl) fs hj
  obtain ⟨g, o, h1, h2, h4⟩ := hsp
  refine ⟨g, o, Classical.choose (each j hjl), h1, ?_, h2, h4⟩
  rw [List.getElem?_map, List.getElem?_range hjl]
  simp [pick, hjl]
end Go.Proofs.YtlhjgajhcabhoaaDoor

/- A region in the text's order, whose values are known beforehand: said as of one that draws its order. It speaks of no program. -/
namespace Go.Proofs.YtlhjgajhcabhoaaDoor
open Go Go.RowKit
section
variable {P : Program} {ops : Array Oper} {Q : Exit → Act → World → Prop} {id : Nat} {a0 : Act} {w : World}
theorem back_of (hB : backB ops = true) {i : Nat} {o : Oper} (ho : ops[i]? = some o) : ∀ e ∈ o.after, Region.binds .any e = true → e.on < i := fun e he hb => by
  have hi : i < ops.size := (Array.getElem?_eq_some_iff.1 ho).1
  have h1 := List.all_eq_true.1 hB i (by simpa using hi)
  rw [ho] at h1
  have h2 := Array.all_eq_true'.1 h1 e he
  rw [hb] at h2
  simpa using h2
theorem dst_ne (hD : dstB ops = true) {i j s t : Nat} {p q : Oper} (hp : ops[i]? = some p) (hq : ops[j]? = some q) (hs : p.dst = some s) (ht : q.dst = some t) (hij : i ≠ j) : s ≠ t := by
  have hi : i < ops.size := (Array.getElem?_eq_some_iff.1 hp).1
  have hj : j < ops.size := (Array.getElem?_eq_some_iff.1 hq).1
  have h1 := List.all_eq_true.1 hD i (by simpa using hi)
  have h2 := List.all_eq_true.1 h1 j (by simpa using hj)
  rw [hp, hq] at h2
  simp only [Option.bind_some, hs, ht] at h2
  have h3 : (i == j) = false := by simpa using hij
  rw [h3] at h2
  simpa using h2
theorem wp_plain_JL (J : (Nat → Bool) → World → Prop) (hJ0 : ∀ L : Nat → Bool, (∀ i, i < ops.size → L i = false) → J L w) (hJe : ∀ (L L' : Nat → Bool) (W : World), (∀ k, k < ops.size → L k = L' k) → J L W → J L' W) (hback : backB ops = true) (hdst : dstB ops = true) (hin : inB ops a0.tmps.size = true) (ds : List (Option Nat × Value)) (es : List (Nat × Value))
    (hds : ops.toList.map (fun o => o.dst) = ds.map (fun p => p.1)) (hes : ds.filterMap (fun p => p.1.map fun s => (s, p.2)) = es) (hnd : decide ((es.map (fun p => p.1)).Nodup) = true)
    (hstep : StepL P ops Q ds a0 J) (hend : ∀ (L : Nat → Bool) (W : World), (∀ i, i < ops.size → L i = true) → J L W → Q .normal (putAll es a0) W) : (Code.region id ops false).wp P Q a0 w := by
  have hl : ds.length = ops.size := by
    have h := congrArg List.length hds
    simpa using h.symm
  have atD : ∀ {j : Nat} {p : Oper}, ops[j]? = some p → ∃ v, ds[j]? = some (p.dst, v) := fun {j p} hp => by
    have h1 : (ops.toList.map (fun o => o.dst))[j]? = some p.dst := by
      rw [List.getElem?_map, Array.getElem?_toList, hp]
      rfl
    rw [hds, List.getElem?_map] at h1
    cases hs : ds[j]? with
    | none => rw [hs] at h1; cases h1
    | some q =>
      rw [hs] at h1
      exact ⟨q.2, by rw [← Option.some.inj h1]⟩
  have atO : ∀ {j : Nat} {d : Option Nat} {v : Value}, ds[j]? = some (d, v) → ∃ p, ops[j]? = some p ∧ p.dst = d := fun {j d v} hj => by
    have hj' := (List.getElem?_eq_some_iff.1 hj).1
    obtain ⟨p, hp⟩ : ∃ p, ops[j]? = some p := ⟨ops[j]'(by omega), Array.getElem?_eq_getElem _⟩
    obtain ⟨v', hv'⟩ := atD hp
    rw [hj] at hv'
    exact ⟨p, hp, (congrArg Prod.fst (Option.some.inj hv')).symm⟩
  have main : ∀ (m k : Nat) (A : Act) (W : World), k + m = ops.size → A.defers = a0.defers → A.tmps.size = a0.tmps.size →
      (∀ s, (∀ (j : Nat) (p : Oper), ops[j]? = some p → j < k → p.dst ≠ some s) → A.tmps.getD s undef = a0.tmps.getD s undef) →
      (∀ (j s : Nat) (u : Value), ds[j]? = some (some s, u) → j < k → A.tmps.getD s undef = u) → J (fun j => decide (j < k)) W → wpOps P ops Q (List.range' k m) A W := by
    intro m
    induction m with
    | zero =>
      intro k A W hk hdef hsize hkept hhas hJ
      show Q .normal A W
      have e : A = putAll es a0 := by
        refine act_is es hdef hsize (by
          have := of_decide_eq_true hnd
          rw [show es.map (fun p => some p.1) = (es.map (fun p => p.1)).map some by rw [List.map_map]; rfl]
          rw [List.nodup_iff_pairwise_ne] at this ⊢
          rw [List.pairwise_map]
          exact this.imp fun hab e => hab (Option.some.inj e)) (fun s h => hkept s fun j p hp _ e => ?_) (fun j s v hj => ?_)
        · obtain ⟨v, hv⟩ := atD hp
          refine h (s, v) ?_ rfl
          rw [← hes, List.mem_filterMap]
          exact ⟨_, List.mem_of_getElem? hv, by rw [e]; rfl⟩
        · have hm' := List.mem_of_getElem? hj
          rw [← hes, List.mem_filterMap] at hm'
          obtain ⟨q, hq, hqe⟩ := hm'
          obtain ⟨i, hi⟩ := List.getElem?_of_mem hq
          obtain ⟨d, v'⟩ := q
          cases d with
          | none => cases hqe
          | some t =>
            have h2 := Option.some.inj hqe
            have h3 : t = s := congrArg Prod.fst h2
            have h4 : v' = v := congrArg Prod.snd h2
            subst h3 h4
            exact hhas i t _ hi (by have := (List.getElem?_eq_some_iff.1 hi).1; omega)
      rw [e]
      exact hend _ W (fun i hi => by simp; omega) hJ
    | succ m ih =>
      intro k A W hk hdef hsize hkept hhas hJ
      rw [List.range'_succ, wpOps_cons]
      have hkl : k < ops.size := by omega
      obtain ⟨o, ho⟩ : ∃ o, ops[k]? = some o := ⟨ops[k], Array.getElem?_eq_getElem hkl⟩
      obtain ⟨v, hv⟩ := atD ho
      have hc : ClosL ops (fun j => decide (j < k)) := fun j p hp hj e he hb => by
        have := back_of hback hp e he hb
        simp at hj ⊢
        omega
      refine wpOp_mono ?_ (hstep k o.dst v o (fun j => decide (j < k)) A W ho hv (by simp) (fun e he hb => by
        have := back_of hback ho e he hb
        simpa using this) hc hJ (fun s h => hkept s fun j p hp _ => nd h j p hp) fun j s u hj hL => hhas j s u hj (by simpa using hL))
      rintro a' W' ⟨rfl, hJ'⟩
      refine ih (k + 1) _ W' (by omega) (by
        cases hd : o.dst with
        | none => exact hdef
        | some s => exact hdef) (by
        cases hd : o.dst with
        | none => exact hsize
        | some s => simpa [Act.put] using hsize) (fun s h => ?_) (fun j s u hj hjk => ?_) (hJe _ _ _ (fun q _ => by
          by_cases e : k = q
          · subst e; simp
          · by_cases e2 : q < k
            · simp [e, e2, show q < k + 1 by omega]
            · simp [e, e2, show ¬ q < k + 1 by omega]) hJ')
      · have h0 := hkept s fun j p hp hj => h j p hp (by omega)
        cases hd : o.dst with
        | none => exact h0
        | some t =>
          have hne : t ≠ s := fun e => h k o ho (by omega) (by rw [hd, e])
          exact (getD_set_other _ _ _ _ hne).trans h0
      · by_cases e : j = k
        · subst e
          rw [hv] at hj
          have h2 := Option.some.inj hj
          have h3 : o.dst = some s := congrArg Prod.fst h2
          have h4 : v = u := congrArg Prod.snd h2
          subst h4
          rw [h3]
          have hsl : s < A.tmps.size := by
            have q1 := List.all_eq_true.1 hin j (by simpa using hkl)
            rw [ho] at q1
            simp only [Option.bind_some, h3] at q1
            rw [hsize]
            simpa using q1
          exact getD_set_same _ _ _ hsl
        · have h0 := hhas j s u hj (by omega)
          obtain ⟨p, hp, hd'⟩ := atO hj
          cases hd : o.dst with
          | none => exact h0
          | some t =>
            have hne : t ≠ s := dst_ne hdst ho hp hd hd' (fun e' => e e'.symm)
            exact (getD_set_other _ _ _ _ hne).trans h0
  refine wp_region ?_
  rw [List.range_eq_range']
  refine main ops.size 0 a0 w (by omega) rfl rfl (fun _ _ => rfl) (fun _ _ _ _ h => by omega) (hJ0 _ fun i _ => by simp)
end
end Go.Proofs.YtlhjgajhcabhoaaDoor

/- The law MatchMore, walked. Written by genman.py. -/
namespace Go.Proofs.YtlhjgajhcabhoaaDoor
open Go.RowKit Msk Mx Lx

theorem there_below {w w' : World} {b o n : Nat} (h : w.there b o n) (hb : Below w.heap.size w w') : w'.there b o n := fun j hj => by
  obtain ⟨h1, h2⟩ := h j hj
  obtain ⟨v, hv⟩ := Option.isSome_iff_exists.1 h1
  have hl := block_lt_of_cell hv
  refine ⟨by rw [hb.cell hl]; exact h1, ?_⟩
  have e := hb.block b hl
  unfold World.frozen? at h2 ⊢
  rw [e]
  exact h2
theorem heap_setCells_otherN (b : Nat) : ∀ (vs : List Value) (o : Nat) (w : World) (q : Nat), q ≠ b → (w.setCells b o vs).heap[q]? = w.heap[q]?
  | [], _, _, _, _ => rfl
  | v :: vs, o, w, q, h => by
    rw [World.setCells, heap_setCells_otherN b vs (o + 1) _ q h]
    exact heap_setCell_other w ⟨b, o, none⟩ q v h
theorem below_setCellsN {w : World} (b : Nat) (hb : w.heap.size ≤ b) : ∀ (vs : List Value) (o : Nat) (W : World), Below w.heap.size w W → Below w.heap.size w (W.setCells b o vs)
  | [], _, _, h => h
  | v :: vs, o, W, h => by
    rw [World.setCells]
    exact below_setCellsN b hb vs (o + 1) _ (h.setCell hb v)
theorem unwM {ops : Array Oper} {A : Act} {o : Oper} {gi gs : Nat} {want : Bool} (hg : o.guard = some (gi, want)) (hd : (ops[gi]?).bind (·.dst) = some gs) (hG : A.tmps[gs]?.getD undef = undef) : ¬ Region.wanted o (yielded ops A.tmps) = true := by
  unfold Region.wanted
  rw [hg]
  unfold yielded
  dsimp only
  rw [hd]
  dsimp only [Option.bind_some]
  cases h : A.tmps[gs]? with
  | none => simp
  | some v =>
    rw [h] at hG
    have : v = undef := hG
    subst this
    simp [undef]
def flatMk (fs : List (Nat → Bool)) : List Value := fs.flatMap fun f => (mv f).toList
theorem flatMk_len : ∀ fs : List (Nat → Bool), (flatMk fs).length = fs.length * 23
  | [] => rfl
  | f :: fs => by
    rw [show flatMk (f :: fs) = (mv f).toList ++ flatMk fs from rfl, List.length_append, flatMk_len fs, mvk_len, List.length_cons]
    omega
theorem flatMk_at : ∀ {fs : List (Nat → Bool)} {j : Nat} {f : Nat → Bool}, fs[j]? = some f → ∀ k, k < 23 → (flatMk fs)[j * 23 + k]? = (mv f).toList[k]?
  | [], j, f, h, _, _ => by simp at h
  | f0 :: fs, 0, f, h, k, hk => by
    cases Option.some.inj h
    rw [show flatMk (f0 :: fs) = (mv f0).toList ++ flatMk fs from rfl, List.getElem?_append_left (by rw [mvk_len]; omega), Nat.zero_mul, Nat.zero_add]
  | f0 :: fs, j + 1, f, h, k, hk => by
    rw [show flatMk (f0 :: fs) = (mv f0).toList ++ flatMk fs from rfl, List.getElem?_append_right (by rw [mvk_len]; omega), mvk_len, show (j + 1) * 23 + k - 23 = j * 23 + k by omega]
    exact flatMk_at (by simpa using h) k hk
theorem flatMk_one (fs : List (Nat → Bool)) : ∀ u ∈ flatMk fs, u.oneCell' = true := fun u hu => by
  unfold flatMk at hu
  rw [List.mem_flatMap] at hu
  obtain ⟨f, _, h⟩ := hu
  have := mv_all f
  rw [Array.all_eq_true_iff_forall_mem] at this
  exact this u (Array.mem_def.2 h)
theorem flatMk_cells {w : World} {g o : Nat} {fs : List (Nat → Bool)} (h : ∀ (j : Nat) (f : Nat → Bool), fs[j]? = some f → w.rangeAt g (o + j * 23) (mv f).toList) : ∀ (q : Nat) (u : Value), (flatMk fs)[q]? = some u → w.cell? ⟨g, o + q, none⟩ = some u := fun q u hq => by
  have hql := (List.getElem?_eq_some_iff.1 hq).1
  rw [flatMk_len] at hql
  obtain ⟨j, k, hk, rfl⟩ : ∃ j k, k < 23 ∧ q = j * 23 + k := ⟨q / 23, q % 23, Nat.mod_lt _ (by decide), by omega⟩
  have hj : j < fs.length := by omega
  have hf : fs[j]? = some fs[j] := List.getElem?_eq_getElem hj
  rw [flatMk_at hf k hk] at hq
  have := h j _ hf k u hq
  rw [Nat.add_assoc] at this
  exact this
theorem maskssT : Tryd.prog.underlying 25 = some (.slice 42) := by kernel_rfl
theorem masksInf : (Tryd.prog.info? 42).map (fun i => (i.zero, i.size, i.bytes)) = some (some (.slice none 0 0), 1, 24) := by kernel_rfl
set_option maxRecDepth 100000 in
set_option maxHeartbeats 1000000 in
theorem mmore_walk (s : Sv) (rv : Value) (ds : List (List (Nat → Bool))) (dv : Value) (day res : Int) (more : Nat → Bool) (w : World) (hT : Tab w) (hR : RowRI w rv s.roles) (hD : RowDs w dv ds) (hsz : ∀ fs ∈ ds, fs.length ≤ 764877654083) :
    Calls Tryd.prog 6 #[svV s rv, dv, .int .i64 day, .int .i64 res, .agg (mv more)] w fun e w' => e = .returned (.bool true) ∧ Below w.heap.size w w' := by
  obtain ⟨l, b, a, roles⟩ := s
  dsimp only at hR
  unfold svV
  dsimp only
  obtain ⟨pr, cr, rfl, hlr, hr0⟩ := id hR
  clear hr0
  have bA : Below w.heap.size w ((w.alloc (.cells #[.int .i64 l, .int .i64 b, .int .i64 a, .slice pr roles.length cr] 24)).alloc (.cells (mv more) 41)) := ((Below.refl _ _).alloc (Nat.le_refl _) _).alloc (by simp) _
  have nA : ((w.alloc (.cells #[.int .i64 l, .int .i64 b, .int .i64 a, .slice pr roles.length cr] 24)).alloc (.cells (mv more) 41)).heap[w.heap.size]? = some (.cells #[.int .i64 l, .int .i64 b, .int .i64 a, .slice pr roles.length cr] 24 (0, 0)) := by (repeat (first | refine blk_old _ _ _ (by simp only [size_alloc]; omega) ?_ | exact blk_new _ _ _ (by first | rfl | simp only [size_alloc])))
  have nB : ((w.alloc (.cells #[.int .i64 l, .int .i64 b, .int .i64 a, .slice pr roles.length cr] 24)).alloc (.cells (mv more) 41)).heap[w.heap.size + 1]? = some (.cells (mv more) 41 (0, 0)) := by (repeat (first | refine blk_old _ _ _ (by simp only [size_alloc]; omega) ?_ | exact blk_new _ _ _ (by first | rfl | simp only [size_alloc])))
  generalize hwA : (w.alloc (.cells #[.int .i64 l, .int .i64 b, .int .i64 a, .slice pr roles.length cr] 24)).alloc (.cells (mv more) 41) = wA at *
  have c0 := alive10_any wA (tab_below hT bA)
  go_enter Tryd.func6, Tryd.ntmps6
  go_wp2_with fail
  refine c0.mono ?_
  rintro e w1 ⟨rfl, b1⟩
  have bb1 := bA.trans (b1.mono bA.size)
  have n1 := (b1.block _ (lt_of_block nA)).trans nA
  have k1 := (b1.block _ (lt_of_block nB)).trans nB
  have y0 := (cell_of_row _ _ 0 _ _ _ n1).trans rfl
  have y1 := (cell_of_row _ _ 1 _ _ _ n1).trans rfl
  have y2 := (cell_of_row _ _ 2 _ _ _ n1).trans rfl
  have y3 := (cell_of_row _ _ 3 _ _ _ n1).trans rfl
  have c1 := find_any ⟨l, b, a, roles⟩ _ ds dv w1 (tab_below hT bb1) (hR.below bb1) (hD.below bb1)
  unfold svV at c1
  dsimp only at c1
  obtain ⟨R, hRr⟩ : ∃ R, findP ⟨l, b, a, roles⟩ ds = R := ⟨_, rfl⟩
  rw [hRr] at c1
  have HRR := hidr hRr
  have HR0 := hidr hR
  have HD0 := hidr hD
  have HB1 := hidr bb1
  obtain ⟨er, sd, sm, swho⟩ := R
  clear c0 b1 bA bb1 hwA nA nB hRr
  obtain ⟨pd, cd, rfl, hld, _⟩ := hD
  by_cases h0 : day < 0
  · go_wp2_with fail
    go_ret
    exact ⟨rfl, HB1.out⟩
  by_cases h1 : (ds.length : Int) ≤ day
  · go_wp2_with fail
    go_ret
    exact ⟨rfl, HB1.out⟩
  by_cases h2 : res < 0
  · go_wp2_with fail
    go_ret
    exact ⟨rfl, HB1.out⟩
  obtain ⟨dn, hdn⟩ : ∃ dn : Nat, day = (dn : Int) := ⟨day.toNat, by omega⟩
  obtain ⟨rn, hrn⟩ : ∃ rn : Nat, res = (rn : Int) := ⟨res.toNat, by omega⟩
  subst hdn hrn
  obtain ⟨fs, hfs⟩ : ∃ fs, ds[dn]? = some fs := ⟨ds[dn]'(by omega), List.getElem?_eq_getElem (by omega)⟩
  obtain ⟨_, _, e7, _, halld⟩ := HD0.out.below HB1.out
  cases e7
  obtain ⟨gy, oy, sv1, hpd, cx, hrowd⟩ := halld dn fs hfs
  subst hpd
  obtain ⟨pf, cf, rfl, hlf, hallf0⟩ := hrowd
  clear hallf0 halld
  by_cases h3 : (fs.length : Int) ≤ (rn : Int)
  · go_wp2_with fail
    go_ret
    exact ⟨rfl, HB1.out⟩
  obtain ⟨f, hf⟩ : ∃ f, fs[rn]? = some f := ⟨fs[rn]'(by omega), List.getElem?_eq_getElem (by omega)⟩
  go_wp2_with fail
  refine c1.mono ?_
  rintro e w2 ⟨sv, rfl, ho, b2⟩
  dsimp only at ho
  have HB2 := hidr (HB1.out.trans (b2.mono HB1.out.size))
  have n2 := (b2.block _ (lt_of_block n1)).trans n1
  have k2 := (b2.block _ (lt_of_block k1)).trans k1
  obtain ⟨ps, cs, rfl⟩ := owns_shape ho
  have bF := (Below.refl w2.heap.size w2).alloc (Nat.le_refl _) (.cells #[.int .i64 sd, .int .i64 sm, .slice ps swho.length cs] 28)
  have nF := heap_alloc_new w2 (.cells #[.int .i64 sd, .int .i64 sm, .slice ps swho.length cs] 28)
  have HOF := hidr (owns_below ho bF)
  have HBF := hidr (HB2.out.trans (bF.mono HB2.out.size))
  have n3 := (bF.block _ (lt_of_block n2)).trans n2
  have k3 := (bF.block _ (lt_of_block k2)).trans k2
  generalize hwF : w2.alloc (.cells #[.int .i64 sd, .int .i64 sm, .slice ps swho.length cs] 28) = wF at *
  obtain ⟨gF, hgF⟩ : ∃ q, w2.heap.size = q := ⟨_, rfl⟩
  rw [hgF] at nF
  clear c1 ho b2 bF n1 n2 k1 k2 y0 y1 y2 y3
  have x0 := (cell_of_row _ _ 0 _ _ _ nF).trans rfl
  have x1 := (cell_of_row _ _ 1 _ _ _ nF).trans rfl
  have x2 := (cell_of_row _ _ 2 _ _ _ nF).trans rfl
  have y0 := (cell_of_row _ _ 0 _ _ _ n3).trans rfl
  have y1 := (cell_of_row _ _ 1 _ _ _ n3).trans rfl
  have y2 := (cell_of_row _ _ 2 _ _ _ n3).trans rfl
  have y3 := (cell_of_row _ _ 3 _ _ _ n3).trans rfl
  by_cases he : er = 0
  case neg =>
    have he' : (er == 0) = false := beq_eq_false_iff_ne.2 he
    clear he
    go_wp2_with fail
    go_ret
    exact ⟨rfl, HBF.out⟩
  subst he
  have hz := find_zero (s := ⟨l, b, a, roles⟩) (ds := ds) (by rw [HRR.out])
  have hd30 := hz.1
  obtain ⟨vs, hvl, hvs⟩ := rowDs_vals (HD0.out.below HBF.out)
  have HVS := hidr hvs
  have hdl := (List.getElem?_eq_some_iff.1 hfs).1
  have hrl := (List.getElem?_eq_some_iff.1 hf).1
  have HFS := hidr hfs
  have HF := hidr hf
  have HSZ := hidr (hsz fs (List.mem_of_getElem? hfs))
  clear hz hvs hfs hf hsz
  have bE := (Below.refl wF.heap.size wF).alloc (Nat.le_refl _) (.cells #[] 42)
  have nE := heap_alloc_new wF (.cells #[] 42)
  generalize hwE : wF.alloc (.cells #[] 42) = wE at *
  have HOE : Hid (wE.ownsRow wF.heap.size 42 1 (.slice (some ⟨wF.heap.size, 0, none⟩) 0 0) 0 []) := ⟨rfl, .inr ⟨wF.heap.size, 0, #[], rfl, Nat.le_refl _, nE, Nat.le_refl _, Nat.zero_le _, rfl, rfl⟩⟩
  obtain ⟨i0, hi0', hz0, hs0, hby0⟩ := info_of masksInf
  have HI := hidr hi0'
  have HBE := hidr bE
  clear hi0' nE bE x0 x1 x2 y0 y1 y2 y3
  go_upto_region 9 with (first
    | (at_builtin; refine wpList_append_own wE rfl _ _ 25 rfl wF.heap.size 42 i0 (.slice none 0 0) 1 24 maskssT HI.out hz0 hs0 hby0 rfl (by decide) _ 0 [] rfl HOE.out ⟨gy, oy, none⟩ ds.length cd vs rfl ?hl ?hn ?h1 ?h63 ?hby ?hb ?_
       case hl => rw [Nat.mul_one]; exact hvl
       case hn =>
         intro q u hq
         have hq1 := (List.getElem?_eq_some_iff.1 hq).1
         obtain ⟨g', o', sv', e1, e2, e3, _⟩ := HVS.out q _ (List.getElem?_eq_getElem (by omega))
         cases e1
         rw [hq] at e2
         cases Option.some.inj e2
         rw [in_addM]
         exact (HBE.out.cell (block_lt_of_cell e3)).trans e3
       case h1 =>
         intro u hu
         obtain ⟨q, hq⟩ := List.getElem?_of_mem hu
         have hq1 := (List.getElem?_eq_some_iff.1 hq).1
         obtain ⟨g', o', sv', e1, e2, e3, hm⟩ := HVS.out q _ (List.getElem?_eq_getElem (by omega))
         rw [hq] at e2
         cases Option.some.inj e2
         obtain ⟨_, _, rfl, _⟩ := hm
         rfl
       case h63 => unfold maxLen; omega
       case hby => omega
       case hb => exact HBE.out.size
       intro v1 w5 ho5 hg5 _))
  rw [Nat.zero_add, List.nil_append] at ho5
  have HB5 := hidr (below_grownBy HBE.out hg5 (Nat.le_refl _) (fun k hk => by cases hk; exact Nat.le_refl _))
  obtain ⟨g1, c1, cur1, hv1, hb1, hg1, hn1, hm1, hs1, ht1⟩ : ∃ g1 c1 cur1, v1 = .slice (some ⟨g1, 0, none⟩) ds.length c1 ∧ wF.heap.size ≤ g1 ∧ w5.heap[g1]? = some (.cells cur1 42 (0, 0)) ∧ ds.length ≤ c1 ∧ c1 ≤ maxLen ∧ cur1.size = c1 * 1 ∧ cur1.toList.take (ds.length * 1) = vs := by
    rcases ho5.2 with ⟨_, e⟩ | ⟨g1, c1, cur1, q1, q2, q3, q4, q5, q6, q7⟩
    · omega
    · exact ⟨g1, c1, cur1, q1, q2, q3, q4, q5, q6, q7⟩
  subst hv1
  have HBW5 := hidr (HBF.out.trans (HB5.out.mono HBF.out.size))
  have cy5 : w5.cell? ⟨gy, oy + dn, none⟩ = some (.slice pf fs.length cf) := by
    obtain ⟨_, _, e1, _, h3⟩ := HD0.out
    cases e1
    obtain ⟨g', o', sv', e2, e3, _⟩ := h3 dn fs HFS.out
    cases e2
    have e4 := (HB1.out.cell (block_lt_of_cell e3)).trans e3
    rw [cx] at e4
    cases Option.some.inj e4
    exact (HBW5.out.cell (block_lt_of_cell e3)).trans e3
  have HMK5 : Hid (RowMk w5 (.slice pf fs.length cf) fs) := by
    obtain ⟨_, _, e1, _, h3⟩ := HD0.out
    cases e1
    obtain ⟨g', o', sv', e2, e3, hm⟩ := h3 dn fs HFS.out
    cases e2
    have e4 := (HB1.out.cell (block_lt_of_cell e3)).trans e3
    rw [cx] at e4
    cases Option.some.inj e4
    exact hm.below HBW5.out
  obtain ⟨gf, of, hpf⟩ : ∃ gf of : Nat, pf = some ⟨gf, of, none⟩ := by
    obtain ⟨_, _, e1, _, h3⟩ := HMK5.out
    cases e1
    obtain ⟨gf, of, e, _⟩ := h3 rn f HF.out
    exact ⟨gf, of, e⟩
  subst hpf
  have HCF : Hid (∀ (q : Nat) (u : Value), (flatMk fs)[q]? = some u → w5.cell? ⟨gf, of + q, none⟩ = some u) := by
    obtain ⟨_, _, e1, _, h3⟩ := HMK5.out
    cases e1
    refine flatMk_cells fun j f' hj => ?_
    obtain ⟨_, _, e2, hr⟩ := h3 j f' hj
    cases e2
    exact hr
  have bG := (Below.refl w5.heap.size w5).alloc (Nat.le_refl _) (.cells #[] 41)
  have nG := heap_alloc_new w5 (.cells #[] 41)
  generalize hwG : w5.alloc (.cells #[] 41) = wG at *
  have HOG : Hid (wG.ownsRow w5.heap.size 41 23 (.slice (some ⟨w5.heap.size, 0, none⟩) 0 0) 0 []) := ⟨rfl, .inr ⟨w5.heap.size, 0, #[], rfl, Nat.le_refl _, nG, Nat.le_refl _, Nat.zero_le _, rfl, rfl⟩⟩
  obtain ⟨i1, hi1', hz1, hs1', hby1⟩ := info_of maskInf
  have HI1 := hidr hi1'
  have HBG := hidr bG
  have cyG := (bG.cell (block_lt_of_cell cy5)).trans cy5
  have hdl' : (dn : Int) < (ds.length : Int) := by omega
  have hdn0 : (0 : Int) ≤ (dn : Int) := by omega
  have hrn0 : (0 : Int) ≤ (rn : Int) := by omega
  have hrl' : (rn : Int) < (fs.length : Int) := by omega
  have hg1l := lt_of_block hg1
  obtain ⟨u1, hu1⟩ : ∃ u, cur1[dn]? = some u := ⟨cur1[dn]'(by omega), Array.getElem?_eq_getElem (by omega)⟩
  have HG1 := hidr hg1
  clear hi1' nG bG ho5 hg5 cx
  go_upto_region 10 with (first
    | (at_builtin; refine wpList_append_own wG rfl _ _ 42 rfl w5.heap.size 41 i1 (.agg #[.int .u64 0, .int .u64 0, .int .u64 0, .int .u64 0, .int .u64 0, .int .u64 0, .int .u64 0, .int .u64 0, .int .u64 0, .int .u64 0, .int .u64 0, .int .u64 0, .int .u64 0, .int .u64 0, .int .u64 0, .int .u64 0, .int .u64 0, .int .u64 0, .int .u64 0, .int .u64 0, .int .u64 0, .int .u64 0, .int .u64 0]) 23 184 masksT HI1.out hz1 hs1' hby1 rfl (by decide) _ 0 [] rfl HOG.out ⟨gf, of, none⟩ fs.length cf (flatMk fs) rfl ?hl ?hn ?h1 ?h63 ?hby ?hb ?_
       case hl => exact flatMk_len fs
       case hn =>
         intro q u hq
         rw [in_addM]
         have := HCF.out q u hq
         exact (HBG.out.cell (block_lt_of_cell this)).trans this
       case h1 => exact flatMk_one fs
       case h63 => unfold maxLen; have := HSZ.out; omega
       case hby => have := HSZ.out; omega
       case hb => exact HBG.out.size
       intro v2 w6 ho6 hg6 _
       rw [Nat.zero_add, List.nil_append] at ho6
       obtain ⟨g2, c2, cur2, hv2, hb2, hg2, hn2, hm2, hs2, ht2⟩ : ∃ g2 c2 cur2, v2 = .slice (some ⟨g2, 0, none⟩) fs.length c2 ∧ w5.heap.size ≤ g2 ∧ w6.heap[g2]? = some (.cells cur2 41 (0, 0)) ∧ fs.length ≤ c2 ∧ c2 ≤ maxLen ∧ cur2.size = c2 * 23 ∧ cur2.toList.take (fs.length * 23) = flatMk fs := by
         rcases ho6.2 with ⟨_, e⟩ | ⟨g2, c2, cur2, q1, q2, q3, q4, q5, q6, q7⟩
         · omega
         · exact ⟨g2, c2, cur2, q1, q2, q3, q4, q5, q6, q7⟩
       subst hv2
       have hg16 := (hg6.block g1 (Nat.lt_of_lt_of_le hg1l HBG.out.size) (fun e => by cases e; exact absurd hg1l (Nat.lt_irrefl _))).trans ((HBG.out.block g1 hg1l).trans HG1.out)
       have hfz : w6.frozen? ⟨g1, dn, none⟩ = false := by simp [World.frozen?, hg16]
       have hcc : w6.cell? ⟨g1, dn, none⟩ = some u1 := (cell_of_row _ _ _ _ _ _ hg16).trans hu1))
  have HB6 := hidr (below_grownBy HBG.out hg6 (Nat.le_refl _) (fun k hk => by cases hk; exact Nat.le_refl _))
  have hg12 : g2 ≠ g1 := by omega
  have n7 := heap_setCell_same w6 g1 dn cur1 42 (.slice (some ⟨g2, 0, none⟩) fs.length c2) hg16
  have p7 := (heap_setCell_other w6 ⟨g1, dn, none⟩ g2 (.slice (some ⟨g2, 0, none⟩) fs.length c2) hg12).trans hg2
  have HBW6 := hidr (HBW5.out.trans (HB6.out.mono HBW5.out.size))
  have hgw : wF.heap.size ≤ g1 := hb1
  have HBF7 := hidr ((HB5.out.trans (HB6.out.mono HB5.out.size)).setCell (p := ⟨g1, dn, none⟩) hgw (.slice (some ⟨g2, 0, none⟩) fs.length c2))
  generalize hw7 : w6.setCell ⟨g1, dn, none⟩ (.slice (some ⟨g2, 0, none⟩) fs.length c2) = w7 at *
  have m1 : w7.cell? ⟨g1, dn, none⟩ = some (.slice (some ⟨g2, 0, none⟩) fs.length c2) := (cell_of_row _ _ _ _ _ _ n7).trans (by rw [Array.getElem?_setIfInBounds, if_pos rfl, if_pos (by omega)])
  have HMM : Hid (∀ (i : Nat) (f' : Nat → Bool), fs[i]? = some f' → w7.rangeAt g2 (i * 23) (mv f').toList) := fun i f' hi k v hk => by
    have hil := (List.getElem?_eq_some_iff.1 hi).1
    have hk' := (List.getElem?_eq_some_iff.1 hk).1
    rw [mvk_len] at hk'
    refine (cell_of_row _ _ _ _ _ _ p7).trans ?_
    rw [← Array.getElem?_toList]
    have e := flatMk_at hi k hk'
    rw [← ht2, List.getElem?_take_of_lt (by omega)] at e
    rw [e]
    exact hk
  have m2 : w7.rangeAt g2 (rn * 23) (mv f).toList := HMM.out rn f HF.out
  have k7 := (HBF7.out.block _ (lt_of_block k3)).trans k3
  have hth7 : w7.there g2 (rn * 23) 23 := fun q hq => by
    refine ⟨?_, by simp [World.frozen?, p7]⟩
    rw [cell_of_row _ _ _ _ _ _ p7, Array.getElem?_eq_getElem (by omega)]
    rfl
  have HTH := hidr hth7
  have HDONE : Hid (∀ W2 : World, Below w7.heap.size w7 W2 → W2.there g2 (rn * 23) 23 → RowDs (W2.setCells g2 (rn * 23) (mv (uni f more)).toList) (.slice (some ⟨g1, 0, none⟩) ds.length c1) (ds.set dn (fs.set rn (uni f more))) ∧ Below wF.heap.size wF (W2.setCells g2 (rn * 23) (mv (uni f more)).toList)) := fun W2 hJ hth => by
    have bfin : Below wF.heap.size wF (W2.setCells g2 (rn * 23) (mv (uni f more)).toList) := below_setCellsN g2 (by have := HB5.out.size; omega) _ _ _ (HBF7.out.trans (hJ.mono HBF7.out.size))
    have far : ∀ (j : Nat) (u : Value), w7.cell? ⟨g1, j, none⟩ = some u → (W2.setCells g2 (rn * 23) (mv (uni f more)).toList).cell? ⟨g1, 0 + j, none⟩ = some u := fun j u hu => by
      rw [Nat.zero_add]
      have h1 := (hJ.cell (block_lt_of_cell hu)).trans hu
      unfold World.cell? at h1 ⊢
      rw [heap_setCells_otherN g2 _ _ _ g1 (Ne.symm hg12)]
      exact h1
    refine ⟨⟨_, c1, by rw [List.length_set], by rw [List.length_set]; exact hld, fun j gs hj => ?_⟩, bfin⟩
    rw [List.getElem?_set] at hj
    by_cases e : dn = j
    · subst e
      rw [if_pos rfl, if_pos hdl] at hj
      cases Option.some.inj hj
      refine ⟨g1, 0, _, rfl, far dn _ m1, _, c2, by rw [List.length_set], by rw [List.length_set]; exact hlf, fun i f' hi => ⟨g2, 0, rfl, ?_⟩⟩
      rw [Nat.zero_add]
      rw [List.getElem?_set] at hi
      by_cases e2 : rn = i
      · subst e2
        rw [if_pos rfl, if_pos hrl] at hi
        cases Option.some.inj hi
        exact World.rangeAt_setCells_same W2 g2 _ _ (by rw [mvk_len]; exact hth)
      · rw [if_neg e2] at hi
        refine World.rangeAt_setCells_apart (rangeAt_below (HMM.out i f' hi) hJ) g2 _ _ (.inr ?_)
        rw [mvk_len, mvk_len]
        omega
    · rw [if_neg e] at hj
      have hjl := (List.getElem?_eq_some_iff.1 hj).1
      obtain ⟨_, _, sv, _, e2, _, hm⟩ := HVS.out j gs hj
      refine ⟨g1, 0, sv, rfl, far j sv ((cell_of_row _ _ _ _ _ _ n7).trans ?_), hm.below bfin⟩
      rw [Array.getElem?_setIfInBounds, if_neg e, ← Array.getElem?_toList]
      have e4 := congrArg (fun x : List Value => x[j]?) ht1
      rw [List.getElem?_take_of_lt (by omega)] at e4
      rw [e4]
      exact e2
  clear hth7 ho6 hg6
  go_wp2_with fail
  refine wp_region_lastP (Below w7.heap.size w7) (spX [.slice (some ⟨g1, 0, none⟩) ds.length c1, .int .i64 (dn : Int), .pointer (some ⟨g1, dn, none⟩), .slice (some ⟨g2, 0, none⟩) fs.length c2, .int .i64 (rn : Int), .slice (some ⟨g1, 0, none⟩) ds.length c1, .int .i64 (dn : Int), .pointer (some ⟨g1, dn, none⟩), .slice (some ⟨g2, 0, none⟩) fs.length c2, .int .i64 (rn : Int), .pointer (some ⟨g2, rn * 23, none⟩), .agg (mv f), .agg (mv more), .agg (mv (uni f more)), .pointer (some ⟨g2, rn * 23, none⟩)] []) ((Below.refl _ _).drew) (spX_mono (fun p hp => by cases hp)) (by kernel_rfl) (by kernel_rfl) (by kernel_rfl) (by kernel_rfl) 15 (by kernel_rfl) (by kernel_rfl) [58, 59, 60, 61, 62, 63, 64, 65, 66, 67, 68, 69, 70, 71, 72] (by kernel_rfl) (by kernel_rfl) ?_ ?_
  · intro i' s o' L A W2 ho hs hdep hJ hkept hhas
    match i', ho, hs with
    | 0, ho, hs =>
      cases Option.some.inj ho
      cases Option.some.inj hs
      have h13 : A.tmps[13]?.getD undef = .slice (some ⟨g1, 0, none⟩) ds.length c1 := (gd A 13).trans (hkept 13 (by kernel_rfl))
      refine wpOp_step rfl (fun K hK => ?_)
      go_simp
      exact hK _ _ ⟨_, rfl, rfl, hJ, Below.refl _ _⟩
    | 1, ho, hs =>
      cases Option.some.inj ho
      cases Option.some.inj hs
      have h2 : A.tmps[2]?.getD undef = .int .i64 (dn : Int) := (gd A 2).trans (hkept 2 (by kernel_rfl))
      refine wpOp_step rfl (fun K hK => ?_)
      go_simp
      exact hK _ _ ⟨_, rfl, rfl, hJ, Below.refl _ _⟩
    | 2, ho, hs =>
      cases Option.some.inj ho
      cases Option.some.inj hs
      have h58 : A.tmps[58]?.getD undef = .slice (some ⟨g1, 0, none⟩) ds.length c1 := (gd A 58).trans (hhas 0 58 rfl (hdep ⟨0, .data⟩ (by simp) rfl))
      have h59 : A.tmps[59]?.getD undef = .int .i64 (dn : Int) := (gd A 59).trans (hhas 1 59 rfl (hdep ⟨1, .data⟩ (by simp) rfl))
      refine wpOp_step rfl (fun K hK => ?_)
      go_simp
      exact hK _ _ ⟨_, rfl, rfl, hJ, Below.refl _ _⟩
    | 3, ho, hs =>
      cases Option.some.inj ho
      cases Option.some.inj hs
      have h60 : A.tmps[60]?.getD undef = .pointer (some ⟨g1, dn, none⟩) := (gd A 60).trans (hhas 2 60 rfl (hdep ⟨2, .data⟩ (by simp) rfl))
      have zz := (hJ.cell (block_lt_of_cell m1)).trans m1
      refine wpOp_step rfl (fun K hK => ?_)
      go_simp
      exact hK _ _ ⟨_, rfl, rfl, hJ, Below.refl _ _⟩
    | 4, ho, hs =>
      cases Option.some.inj ho
      cases Option.some.inj hs
      have h3 : A.tmps[3]?.getD undef = .int .i64 (rn : Int) := (gd A 3).trans (hkept 3 (by kernel_rfl))
      refine wpOp_step rfl (fun K hK => ?_)
      go_simp
      exact hK _ _ ⟨_, rfl, rfl, hJ, Below.refl _ _⟩
    | 5, ho, hs =>
      cases Option.some.inj ho
      cases Option.some.inj hs
      have h13 : A.tmps[13]?.getD undef = .slice (some ⟨g1, 0, none⟩) ds.length c1 := (gd A 13).trans (hkept 13 (by kernel_rfl))
      refine wpOp_step rfl (fun K hK => ?_)
      go_simp
      exact hK _ _ ⟨_, rfl, rfl, hJ, Below.refl _ _⟩
    | 6, ho, hs =>
      cases Option.some.inj ho
      cases Option.some.inj hs
      have h2 : A.tmps[2]?.getD undef = .int .i64 (dn : Int) := (gd A 2).trans (hkept 2 (by kernel_rfl))
      refine wpOp_step rfl (fun K hK => ?_)
      go_simp
      exact hK _ _ ⟨_, rfl, rfl, hJ, Below.refl _ _⟩
    | 7, ho, hs =>
      cases Option.some.inj ho
      cases Option.some.inj hs
      have h63 : A.tmps[63]?.getD undef = .slice (some ⟨g1, 0, none⟩) ds.length c1 := (gd A 63).trans (hhas 5 63 rfl (hdep ⟨5, .data⟩ (by simp) rfl))
      have h64 : A.tmps[64]?.getD undef = .int .i64 (dn : Int) := (gd A 64).trans (hhas 6 64 rfl (hdep ⟨6, .data⟩ (by simp) rfl))
      refine wpOp_step rfl (fun K hK => ?_)
      go_simp
      exact hK _ _ ⟨_, rfl, rfl, hJ, Below.refl _ _⟩
    | 8, ho, hs =>
      cases Option.some.inj ho
      cases Option.some.inj hs
      have h65 : A.tmps[65]?.getD undef = .pointer (some ⟨g1, dn, none⟩) := (gd A 65).trans (hhas 7 65 rfl (hdep ⟨7, .data⟩ (by simp) rfl))
      have zz := (hJ.cell (block_lt_of_cell m1)).trans m1
      refine wpOp_step rfl (fun K hK => ?_)
      go_simp
      exact hK _ _ ⟨_, rfl, rfl, hJ, Below.refl _ _⟩
    | 9, ho, hs =>
      cases Option.some.inj ho
      cases Option.some.inj hs
      have h3 : A.tmps[3]?.getD undef = .int .i64 (rn : Int) := (gd A 3).trans (hkept 3 (by kernel_rfl))
      refine wpOp_step rfl (fun K hK => ?_)
      go_simp
      exact hK _ _ ⟨_, rfl, rfl, hJ, Below.refl _ _⟩
    | 10, ho, hs =>
      cases Option.some.inj ho
      cases Option.some.inj hs
      have h66 : A.tmps[66]?.getD undef = .slice (some ⟨g2, 0, none⟩) fs.length c2 := (gd A 66).trans (hhas 8 66 rfl (hdep ⟨8, .data⟩ (by simp) rfl))
      have h67 : A.tmps[67]?.getD undef = .int .i64 (rn : Int) := (gd A 67).trans (hhas 9 67 rfl (hdep ⟨9, .data⟩ (by simp) rfl))
      refine wpOp_step rfl (fun K hK => ?_)
      go_simp
      exact hK _ _ ⟨_, rfl, rfl, hJ, Below.refl _ _⟩
    | 11, ho, hs =>
      cases Option.some.inj ho
      cases Option.some.inj hs
      have h68 : A.eval (.tmp 68) = .pointer (some ⟨g2, rn * 23, none⟩) := hhas 10 68 rfl (hdep ⟨10, .data⟩ (by simp) rfl)
      refine wpOp_step rfl (fun K hK => ?_)
      show Oper.wp _ _ _ _ _ _
      refine wp_loadMk _ rfl g2 (rn * 23) h68 f (rangeAt_below m2 hJ) ?_
      exact hK _ _ ⟨_, rfl, rfl, hJ, Below.refl _ _⟩
    | 12, ho, hs =>
      cases Option.some.inj ho
      cases Option.some.inj hs
      have h9 : A.eval (.tmp 9) = .pointer (some ⟨w.heap.size + 1, 0, none⟩) := hkept 9 (by kernel_rfl)
      refine wpOp_step rfl (fun K hK => ?_)
      show Oper.wp _ _ _ _ _ _
      refine wp_load_row 41 _ rfl _ h9 _ _ _ _ ((hJ.block _ (lt_of_block k7)).trans k7) maskType rfl (maskSize _) ?_
      exact hK _ _ ⟨_, rfl, rfl, hJ, Below.refl _ _⟩
    | 13, ho, hs =>
      cases Option.some.inj ho
      cases Option.some.inj hs
      have h69 : A.tmps[69]?.getD undef = .agg (mv f) := (gd A 69).trans (hhas 11 69 rfl (hdep ⟨11, .data⟩ (by simp) rfl))
      have h70 : A.tmps[70]?.getD undef = .agg (mv more) := (gd A 70).trans (hhas 12 70 rfl (hdep ⟨12, .data⟩ (by simp) rfl))
      refine wpOp_step rfl (fun K hK => ?_)
      go_simp
      refine (union_any f more W2).mono ?_
      rintro r' W' ⟨rfl, hb'⟩
      exact hK _ _ ⟨_, rfl, rfl, hJ.trans (hb'.mono hJ.size), hb'⟩
    | 14, ho, hs =>
      cases Option.some.inj ho
      cases Option.some.inj hs
      have h61 : A.tmps[61]?.getD undef = .slice (some ⟨g2, 0, none⟩) fs.length c2 := (gd A 61).trans (hhas 3 61 rfl (hdep ⟨3, .data⟩ (by simp) rfl))
      have h62 : A.tmps[62]?.getD undef = .int .i64 (rn : Int) := (gd A 62).trans (hhas 4 62 rfl (hdep ⟨4, .data⟩ (by simp) rfl))
      refine wpOp_step rfl (fun K hK => ?_)
      go_simp
      exact hK _ _ ⟨_, rfl, rfl, hJ, Below.refl _ _⟩
    | kk + 15, ho, hs => simp at hs
  · intro o' W2 A ho hJ hhas hkept hput
    have hA : A = putAll [(58, .slice (some ⟨g1, 0, none⟩) ds.length c1), (59, .int .i64 (dn : Int)), (60, .pointer (some ⟨g1, dn, none⟩)), (61, .slice (some ⟨g2, 0, none⟩) fs.length c2), (62, .int .i64 (rn : Int)), (63, .slice (some ⟨g1, 0, none⟩) ds.length c1), (64, .int .i64 (dn : Int)), (65, .pointer (some ⟨g1, dn, none⟩)), (66, .slice (some ⟨g2, 0, none⟩) fs.length c2), (67, .int .i64 (rn : Int)), (68, .pointer (some ⟨g2, rn * 23, none⟩)), (69, .agg (mv f)), (70, .agg (mv more)), (71, .agg (mv (uni f more))), (72, .pointer (some ⟨g2, rn * 23, none⟩))] _ := hput _ rfl (fun j s v hj => match j, hj with
      | 0, hj => by cases Option.some.inj hj; exact hhas 0 58 rfl
      | 1, hj => by cases Option.some.inj hj; exact hhas 1 59 rfl
      | 2, hj => by cases Option.some.inj hj; exact hhas 2 60 rfl
      | 3, hj => by cases Option.some.inj hj; exact hhas 3 61 rfl
      | 4, hj => by cases Option.some.inj hj; exact hhas 4 62 rfl
      | 5, hj => by cases Option.some.inj hj; exact hhas 5 63 rfl
      | 6, hj => by cases Option.some.inj hj; exact hhas 6 64 rfl
      | 7, hj => by cases Option.some.inj hj; exact hhas 7 65 rfl
      | 8, hj => by cases Option.some.inj hj; exact hhas 8 66 rfl
      | 9, hj => by cases Option.some.inj hj; exact hhas 9 67 rfl
      | 10, hj => by cases Option.some.inj hj; exact hhas 10 68 rfl
      | 11, hj => by cases Option.some.inj hj; exact hhas 11 69 rfl
      | 12, hj => by cases Option.some.inj hj; exact hhas 12 70 rfl
      | 13, hj => by cases Option.some.inj hj; exact hhas 13 71 rfl
      | 14, hj => by cases Option.some.inj hj; exact hhas 14 72 rfl
      | kk + 15, hj => by simp at hj)
    cases Option.some.inj ho
    have hx : A.eval (.tmp 72) = .pointer (some ⟨g2, rn * 23, none⟩) := hhas 14 72 rfl
    have hy : A.eval (.tmp 71) = .agg (mv (uni f more)) := hhas 13 71 rfl
    refine wpOp_step rfl (fun K hK => ?_)
    show Oper.wp _ _ _ _ _ _
    have hth : W2.there g2 (rn * 23) 23 := there_below HTH.out hJ
    refine wp_store_mid 41 _ _ rfl g2 (rn * 23) (mv (uni f more)) hx hy (by rw [mv_size]; exact hth) (maskSize _) (mv_all _) ?_
    refine hK _ _ ⟨⟨undef, rfl⟩, ?_⟩
    change Exit.then _ _ Exit.normal _ _
    subst hA
    simp only [putAll_cons, putAll_nil, Act.put, List.setIfInBounds_toArray, List.set_cons_succ, List.set_cons_zero]
    clear hK hput hhas hkept hx hy
    have HQ := hidr (HDONE.out W2 hJ hth)
    clear hJ hth
    obtain ⟨w8, hw8⟩ : ∃ q, W2.setCells g2 (rn * 23) (mv (uni f more)).toList = q := ⟨_, rfl⟩
    rw [hw8] at HQ ⊢
    have HB8 := hidr (HBF.out.trans (HQ.out.2.mono HBF.out.size))
    have n8 := (HQ.out.2.block _ (lt_of_block n3)).trans n3
    have nF8 := (HQ.out.2.block _ (lt_of_block nF)).trans nF
    have y0 := (cell_of_row _ _ 0 _ _ _ n8).trans rfl
    have y1 := (cell_of_row _ _ 1 _ _ _ n8).trans rfl
    have y2 := (cell_of_row _ _ 2 _ _ _ n8).trans rfl
    have y3 := (cell_of_row _ _ 3 _ _ _ n8).trans rfl
    have c9 := find_any ⟨l, b, a, roles⟩ _ (ds.set dn (fs.set rn (uni f more))) _ w8 (tab_below hT HB8.out) (HR0.out.below HB8.out) HQ.out.1
    unfold svV at c9
    dsimp only at c9
    obtain ⟨R2, hR2⟩ : ∃ R, findP ⟨l, b, a, roles⟩ (ds.set dn (fs.set rn (uni f more))) = R := ⟨_, rfl⟩
    have hmore := find_more (g := more) HFS.out HF.out HRR.out
    rw [hR2] at c9 hmore
    obtain ⟨er2, d2, m2', wh2⟩ := R2
    dsimp only at hmore
    obtain ⟨he2, hord⟩ := hmore
    subst he2
    clear hw8 hR2 HQ HDONE HTH HMM HVS k7 m1 m2 HRR
    go_wp2_with fail
    refine c9.mono ?_
    rintro e w9 ⟨sv2, rfl, ho9, b9⟩
    dsimp only at ho9
    obtain ⟨qs2, cs2, rfl⟩ := owns_shape ho9
    have HB9 := hidr (HB8.out.trans (b9.mono HB8.out.size))
    have nF9 := (b9.block _ (lt_of_block nF8)).trans nF8
    have bH := (Below.refl w9.heap.size w9).alloc (Nat.le_refl _) (.cells #[.int .i64 d2, .int .i64 m2', .slice qs2 wh2.length cs2] 28)
    have nH := heap_alloc_new w9 (.cells #[.int .i64 d2, .int .i64 m2', .slice qs2 wh2.length cs2] 28)
    have HBH := hidr (HB9.out.trans (bH.mono HB9.out.size))
    have nFH := (bH.block _ (lt_of_block nF9)).trans nF9
    generalize hwH : w9.alloc (.cells #[.int .i64 d2, .int .i64 m2', .slice qs2 wh2.length cs2] 28) = wH at *
    obtain ⟨gH, hgH⟩ : ∃ q, w9.heap.size = q := ⟨_, rfl⟩
    rw [hgH] at nH
    have t0 := (cell_of_row _ _ 0 _ _ _ nH).trans rfl
    have t1 := (cell_of_row _ _ 1 _ _ _ nH).trans rfl
    have x0 := (cell_of_row _ _ 0 _ _ _ nFH).trans rfl
    have x1 := (cell_of_row _ _ 1 _ _ _ nFH).trans rfl
    clear c9 ho9 b9 bH nF8 nF9 y0 y1 y2 y3 n8
    by_cases hlt : d2 < sd
    · go_upto_region 12 with fail
      refine wp_plain_JL (fun _ W => W = wH) (fun L _ => rfl) (fun _ _ _ _ h => h) (by kernel_rfl) (by kernel_rfl) (by kernel_rfl) [(some 79, .int .i64 0), (some 80, .bool true), (some 81, .bool true), (some 82, .pointer (some ⟨gH, 0, none⟩)), (some 83, .int .i64 d2), (some 84, .pointer (some ⟨gF, 0, none⟩)), (some 85, .int .i64 sd), (some 86, .bool true), (some 87, .bool true), (some 88, undef), (some 89, undef), (some 90, undef), (some 91, undef), (some 92, undef), (some 93, undef), (some 94, undef), (some 95, undef), (some 96, undef), (some 97, undef), (some 98, undef), (some 99, undef), (some 100, .bool true), (some 101, .bool true), (some 10, .bool true)] [(79, .int .i64 0), (80, .bool true), (81, .bool true), (82, .pointer (some ⟨gH, 0, none⟩)), (83, .int .i64 d2), (84, .pointer (some ⟨gF, 0, none⟩)), (85, .int .i64 sd), (86, .bool true), (87, .bool true), (88, undef), (89, undef), (90, undef), (91, undef), (92, undef), (93, undef), (94, undef), (95, undef), (96, undef), (97, undef), (98, undef), (99, undef), (100, .bool true), (101, .bool true), (10, .bool true)] (by kernel_rfl) (by kernel_rfl) (by kernel_rfl) ?_ ?_
      · intro i' d v o' L A W2 ho hv hLi hdep hc hJ hkept hhas
        match i', ho, hv, hLi with
        | 0, ho, hv, hLi =>
          cases Option.some.inj ho
          cases Option.some.inj hv
          subst hJ
          have h12 : A.tmps[12]?.getD undef = .int .i64 0 := (gd A 12).trans (hkept 12 (by kernel_rfl))
          refine wpOp_step rfl (fun K hK => ?_)
          go_simp
          exact hK _ _ ⟨rfl, rfl⟩
        | 1, ho, hv, hLi =>
          cases Option.some.inj ho
          cases Option.some.inj hv
          subst hJ
          have h79 : A.tmps[79]?.getD undef = .int .i64 0 := (gd A 79).trans (hhas 0 79 _ rfl (hdep ⟨0, .data⟩ (by simp) rfl))
          refine wpOp_step rfl (fun K hK => ?_)
          go_simp
          exact hK _ _ ⟨rfl, rfl⟩
        | 2, ho, hv, hLi =>
          cases Option.some.inj ho
          cases Option.some.inj hv
          subst hJ
          have h80 : A.tmps[80]?.getD undef = .bool true := (gd A 80).trans (hhas 1 80 _ rfl (hdep ⟨1, .data⟩ (by simp) rfl))
          refine wpOp_step rfl (fun K hK => ?_)
          go_simp
          exact hK _ _ ⟨rfl, rfl⟩
        | 3, ho, hv, hLi =>
          cases Option.some.inj ho
          cases Option.some.inj hv
          subst hJ
          have hG : A.tmps[81]? = some (.bool true) := gdb (hhas 2 81 _ rfl (hdep ⟨2, .guard⟩ (by simp) rfl))
          have h14 : A.tmps[14]?.getD undef = .pointer (some ⟨gH, 0, none⟩) := (gd A 14).trans (hkept 14 (by kernel_rfl))
          refine wpOp_step rfl (fun K hK => ?_)
          go_simp
          exact hK _ _ ⟨rfl, rfl⟩
        | 4, ho, hv, hLi =>
          cases Option.some.inj ho
          cases Option.some.inj hv
          subst hJ
          have hG : A.tmps[81]? = some (.bool true) := gdb (hhas 2 81 _ rfl (hdep ⟨2, .guard⟩ (by simp) rfl))
          have h82 : A.tmps[82]?.getD undef = .pointer (some ⟨gH, 0, none⟩) := (gd A 82).trans (hhas 3 82 _ rfl (hdep ⟨3, .data⟩ (by simp) rfl))
          refine wpOp_step rfl (fun K hK => ?_)
          go_simp
          exact hK _ _ ⟨rfl, rfl⟩
        | 5, ho, hv, hLi =>
          cases Option.some.inj ho
          cases Option.some.inj hv
          subst hJ
          have hG : A.tmps[81]? = some (.bool true) := gdb (hhas 2 81 _ rfl (hdep ⟨2, .guard⟩ (by simp) rfl))
          have h11 : A.tmps[11]?.getD undef = .pointer (some ⟨gF, 0, none⟩) := (gd A 11).trans (hkept 11 (by kernel_rfl))
          refine wpOp_step rfl (fun K hK => ?_)
          go_simp
          exact hK _ _ ⟨rfl, rfl⟩
        | 6, ho, hv, hLi =>
          cases Option.some.inj ho
          cases Option.some.inj hv
          subst hJ
          have hG : A.tmps[81]? = some (.bool true) := gdb (hhas 2 81 _ rfl (hdep ⟨2, .guard⟩ (by simp) rfl))
          have h84 : A.tmps[84]?.getD undef = .pointer (some ⟨gF, 0, none⟩) := (gd A 84).trans (hhas 5 84 _ rfl (hdep ⟨5, .data⟩ (by simp) rfl))
          refine wpOp_step rfl (fun K hK => ?_)
          go_simp
          exact hK _ _ ⟨rfl, rfl⟩
        | 7, ho, hv, hLi =>
          cases Option.some.inj ho
          cases Option.some.inj hv
          subst hJ
          have hG : A.tmps[81]? = some (.bool true) := gdb (hhas 2 81 _ rfl (hdep ⟨2, .guard⟩ (by simp) rfl))
          have h83 : A.tmps[83]?.getD undef = .int .i64 d2 := (gd A 83).trans (hhas 4 83 _ rfl (hdep ⟨4, .data⟩ (by simp) rfl))
          have h85 : A.tmps[85]?.getD undef = .int .i64 sd := (gd A 85).trans (hhas 6 85 _ rfl (hdep ⟨6, .data⟩ (by simp) rfl))
          refine wpOp_step rfl (fun K hK => ?_)
          go_simp
          exact hK _ _ ⟨rfl, rfl⟩
        | 8, ho, hv, hLi =>
          cases Option.some.inj ho
          cases Option.some.inj hv
          subst hJ
          have hG : A.tmps[81]? = some (.bool true) := gdb (hhas 2 81 _ rfl (hdep ⟨2, .guard⟩ (by simp) rfl))
          have h86 : A.tmps[86]?.getD undef = .bool true := (gd A 86).trans (hhas 7 86 _ rfl (hdep ⟨7, .data⟩ (by simp) rfl))
          refine wpOp_step rfl (fun K hK => ?_)
          go_simp
          exact hK _ _ ⟨rfl, rfl⟩
        | 9, ho, hv, hLi =>
          cases Option.some.inj ho
          cases Option.some.inj hv
          subst hJ
          have hG : A.tmps[87]? = some (.bool true) := gdb (hhas 8 87 _ rfl (hdep ⟨8, .guard⟩ (by simp) rfl))
          refine wpOp_step rfl (fun K hK => ?_)
          go_simp
          exact hK _ _ ⟨rfl, rfl⟩
        | 10, ho, hv, hLi =>
          cases Option.some.inj ho
          cases Option.some.inj hv
          subst hJ
          have hG : A.tmps[87]? = some (.bool true) := gdb (hhas 8 87 _ rfl (hdep ⟨8, .guard⟩ (by simp) rfl))
          refine wpOp_step rfl (fun K hK => ?_)
          go_simp
          exact hK _ _ ⟨rfl, rfl⟩
        | 11, ho, hv, hLi =>
          cases Option.some.inj ho
          cases Option.some.inj hv
          subst hJ
          have hG : A.tmps[87]? = some (.bool true) := gdb (hhas 8 87 _ rfl (hdep ⟨8, .guard⟩ (by simp) rfl))
          refine wpOp_step rfl (fun K hK => ?_)
          go_simp
          exact hK _ _ ⟨rfl, rfl⟩
        | 12, ho, hv, hLi =>
          cases Option.some.inj ho
          cases Option.some.inj hv
          subst hJ
          have hG : A.tmps[87]? = some (.bool true) := gdb (hhas 8 87 _ rfl (hdep ⟨8, .guard⟩ (by simp) rfl))
          refine wpOp_step rfl (fun K hK => ?_)
          go_simp
          exact hK _ _ ⟨rfl, rfl⟩
        | 13, ho, hv, hLi =>
          cases Option.some.inj ho
          cases Option.some.inj hv
          subst hJ
          have hG : A.tmps[87]? = some (.bool true) := gdb (hhas 8 87 _ rfl (hdep ⟨8, .guard⟩ (by simp) rfl))
          refine wpOp_step rfl (fun K hK => ?_)
          go_simp
          exact hK _ _ ⟨rfl, rfl⟩
        | 14, ho, hv, hLi =>
          cases Option.some.inj ho
          cases Option.some.inj hv
          subst hJ
          have hG : A.tmps[87]? = some (.bool true) := gdb (hhas 8 87 _ rfl (hdep ⟨8, .guard⟩ (by simp) rfl))
          refine wpOp_step rfl (fun K hK => ?_)
          go_simp
          exact hK _ _ ⟨rfl, rfl⟩
        | 15, ho, hv, hLi =>
          cases Option.some.inj ho
          cases Option.some.inj hv
          subst hJ
          have hG : A.tmps[93]?.getD undef = undef := (gd A 93).trans (hhas 14 93 _ rfl (hdep ⟨14, .guard⟩ (by simp) rfl))
          refine wpOp_step rfl (fun K hK => ?_)
          rw [if_neg (unwM (by rfl) (by rfl) hG)]
          exact hK _ _ ⟨rfl, rfl⟩
        | 16, ho, hv, hLi =>
          cases Option.some.inj ho
          cases Option.some.inj hv
          subst hJ
          have hG : A.tmps[93]?.getD undef = undef := (gd A 93).trans (hhas 14 93 _ rfl (hdep ⟨14, .guard⟩ (by simp) rfl))
          refine wpOp_step rfl (fun K hK => ?_)
          rw [if_neg (unwM (by rfl) (by rfl) hG)]
          exact hK _ _ ⟨rfl, rfl⟩
        | 17, ho, hv, hLi =>
          cases Option.some.inj ho
          cases Option.some.inj hv
          subst hJ
          have hG : A.tmps[93]?.getD undef = undef := (gd A 93).trans (hhas 14 93 _ rfl (hdep ⟨14, .guard⟩ (by simp) rfl))
          refine wpOp_step rfl (fun K hK => ?_)
          rw [if_neg (unwM (by rfl) (by rfl) hG)]
          exact hK _ _ ⟨rfl, rfl⟩
        | 18, ho, hv, hLi =>
          cases Option.some.inj ho
          cases Option.some.inj hv
          subst hJ
          have hG : A.tmps[93]?.getD undef = undef := (gd A 93).trans (hhas 14 93 _ rfl (hdep ⟨14, .guard⟩ (by simp) rfl))
          refine wpOp_step rfl (fun K hK => ?_)
          rw [if_neg (unwM (by rfl) (by rfl) hG)]
          exact hK _ _ ⟨rfl, rfl⟩
        | 19, ho, hv, hLi =>
          cases Option.some.inj ho
          cases Option.some.inj hv
          subst hJ
          have hG : A.tmps[93]?.getD undef = undef := (gd A 93).trans (hhas 14 93 _ rfl (hdep ⟨14, .guard⟩ (by simp) rfl))
          refine wpOp_step rfl (fun K hK => ?_)
          rw [if_neg (unwM (by rfl) (by rfl) hG)]
          exact hK _ _ ⟨rfl, rfl⟩
        | 20, ho, hv, hLi =>
          cases Option.some.inj ho
          cases Option.some.inj hv
          subst hJ
          have hG : A.tmps[87]? = some (.bool true) := gdb (hhas 8 87 _ rfl (hdep ⟨8, .guard⟩ (by simp) rfl))
          refine wpOp_step rfl (fun K hK => ?_)
          go_simp
          exact hK _ _ ⟨rfl, rfl⟩
        | 21, ho, hv, hLi =>
          cases Option.some.inj ho
          cases Option.some.inj hv
          subst hJ
          have hG : A.tmps[81]? = some (.bool true) := gdb (hhas 2 81 _ rfl (hdep ⟨2, .guard⟩ (by simp) rfl))
          have h87 : A.tmps[87]?.getD undef = .bool true := (gd A 87).trans (hhas 8 87 _ rfl (hdep ⟨8, .data⟩ (by simp) rfl))
          have h99 : A.tmps[99]?.getD undef = undef := (gd A 99).trans (hhas 20 99 _ rfl (hdep ⟨20, .data⟩ (by simp) rfl))
          refine wpOp_step rfl (fun K hK => ?_)
          go_simp
          exact hK _ _ ⟨rfl, rfl⟩
        | 22, ho, hv, hLi =>
          cases Option.some.inj ho
          cases Option.some.inj hv
          subst hJ
          have h81 : A.tmps[81]?.getD undef = .bool true := (gd A 81).trans (hhas 2 81 _ rfl (hdep ⟨2, .data⟩ (by simp) rfl))
          have h100 : A.tmps[100]?.getD undef = .bool true := (gd A 100).trans (hhas 21 100 _ rfl (hdep ⟨21, .data⟩ (by simp) rfl))
          refine wpOp_step rfl (fun K hK => ?_)
          go_simp
          exact hK _ _ ⟨rfl, rfl⟩
        | 23, ho, hv, hLi =>
          cases Option.some.inj ho
          cases Option.some.inj hv
          subst hJ
          have h101 : A.tmps[101]?.getD undef = .bool true := (gd A 101).trans (hhas 22 101 _ rfl (hdep ⟨22, .data⟩ (by simp) rfl))
          refine wpOp_step rfl (fun K hK => ?_)
          go_simp
          exact hK _ _ ⟨rfl, rfl⟩
        | kk + 24, ho, hv, hLi => simp at hv
      · intro L W5 hL hJ
        subst hJ
        simp only [putAll_cons, putAll_nil, Act.put, List.setIfInBounds_toArray, List.set_cons_succ, List.set_cons_zero]
        clear hL
        go_wp2_with fail
        go_ret
        exact ⟨rfl, HBH.out⟩
    · have hde : d2 = sd ∧ m2' ≤ sm := by
        rcases hord with h | h
        · exact absurd h hlt
        · exact h
      have hd1 : (d2 == sd) = true := by rw [hde.1]; simp
      have hd2 := hde.2
      clear hord hde
      go_wp2_with fail
      go_ret
      exact ⟨rfl, HBH.out⟩
end Go.Proofs.YtlhjgajhcabhoaaDoor
