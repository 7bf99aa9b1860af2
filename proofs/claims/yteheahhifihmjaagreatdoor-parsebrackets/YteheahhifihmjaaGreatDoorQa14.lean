/- Regions that draw their order and yield values that are known beforehand: the frame behind them is written out. It speaks of no program. -/
import Derived.Test.YteheahhifihmjaaGreatDoorQa03
import Derived.Below
import Derived.Test.YteheahhifihmjaaGreatDoorQa13
import Derived.Test.YteheahhifihmjaaGreatDoorQa05
import Derived.Test.YteheahhifihmjaaGreatDoorQa07
import Derived.Laws.StructEq
namespace Go.Proofs.YteheahhifihmjaaGreatDoor
open Go Go.RowKit

/-- Values put into slots. -/
def putAll (ds : List (Nat × Value)) (a : Act) : Act := ds.foldl (fun a p => a.put (some p.1) p.2) a
theorem putAll_nil (a : Act) : putAll [] a = a := rfl
theorem putAll_cons (p : Nat × Value) (ds : List (Nat × Value)) (a : Act) : putAll (p :: ds) a = putAll ds (a.put (some p.1) p.2) := rfl
theorem putAll_defers : ∀ (ds : List (Nat × Value)) (a : Act), (putAll ds a).defers = a.defers
  | [], _ => rfl
  | p :: ds, a => (putAll_defers ds (a.put (some p.1) p.2)).trans rfl
theorem putAll_size : ∀ (ds : List (Nat × Value)) (a : Act), (putAll ds a).tmps.size = a.tmps.size
  | [], _ => rfl
  | p :: ds, a => (putAll_size ds (a.put (some p.1) p.2)).trans (by simp [Act.put])
theorem putAll_other : ∀ (ds : List (Nat × Value)) (a : Act) (s : Nat), (∀ p ∈ ds, p.1 ≠ s) → (putAll ds a).tmps.getD s undef = a.tmps.getD s undef
  | [], _, _, _ => rfl
  | p :: ds, a, s, h => by
    rw [putAll_cons, putAll_other ds _ s (fun q hq => h q (List.mem_cons_of_mem _ hq))]
    exact getD_set_other _ _ _ _ (h p List.mem_cons_self)
theorem putAll_same : ∀ (ds : List (Nat × Value)) (a : Act) (j s : Nat) (v : Value), (ds.map (fun p => some p.1)).Nodup → s < a.tmps.size → ds[j]? = some (s, v) → (putAll ds a).tmps.getD s undef = v
  | [], _, _, _, _, _, _, h => by simp at h
  | p :: ds, a, 0, s, v, hn, hs, h => by
    simp at h
    subst h
    rw [putAll_cons, putAll_other ds _ s ?_]
    · exact getD_set_same _ _ _ hs
    · intro q hq e
      rw [List.map_cons, List.nodup_cons] at hn
      exact hn.1 (List.mem_map.2 ⟨q, hq, by rw [e]⟩)
  | p :: ds, a, j + 1, s, v, hn, hs, h => by
    rw [putAll_cons]
    rw [List.map_cons, List.nodup_cons] at hn
    exact putAll_same ds _ j s v hn.2 (by simpa [Act.put] using hs) (by simpa using h)
theorem act_is {A a0 : Act} (ds : List (Nat × Value)) (hd : A.defers = a0.defers) (hs : A.tmps.size = a0.tmps.size) (hn : (ds.map (fun p => some p.1)).Nodup)
    (hk : ∀ s, (∀ p ∈ ds, p.1 ≠ s) → A.tmps.getD s undef = a0.tmps.getD s undef) (hh : ∀ (j s : Nat) (v : Value), ds[j]? = some (s, v) → A.tmps.getD s undef = v) : A = putAll ds a0 := by
  have e1 := putAll_defers ds a0
  have e2 := putAll_size ds a0
  have e3 : ∀ s, s < a0.tmps.size → A.tmps.getD s undef = (putAll ds a0).tmps.getD s undef := by
    intro s hs'
    by_cases h : ∃ p ∈ ds, p.1 = s
    · obtain ⟨p, hp, rfl⟩ := h
      obtain ⟨j, hj⟩ := List.getElem?_of_mem hp
      rw [hh j _ _ hj, putAll_same ds a0 j _ _ hn hs' hj]
    · have h' : ∀ p ∈ ds, p.1 ≠ s := fun p hp e => h ⟨p, hp, e⟩
      rw [hk s h', putAll_other ds a0 s h']
  generalize putAll ds a0 = F at *
  obtain ⟨t, d⟩ := A
  obtain ⟨t', d'⟩ := F
  dsimp only at *
  have : t = t' := by
    apply Array.ext
    · omega
    · intro i h1 h2
      have := e3 i (by omega)
      simpa [Array.getD, h1, h2] using this
  rw [this, hd, e1]

section
variable {P : Program} {ops : Array Oper} {Q : Exit → Act → World → Prop} {id : Nat} {a0 : Act} {w : World}

/-- What an operation of the region comes to, in whatever world behind the first. -/
def StepV (P : Program) (ops : Array Oper) (Q : Exit → Act → World → Prop) (ds : List (Nat × Value)) (a0 : Act) (w : World) : Prop :=
  ∀ (i s : Nat) (v : Value) (o : Oper) (L : Nat → Bool) (A : Act) (W : World), ops[i]? = some o → ds[i]? = some (s, v) → (∀ e ∈ o.after, Region.binds .any e = true → L e.on = true) → Below w.heap.size w W →
    (∀ s, notDst ops s = true → A.tmps.getD s undef = a0.tmps.getD s undef) → (∀ (j s : Nat) (u : Value), ds[j]? = some (s, u) → L j = true → A.tmps.getD s undef = u) → wpOp P ops Q i (fun a' W' => a' = A.put (some s) v ∧ Below W.heap.size W W') A W

theorem dst_at {k : Nat} {ds : List (Nat × Value)} (hds : (ops.toList.take k).map (fun o => o.dst) = ds.map (fun p => some p.1)) {i s : Nat} {v : Value} {o : Oper} (ho : ops[i]? = some o) (h : ds[i]? = some (s, v)) : o.dst = some s := by
  have h1 : (ds.map (fun p => some p.1))[i]? = some (some s) := by rw [List.getElem?_map, h]; rfl
  rw [← hds, List.getElem?_map] at h1
  have h2 : (ops.toList.take k)[i]? = some o ∨ (ops.toList.take k)[i]? = none := by
    rw [List.getElem?_take]
    split
    · left; simpa using ho
    · right; rfl
  rcases h2 with h2 | h2
  · rw [h2] at h1; simpa using h1
  · rw [h2] at h1; simp at h1
theorem at_dst {k : Nat} {ds : List (Nat × Value)} (hds : (ops.toList.take k).map (fun o => o.dst) = ds.map (fun p => some p.1)) {i : Nat} {o : Oper} (hi : i < k) (ho : ops[i]? = some o) : ∃ s v, ds[i]? = some (s, v) := by
  have h1 : (ops.toList.take k)[i]? = some o := by rw [List.getElem?_take, if_pos hi]; simpa using ho
  have h2 : ((ops.toList.take k).map (fun o => o.dst))[i]? = some o.dst := by rw [List.getElem?_map, h1]; rfl
  rw [hds, List.getElem?_map] at h2
  cases h3 : ds[i]? with
  | none => rw [h3] at h2; simp at h2
  | some p => exact ⟨p.1, p.2, rfl⟩

theorem wp_region_vals (hm : P.follows .mixedOrders = true) (hback : backB ops = true) (hdst : dstB ops = true) (hin : inB ops a0.tmps.size = true) (ds : List (Nat × Value))
    (hds : (ops.toList.take ops.size).map (fun o => o.dst) = ds.map (fun p => some p.1)) (hnd : decide (((ops.toList.take ops.size).map (fun o => o.dst)).Nodup) = true)
    (hstep : StepV P ops Q ds a0 w) (hend : ∀ W, Below w.heap.size w W → Q .normal (putAll ds a0) W) : (Code.region id ops true).wp P Q a0 w := by
  have hnd' : (ds.map (fun p => some p.1)).Nodup := by rw [← hds]; exact of_decide_eq_true hnd
  refine wp_region_flow hm hback hdst hin (fun _ _ W => Below w.heap.size w W) (fun j x _ => ∀ s v, ds[j]? = some (s, v) → x = v) ?_ ?_ ?_
  · intro L _
    exact (Below.refl _ _).drew
  · intro i o L A W ho hLi hdep hJ hdef hkept hhas
    have hi : i < ops.size := (Array.getElem?_eq_some_iff.1 ho).1
    obtain ⟨s, v, hv⟩ := at_dst hds hi ho
    have hd := dst_at hds ho hv
    refine wpOp_mono ?_ (hstep i s v o L A W ho hv hdep hJ (fun s' h => hkept s' fun j p hp _ => nd h j p hp) (fun j s' u hj hL => ?_))
    · rintro a' W' ⟨rfl, hb⟩
      exact ⟨v, by rw [hd], fun _ s' v' h => by rw [hv] at h; cases h; rfl, fun _ _ _ h => h, hJ.trans (hb.mono hJ.size)⟩
    · have hj' : j < ds.length := (List.getElem?_eq_some_iff.1 hj).1
      have hl : ds.length = ops.size := by have := congrArg List.length hds; simpa using this.symm
      obtain ⟨p, hp⟩ : ∃ p, ops[j]? = some p := ⟨ops[j]'(by omega), Array.getElem?_eq_getElem _⟩
      exact hhas j p hp hL s' (dst_at hds hp hj) s' u hj
  · intro L A W hL hJ hdef hsize hkept hhas
    have : A = putAll ds a0 := act_is ds hdef hsize hnd' (fun s h => hkept s fun j p hp e => ?_) (fun j s v hj => ?_)
    · rw [this]; exact hend W hJ
    · have hi : j < ops.size := (Array.getElem?_eq_some_iff.1 hp).1
      obtain ⟨s', v, hv⟩ := at_dst hds hi hp
      have := (dst_at hds hp hv).symm.trans e
      cases this
      exact h _ (List.mem_of_getElem? hv) rfl
    · have hj' : j < ds.length := (List.getElem?_eq_some_iff.1 hj).1
      have hl : ds.length = ops.size := by have := congrArg List.length hds; simpa using this.symm
      obtain ⟨p, hp⟩ : ∃ p, ops[j]? = some p := ⟨ops[j]'(by omega), Array.getElem?_eq_getElem _⟩
      exact hhas j p hp s (dst_at hds hp hj) s v hj

/-- Each operation but the last is waited for by a later one. -/
def useB (ops : Array Oper) : Bool := (List.range (ops.size - 1)).all fun i => (List.range ops.size).any fun j => decide (i < j) && match ops[j]? with | none => false | some o => o.after.any fun e => Region.binds .any e && decide (e.on = i)
theorem use_all (hu : useB ops = true) {n : Nat} (hn : ops.size = n + 1) {L : Nat → Bool} (hc : ∀ (j : Nat) (p : Oper), ops[j]? = some p → L j = true → ∀ e ∈ p.after, Region.binds .any e = true → L e.on = true) (hL : L n = true) : ∀ k i, n - i ≤ k → i ≤ n → L i = true
  | 0, i, hk, hi => by rw [show i = n by omega]; exact hL
  | k + 1, i, hk, hi => by
    by_cases e : i = n
    · rw [e]; exact hL
    have h1 := List.all_eq_true.1 hu i (by simp; omega)
    obtain ⟨j, hj, h2⟩ := List.any_eq_true.1 h1
    simp at hj
    simp only [Bool.and_eq_true, decide_eq_true_eq] at h2
    obtain ⟨hij, h3⟩ := h2
    cases ho : ops[j]? with
    | none => rw [ho] at h3; cases h3
    | some o =>
      rw [ho] at h3
      obtain ⟨e', he, h4⟩ := Array.any_eq_true'.1 h3
      simp only [Bool.and_eq_true, decide_eq_true_eq] at h4
      have := hc j o ho (use_all hu hn hc hL k j (by omega) (by omega)) e' he h4.1
      rw [h4.2] at this
      exact this

theorem wp_region_last (hm : P.follows .mixedOrders = true) (hback : backB ops = true) (hdst : dstB ops = true) (hin : inB ops a0.tmps.size = true) (n : Nat) (hn : ops.size = n + 1) (huse : useB ops = true) (ds : List (Nat × Value))
    (hds : (ops.toList.take n).map (fun o => o.dst) = ds.map (fun p => some p.1)) (hnd : decide (((ops.toList.take n).map (fun o => o.dst)).Nodup) = true)
    (hstep : StepV P ops Q ds a0 w) (hlast : ∀ (o : Oper) (W : World), ops[n]? = some o → Below w.heap.size w W → wpOp P ops Q n (fun a' W' => (∃ v, a' = (putAll ds a0).put o.dst v) ∧ Q .normal a' W') (putAll ds a0) W) : (Code.region id ops true).wp P Q a0 w := by
  have hnd' : (ds.map (fun p => some p.1)).Nodup := by rw [← hds]; exact of_decide_eq_true hnd
  have hl : ds.length = n := by
    have h := congrArg List.length hds
    simp only [List.length_map, List.length_take, Array.length_toList] at h
    omega
  refine wp_region_flow hm hback hdst hin (fun L A W => (∀ (j : Nat) (p : Oper), ops[j]? = some p → L j = true → ∀ e ∈ p.after, Region.binds .any e = true → L e.on = true) ∧ (L n = false → Below w.heap.size w W ∧ A.tmps.size = a0.tmps.size) ∧ (L n = true → Q .normal A W)) (fun j x _ => ∀ s v, ds[j]? = some (s, v) → x = v) ?_ ?_ ?_
  · intro L h
    refine ⟨fun j p hp hj => ?_, fun _ => ⟨(Below.refl _ _).drew, rfl⟩, fun h' => ?_⟩
    · have := h j (Array.getElem?_eq_some_iff.1 hp).1
      rw [this] at hj; cases hj
    · rw [h n (by omega)] at h'; cases h'
  · intro i o L A W ho hLi hdep hJ hdef hkept hhas
    obtain ⟨hc, hbel, hdone⟩ := hJ
    have hi : i < ops.size := (Array.getElem?_eq_some_iff.1 ho).1
    have hLn : L n = false := by
      cases h : L n with
      | false => rfl
      | true =>
        have := use_all huse hn hc h n i (by omega) (by omega)
        rw [this] at hLi; cases hLi
    obtain ⟨hbw, hsz⟩ := hbel hLn
    have hc' : ∀ (j : Nat) (p : Oper), ops[j]? = some p → (decide (i = j) || L j) = true → ∀ e ∈ p.after, Region.binds .any e = true → (decide (i = e.on) || L e.on) = true := by
      intro j p hp hj e he hb
      by_cases hij : i = j
      · subst hij
        rw [ho] at hp
        cases hp
        rw [hdep e he hb]; simp
      · rw [hc j p hp (by simpa [hij] using hj) e he hb]; simp
    have hread : ∀ (j s : Nat) (u : Value), ds[j]? = some (s, u) → L j = true → A.tmps.getD s undef = u := fun j s' u hj hL => by
      have hj' : j < ds.length := (List.getElem?_eq_some_iff.1 hj).1
      obtain ⟨p, hp⟩ : ∃ p, ops[j]? = some p := ⟨ops[j]'(by omega), Array.getElem?_eq_getElem _⟩
      exact hhas j p hp hL s' (dst_at hds hp hj) s' u hj
    by_cases hin' : i = n
    · subst hin'
      have hall : ∀ j, j < i → L j = true := fun j hj => by
        have := use_all huse hn hc' (L := fun k => decide (i = k) || L k) (by simp) i j (by omega) (by omega)
        simpa [show i ≠ j by omega] using this
      have e : A = putAll ds a0 := by
        refine act_is ds hdef hsz hnd' (fun s h => hkept s fun j p hp hj e => ?_) (fun j s v hj => ?_)
        · have hjn : j < i := by
            have h1 := (Array.getElem?_eq_some_iff.1 hp).1
            have h2 : j ≠ i := fun e' => by rw [e', hLn] at hj; cases hj
            omega
          obtain ⟨s', v, hv⟩ := at_dst hds hjn hp
          have := (dst_at hds hp hv).symm.trans e
          cases this
          exact h _ (List.mem_of_getElem? hv) rfl
        · exact hread j s v hj (hall j (by have := (List.getElem?_eq_some_iff.1 hj).1; omega))
      rw [e]
      refine wpOp_mono ?_ (hlast o W ho hbw)
      rintro a' W' ⟨⟨v, hv⟩, hq⟩
      refine ⟨v, hv, fun _ s' v' h => ?_, fun _ _ _ h => h, hc', fun h => by simp at h, fun _ => hq⟩
      have := (List.getElem?_eq_some_iff.1 h).1
      omega
    · obtain ⟨s, v, hv⟩ := at_dst hds (show i < n by omega) ho
      have hd := dst_at hds ho hv
      refine wpOp_mono ?_ (hstep i s v o L A W ho hv hdep hbw (fun s' h => hkept s' fun j p hp _ => nd h j p hp) hread)
      rintro a' W' ⟨rfl, hb⟩
      refine ⟨v, by rw [hd], fun _ s' v' h => by rw [hv] at h; cases h; rfl, fun _ _ _ h => h, hc', fun _ => ⟨hbw.trans (hb.mono hbw.size), by simpa [Act.put] using hsz⟩, fun h => ?_⟩
      simp [hin', hLn] at h
  · intro L A W hL hJ hdef hsize hkept hhas
    exact hJ.2.2 (hL n (by omega))
end
end Go.Proofs.YteheahhifihmjaaGreatDoor

/- What the program's texts of dates and of days come to. -/
namespace Go.Proofs.YteheahhifihmjaaGreatDoor
open Go.RowKit Lx

set_option maxRecDepth 100000 in
set_option maxHeartbeats 4000000 in
theorem dateText_any (n : Int) (h0 : 0 ≤ n) (h1 : n < 146097) (w : World) (hT : CTab w) (ht : ∀ w', Below w.heap.size w w' → PowT w') :
    Calls Tryz.prog 58 #[.int .i64 n] w fun e w' => e = .returned (.string ⟨(dateL n).toArray⟩) ∧ Below w.heap.size w w' := by
  have c := of_yes n w hT h0 h1
  clear hT
  go_enter Tryz.func58, Tryz.ntmps58
  go_wp2_with fail
  refine c.mono ?_
  rintro e w1 ⟨y, m, d, rfl, hd1, hd2, hnum, hb1⟩
  clear c
  have hym := ymd_eq hd1 hd2 hnum
  have hyb := Cal.dim_pos y m (by omega)
  have hdb := Cal.dim_31 y m
  have ED : Hid (dateL n = Lib.decDigits y.toNat ++ 45 :: (pad2 m.toNat ++ 45 :: pad2 d.toNat)) := by show _ = _; unfold dateL; rw [hym]
  clear hym hnum
  have hbA := hb1.trans (((Below.refl w1.heap.size w1).alloc (Nat.le_refl _) (.cells #[.int .i64 y, .int .i64 m, .int .i64 d] 98)).mono hb1.size)
  have hxA := heap_alloc_new w1 (.cells #[.int .i64 y, .int .i64 m, .int .i64 d] 98)
  have cY := fun (W : World) (h : Below (w1.alloc (.cells #[.int .i64 y, .int .i64 m, .int .i64 d] 98)).heap.size (w1.alloc (.cells #[.int .i64 y, .int .i64 m, .int .i64 d] 98)) W) => padded_year y (by omega) (by omega) W (ht W (hbA.trans (h.mono hbA.size)))
  have cM := fun (W : World) => (padded_int m (by omega) (by omega) W).mono (fun e w' h => (⟨h.1, h.2 ▸ Below.refl _ _⟩ : e = .returned (.string ⟨(pad2 m.toNat).toArray⟩) ∧ Below W.heap.size W w'))
  have cD := fun (W : World) => (padded_int d (by omega) (by omega) W).mono (fun e w' h => (⟨h.1, h.2 ▸ Below.refl _ _⟩ : e = .returned (.string ⟨(pad2 d.toNat).toArray⟩) ∧ Below W.heap.size W w'))
  have lY : (Lib.decDigits y.toNat).length ≤ 4 := dec_len (by omega)
  have lM := pad2_len m.toNat
  have lD := pad2_len d.toNat
  clear ht hd1 hd2 hyb hdb hb1 h0 h1
  generalize Lib.decDigits y.toNat = Y at *
  generalize pad2 m.toNat = M at *
  generalize pad2 d.toNat = D at *
  go_wp2_with fail
  generalize hwA : w1.alloc (.cells #[.int .i64 y, .int .i64 m, .int .i64 d] 98) = wA at *
  have z0 := (cell_of_row _ _ 0 _ _ _ hxA).trans rfl
  have z1 := (cell_of_row _ _ 1 _ _ _ hxA).trans rfl
  have z2 := (cell_of_row _ _ 2 _ _ _ hxA).trans rfl
  refine wp_region_vals (by kernel_rfl) (by kernel_rfl) (by kernel_rfl) (by kernel_rfl) [(10, .pointer (some ⟨w1.heap.size, 0, none⟩)), (11, .int .i64 y), (12, .string ⟨(Y).toArray⟩), (13, .string ⟨(Y ++ [45]).toArray⟩), (14, .pointer (some ⟨w1.heap.size, 1, none⟩)), (15, .int .i64 m), (16, .string ⟨(M).toArray⟩), (17, .string ⟨(Y ++ 45 :: M).toArray⟩), (18, .string ⟨(Y ++ 45 :: (M ++ [45])).toArray⟩), (19, .pointer (some ⟨w1.heap.size, 2, none⟩)), (20, .int .i64 d), (21, .string ⟨(D).toArray⟩), (22, .string ⟨(Y ++ 45 :: (M ++ 45 :: D)).toArray⟩), (2, .string ⟨(Y ++ 45 :: (M ++ 45 :: D)).toArray⟩)] (by kernel_rfl) (by kernel_rfl) ?_ ?_
  · intro i s v o L A W ho hv hdep hJ hkept hhas
    match i, ho, hv with
    | 0, ho, hv =>
      cases Option.some.inj ho
      cases Option.some.inj hv
      have h3 : A.tmps[3]?.getD undef = .pointer (some ⟨w1.heap.size, 0, none⟩) := (gd A 3).trans (hkept 3 (by kernel_rfl))
      refine wpOp_step rfl (fun K hK => ?_)
      go_simp
      exact hK _ _ ⟨rfl, Below.refl _ _⟩
    | 1, ho, hv =>
      cases Option.some.inj ho
      cases Option.some.inj hv
      have h10 : A.tmps[10]?.getD undef = .pointer (some ⟨w1.heap.size, 0, none⟩) := (gd A 10).trans (hhas 0 10 _ rfl (hdep ⟨0, .data⟩ (by simp) rfl))
      have z : W.cell? ⟨w1.heap.size, 0, none⟩ = some (.int .i64 y) := (hJ.cell (block_lt_of_cell z0)).trans z0
      refine wpOp_step rfl (fun K hK => ?_)
      go_simp
      exact hK _ _ ⟨rfl, Below.refl _ _⟩
    | 2, ho, hv =>
      cases Option.some.inj ho
      cases Option.some.inj hv
      have h11 : A.tmps[11]?.getD undef = .int .i64 y := (gd A 11).trans (hhas 1 11 _ rfl (hdep ⟨1, .data⟩ (by simp) rfl))
      refine wpOp_step rfl (fun K hK => ?_)
      go_simp
      refine (cY W hJ).mono ?_
      rintro e' W' ⟨rfl, hb'⟩
      exact hK _ _ ⟨rfl, hb'⟩
    | 3, ho, hv =>
      cases Option.some.inj ho
      cases Option.some.inj hv
      have h12 : A.tmps[12]?.getD undef = .string ⟨(Y).toArray⟩ := (gd A 12).trans (hhas 2 12 _ rfl (hdep ⟨2, .data⟩ (by simp) rfl))
      refine wpOp_step rfl (fun K hK => ?_)
      go_simp
      rw [if_neg (by omega)]
      exact hK _ _ ⟨congrArg (A.put (some 13)) (str_of (by simp)), Below.refl _ _⟩
    | 4, ho, hv =>
      cases Option.some.inj ho
      cases Option.some.inj hv
      have h3 : A.tmps[3]?.getD undef = .pointer (some ⟨w1.heap.size, 0, none⟩) := (gd A 3).trans (hkept 3 (by kernel_rfl))
      refine wpOp_step rfl (fun K hK => ?_)
      go_simp
      exact hK _ _ ⟨rfl, Below.refl _ _⟩
    | 5, ho, hv =>
      cases Option.some.inj ho
      cases Option.some.inj hv
      have h14 : A.tmps[14]?.getD undef = .pointer (some ⟨w1.heap.size, 1, none⟩) := (gd A 14).trans (hhas 4 14 _ rfl (hdep ⟨4, .data⟩ (by simp) rfl))
      have z : W.cell? ⟨w1.heap.size, 1, none⟩ = some (.int .i64 m) := (hJ.cell (block_lt_of_cell z1)).trans z1
      refine wpOp_step rfl (fun K hK => ?_)
      go_simp
      exact hK _ _ ⟨rfl, Below.refl _ _⟩
    | 6, ho, hv =>
      cases Option.some.inj ho
      cases Option.some.inj hv
      have h15 : A.tmps[15]?.getD undef = .int .i64 m := (gd A 15).trans (hhas 5 15 _ rfl (hdep ⟨5, .data⟩ (by simp) rfl))
      refine wpOp_step rfl (fun K hK => ?_)
      go_simp
      refine (cM W).mono ?_
      rintro e' W' ⟨rfl, hb'⟩
      exact hK _ _ ⟨rfl, hb'⟩
    | 7, ho, hv =>
      cases Option.some.inj ho
      cases Option.some.inj hv
      have h13 : A.tmps[13]?.getD undef = .string ⟨(Y ++ [45]).toArray⟩ := (gd A 13).trans (hhas 3 13 _ rfl (hdep ⟨3, .data⟩ (by simp) rfl))
      have h16 : A.tmps[16]?.getD undef = .string ⟨(M).toArray⟩ := (gd A 16).trans (hhas 6 16 _ rfl (hdep ⟨6, .data⟩ (by simp) rfl))
      refine wpOp_step rfl (fun K hK => ?_)
      go_simp
      rw [if_neg (by omega)]
      exact hK _ _ ⟨congrArg (A.put (some 17)) (str_of (by simp)), Below.refl _ _⟩
    | 8, ho, hv =>
      cases Option.some.inj ho
      cases Option.some.inj hv
      have h17 : A.tmps[17]?.getD undef = .string ⟨(Y ++ 45 :: M).toArray⟩ := (gd A 17).trans (hhas 7 17 _ rfl (hdep ⟨7, .data⟩ (by simp) rfl))
      refine wpOp_step rfl (fun K hK => ?_)
      go_simp
      rw [if_neg (by omega)]
      exact hK _ _ ⟨congrArg (A.put (some 18)) (str_of (by simp)), Below.refl _ _⟩
    | 9, ho, hv =>
      cases Option.some.inj ho
      cases Option.some.inj hv
      have h3 : A.tmps[3]?.getD undef = .pointer (some ⟨w1.heap.size, 0, none⟩) := (gd A 3).trans (hkept 3 (by kernel_rfl))
      refine wpOp_step rfl (fun K hK => ?_)
      go_simp
      exact hK _ _ ⟨rfl, Below.refl _ _⟩
    | 10, ho, hv =>
      cases Option.some.inj ho
      cases Option.some.inj hv
      have h19 : A.tmps[19]?.getD undef = .pointer (some ⟨w1.heap.size, 2, none⟩) := (gd A 19).trans (hhas 9 19 _ rfl (hdep ⟨9, .data⟩ (by simp) rfl))
      have z : W.cell? ⟨w1.heap.size, 2, none⟩ = some (.int .i64 d) := (hJ.cell (block_lt_of_cell z2)).trans z2
      refine wpOp_step rfl (fun K hK => ?_)
      go_simp
      exact hK _ _ ⟨rfl, Below.refl _ _⟩
    | 11, ho, hv =>
      cases Option.some.inj ho
      cases Option.some.inj hv
      have h20 : A.tmps[20]?.getD undef = .int .i64 d := (gd A 20).trans (hhas 10 20 _ rfl (hdep ⟨10, .data⟩ (by simp) rfl))
      refine wpOp_step rfl (fun K hK => ?_)
      go_simp
      refine (cD W).mono ?_
      rintro e' W' ⟨rfl, hb'⟩
      exact hK _ _ ⟨rfl, hb'⟩
    | 12, ho, hv =>
      cases Option.some.inj ho
      cases Option.some.inj hv
      have h18 : A.tmps[18]?.getD undef = .string ⟨(Y ++ 45 :: (M ++ [45])).toArray⟩ := (gd A 18).trans (hhas 8 18 _ rfl (hdep ⟨8, .data⟩ (by simp) rfl))
      have h21 : A.tmps[21]?.getD undef = .string ⟨(D).toArray⟩ := (gd A 21).trans (hhas 11 21 _ rfl (hdep ⟨11, .data⟩ (by simp) rfl))
      refine wpOp_step rfl (fun K hK => ?_)
      go_simp
      rw [if_neg (by omega)]
      exact hK _ _ ⟨congrArg (A.put (some 22)) (str_of (by simp)), Below.refl _ _⟩
    | 13, ho, hv =>
      cases Option.some.inj ho
      cases Option.some.inj hv
      have h22 : A.tmps[22]?.getD undef = .string ⟨(Y ++ 45 :: (M ++ 45 :: D)).toArray⟩ := (gd A 22).trans (hhas 12 22 _ rfl (hdep ⟨12, .data⟩ (by simp) rfl))
      refine wpOp_step rfl (fun K hK => ?_)
      go_simp
      exact hK _ _ ⟨rfl, Below.refl _ _⟩
    | k + 14, ho, hv => simp at ho
  · intro W hJ
    simp only [putAll_cons, putAll_nil]
    go_simp
    go_wp2_with fail
    go_ret
    exact ⟨congrArg Ending.returned (str_of (by rw [ED.out])), hbA.trans (hJ.mono hbA.size)⟩

end Go.Proofs.YteheahhifihmjaaGreatDoor

/- The tokens of two texts on two lines; that tokens are told one way alone. -/
namespace Go.Proofs.YteheahhifihmjaaGreatDoor
open Go.RowKit Lx

theorem drop_line (x y : List UInt8) (k : Nat) (hk : k ≤ x.length) : (x ++ 10 :: y).drop k = x.drop k ++ 10 :: y := List.drop_append_of_le_length hk
theorem skip_at (x y : List UInt8) (k : Nat) (hk : k ≤ x.length) : k + skipS false ((x ++ 10 :: y).drop k) = if k + skipS false (x.drop k) < x.length then k + skipS false (x.drop k) else x.length + 1 + skipS false y := by
  rw [drop_line x y k hk, skip_line]
  have := skipS_le false (x.drop k)
  simp only [List.length_drop] at this ⊢
  split <;> split <;> omega
/-- The first line's tokens are the text's. -/
theorem lexed_line {x : List UInt8} (y : List UInt8) {ts : List (T1 × Nat)} {k : Nat} (h : Lexed x ts k) : Lexed (x ++ 10 :: y) ts (if k < x.length then k else x.length + 1 + skipS false y) := by
  obtain ⟨n, hn⟩ := h
  refine Lexed.ind (M := fun ts k => Lexed (x ++ 10 :: y) ts (if k < x.length then k else x.length + 1 + skipS false y)) ?_ ?_ n hn
  · have e := skip_at x y 0 (by omega)
    have s := Lexed.start (l := x ++ 10 :: y)
    rw [e] at s
    exact s
  · intro ts k _ hk he ih
    rw [if_pos hk] at ih
    have f := first_fine _ (drop_pos hk) he
    have hle := f.le
    simp only [List.length_drop] at hle
    have e1 : firstT ((x ++ 10 :: y).drop k) = firstT (x.drop k) := by rw [drop_line x y k (by omega), first_line _ y (drop_pos hk)]
    have s := Lexed.step ih (by simp; omega) (by rw [e1]; exact he)
    rw [e1, skip_at x y (k + (firstT (x.drop k)).len) (by omega)] at s
    exact s
/-- Tokens so many bytes on. -/
def onBy (n : Nat) (ts : List (T1 × Nat)) : List (T1 × Nat) := ts.map fun p => (p.1, n + p.2)
theorem drop_second (x y : List UInt8) (k : Nat) : (x ++ 10 :: y).drop (x.length + 1 + k) = y.drop k := by
  rw [show x.length + 1 + k = x.length + (1 + k) by omega, ← List.drop_drop, List.drop_left, show 1 + k = k + 1 by omega]
  rfl
theorem lexed_both {x y : List UInt8} {ts us : List (T1 × Nat)} {k : Nat} (hx : Lexed (x ++ 10 :: y) ts (x.length + 1 + skipS false y)) (h : Lexed y us k) : Lexed (x ++ 10 :: y) (ts ++ onBy (x.length + 1) us) (x.length + 1 + k) := by
  obtain ⟨n, hn⟩ := h
  refine Lexed.ind (M := fun us k => Lexed (x ++ 10 :: y) (ts ++ onBy (x.length + 1) us) (x.length + 1 + k)) ?_ ?_ n hn
  · simp only [onBy, List.map_nil, List.append_nil, Nat.zero_add, List.drop_zero]
    exact hx
  · intro us k _ hk he ih
    have e1 := drop_second x y k
    have s := Lexed.step ih (by simp; omega) (by rw [e1]; exact he)
    rw [e1] at s
    rw [show x.length + 1 + k + (firstT (y.drop k)).len = x.length + 1 + (k + (firstT (y.drop k)).len) by omega, drop_second] at s
    simp only [onBy, List.map_append, List.map_cons, List.map_nil]
    rw [← List.append_assoc, ← Nat.add_assoc (x.length + 1)]
    exact s
/-- Where the tokens end, they end one way alone. -/
theorem lexed_one {l : List UInt8} {ts us : List (T1 × Nat)} {k j : Nat} (h : Lexed l ts k) (h' : Lexed l us j) (hk : ¬ (k < l.length ∧ (firstT (l.drop k)).err = 0)) (hj : ¬ (j < l.length ∧ (firstT (l.drop j)).err = 0)) : ts = us ∧ k = j := by
  obtain ⟨n, hn⟩ := h.iter
  obtain ⟨m, hm⟩ := h'.iter
  have n1 : iterN l (n + 1) = none := by simp only [iterN, hn]; rw [if_neg hk]
  have m1 : iterN l (m + 1) = none := by simp only [iterN, hm]; rw [if_neg hj]
  have e : n = m := by
    rcases Nat.lt_trichotomy n m with g | g | g
    · have := iter_none n1 m (by omega)
      rw [hm] at this; cases this
    · exact g
    · have := iter_none m1 n (by omega)
      rw [hn] at this; cases this
  subst e
  rw [hn] at hm
  have := Option.some.inj hm
  exact ⟨congrArg Prod.fst this, congrArg Prod.snd this⟩
end Go.Proofs.YteheahhifihmjaaGreatDoor

/- What lex.Named comes to, and that the law's first question is answered yes. -/
namespace Go.Proofs.YteheahhifihmjaaGreatDoor
open Go.RowKit Lx

set_option maxRecDepth 10000 in
set_option maxHeartbeats 400000 in
theorem named_any (s : ByteArray) (l : List UInt8) (hs : s.data.toList = l) (hl : l.length ≤ 9223372036854775806) (w : World) :
    Calls Tryz.prog 30 #[.string s] w fun e w' => e = .returned (.bool (namedL l)) ∧ Below w.heap.size w w' := by
  have hz : s.size = l.length := by rw [← hs, Lib.size_eq]
  have hnil : s.toList.isEmpty = l.isEmpty := by rw [Lib.toList_data, hs]
  have cl := fun w => wordLen_any s l hs hl w
  have cw := fun w => isWord_any s l hs w
  by_cases h0 : l.length = 0
  · have HN : Hid (namedL l = false) := by show namedL l = false; simp [namedL, h0]
    have hq : s.toList.isEmpty = true := by rw [hnil]; simpa using h0
    clear hnil h0
    go_enter Tryz.func30, Tryz.ntmps30
    go_wp2_with (first
      | (go_at_call 52; refine (cl _).mono ?_; rintro e w' ⟨rfl, rfl⟩)
      | (go_at_call 53; refine (cw _).mono ?_; rintro e w1 ⟨rfl, hb1⟩))
    go_ret
    exact ⟨by rw [HN.out]; rfl, Below.refl _ _⟩
  · have hq : s.toList.isEmpty = false := by rw [hnil]; cases l <;> simp at h0 ⊢
    clear hnil
    by_cases h20 : l.length ≤ 20
    · have i20 : (l.length : Int) ≤ 20 := by omega
      by_cases hw : wordLen l = l.length
      · have HN : Hid (namedL l = !isWordL l) := by show namedL l = _; simp [namedL, h0, h20, hw]
        rw [hw] at cl
        clear h0 hw
        generalize isWordL l = b at *
        go_enter Tryz.func30, Tryz.ntmps30
        go_wp2_with (first
          | (go_at_call 52; refine (cl _).mono ?_; rintro e w' ⟨rfl, rfl⟩)
          | (go_at_call 53; refine (cw _).mono ?_; rintro e w1 ⟨rfl, hb1⟩))
        go_ret
        exact ⟨by rw [HN.out]; rfl, hb1⟩
      · have HN : Hid (namedL l = false) := by show namedL l = false; simp [namedL, hw]
        have iw : ((wordLen l : Int) == (l.length : Int)) = false := by simp; omega
        clear h0 hw
        generalize wordLen l = k at *
        go_enter Tryz.func30, Tryz.ntmps30
        go_wp2_with (first
          | (go_at_call 52; refine (cl _).mono ?_; rintro e w' ⟨rfl, rfl⟩)
          | (go_at_call 53; refine (cw _).mono ?_; rintro e w1 ⟨rfl, hb1⟩))
        go_ret
        exact ⟨by rw [HN.out]; rfl, Below.refl _ _⟩
    · have i20 : ¬ (l.length : Int) ≤ 20 := by omega
      have HN : Hid (namedL l = false) := by show namedL l = false; simp [namedL, h20]
      clear h0 h20
      go_enter Tryz.func30, Tryz.ntmps30
      go_wp2_with (first
        | (go_at_call 52; refine (cl _).mono ?_; rintro e w' ⟨rfl, rfl⟩)
        | (go_at_call 53; refine (cw _).mono ?_; rintro e w1 ⟨rfl, hb1⟩))
      go_ret
      exact ⟨by rw [HN.out]; rfl, Below.refl _ _⟩
end Go.Proofs.YteheahhifihmjaaGreatDoor

/- A row of tokens in memory. -/
namespace Go.Proofs.YteheahhifihmjaaGreatDoor
open Go.RowKit Lx

/-- A row of tokens in memory. -/
def TRow (w : World) (v : Value) (ts : List (T1 × Nat)) : Prop :=
  (∃ c, v = .slice none 0 c ∧ ts = []) ∨ ∃ g o c : Nat, v = .slice (some ⟨g, o, none⟩) ts.length c ∧ ts.length < 9223372036854775808 ∧ ∀ (j : Nat) (t : T1) (k : Nat), ts[j]? = some (t, k) →
    w.cell? ⟨g, o + j * 4, none⟩ = some (.int .i64 t.kind) ∧ w.cell? ⟨g, o + j * 4 + 1, none⟩ = some (.int .i64 t.n) ∧ w.cell? ⟨g, o + j * 4 + 2, none⟩ = some (.int .i64 (k : Int)) ∧ w.cell? ⟨g, o + j * 4 + 3, none⟩ = some (.string ⟨t.text.toArray⟩)
theorem TRow.form {w : World} {v : Value} {l : List (T1 × Nat)} (h : TRow w v l) : ∃ p c, v = .slice p l.length c := by
  rcases h with ⟨c, h, rfl⟩ | ⟨g, o, c, h, _⟩
  · exact ⟨none, c, h⟩
  · exact ⟨_, c, h⟩
theorem eqTok (a b c : Int) (s : ByteArray) (w : World) : (Op.equalIn 10000 69 (.agg #[.int .i64 a, .int .i64 b, .int .i64 c, .string s]) (.agg #[.int .i64 a, .int .i64 b, .int .i64 c, .string s])).run Tryz.prog w = .ok true w := by
  rw [run_equalIn_struct w 9999 69 _ _ (by kernel_rfl) (by kernel_rfl)]
  simp [Program.fieldsOf, Tryz.underlying69, Op.eqFields]
  go_simp
theorem neqTok (a b c : Int) (s : ByteArray) (w : World) : (binOp .neq 69 (.agg #[.int .i64 a, .int .i64 b, .int .i64 c, .string s]) (.agg #[.int .i64 a, .int .i64 b, .int .i64 c, .string s])).run Tryz.prog w = .ok (.bool false) w := by
  rw [run_neq_struct, eqTok]; simp [Result.andThen]
attribute [local go_sem] neqTok
end Go.Proofs.YteheahhifihmjaaGreatDoor
