/- A region that draws its order: some values are known beforehand; what is said of the others, and of the world, hangs on what has been done. It speaks of no program. -/
import Derived.Test.YtpmobjgnmidolaaGreatDoorDz06
import Derived.Test.YtpmobjgnmidolaaGreatDoorDz01
namespace Go.Proofs.YtpmobjgnmidolaaGreatDoor
open Go Go.RowKit
section
variable {P : Program} {ops : Array Oper} {Q : Exit → Act → World → Prop} {id : Nat} {a0 : Act} {w : World}
def slotsOf (A : Act) : Nat → Value := fun s => A.tmps.getD s undef
def putF (φ : Nat → Value) (d : Option Nat) (v : Value) : Nat → Value := fun s => if d = some s then v else φ s
def StepZ (P : Program) (ops : Array Oper) (Q : Exit → Act → World → Prop) (ds : List (Option Nat × Option Value)) (a0 : Act) (J : (Nat → Bool) → (Nat → Value) → World → Prop) : Prop :=
  ∀ (i : Nat) (d : Option Nat) (x : Option Value) (o : Oper) (L : Nat → Bool) (A : Act) (W : World), ops[i]? = some o → ds[i]? = some (d, x) → L i = false → (∀ e ∈ o.after, Region.binds .any e = true → L e.on = true) → ClosL ops L → J L (slotsOf A) W →
    (∀ s, notDst ops s = true → A.tmps.getD s undef = a0.tmps.getD s undef) → (∀ (j s : Nat) (u : Value), ds[j]? = some (some s, some u) → L j = true → A.tmps.getD s undef = u) → wpOp P ops Q i (fun a' W' => ∃ v, a' = A.put d v ∧ (∀ u, x = some u → v = u) ∧ J (fun k => decide (i = k) || L k) (putF (slotsOf A) d v) W') A W
theorem wp_region_Z (J : (Nat → Bool) → (Nat → Value) → World → Prop) (hJ0 : ∀ L : Nat → Bool, (∀ i, i < ops.size → L i = false) → J L (slotsOf a0) w.drew) (hm : P.follows .mixedOrders = true) (hback : backB ops = true) (hdst : dstB ops = true) (hin : inB ops a0.tmps.size = true) (ds : List (Option Nat × Option Value))
    (hds : ops.toList.map (fun o => o.dst) = ds.map (fun p => p.1)) (hnd : decide ((ds.filterMap (fun p => p.1)).Nodup) = true) (ss : List Nat) (hss : ds.filterMap (fun p => p.1) = ss)
    (hstep : StepZ P ops Q ds a0 J) (hend : ∀ (L : Nat → Bool) (A : Act) (W : World), (∀ i, i < ops.size → L i = true) → J L (slotsOf A) W → (∀ (j s : Nat) (u : Value), ds[j]? = some (some s, some u) → A.tmps.getD s undef = u) →
      (∀ es : List (Nat × Value), es.map (fun p => p.1) = ss → (∀ (j s : Nat) (v : Value), es[j]? = some (s, v) → A.tmps.getD s undef = v) → A = putAll es a0) → Q .normal A W) : (Code.region id ops true).wp P Q a0 w := by
  have atD : ∀ {j : Nat} {p : Oper}, ops[j]? = some p → ∃ x, ds[j]? = some (p.dst, x) := fun {j p} hp => by
    have h1 : (ops.toList.map (fun o => o.dst))[j]? = some p.dst := by
      rw [List.getElem?_map, Array.getElem?_toList, hp]
      rfl
    rw [hds, List.getElem?_map] at h1
    cases hs : ds[j]? with
    | none => rw [hs] at h1; cases h1
    | some q =>
      rw [hs] at h1
      exact ⟨q.2, by rw [← Option.some.inj h1]⟩
  have hl : ds.length = ops.size := by
    have h := congrArg List.length hds
    simpa using h.symm
  have atO : ∀ {j : Nat} {d : Option Nat} {x : Option Value}, ds[j]? = some (d, x) → ∃ p, ops[j]? = some p ∧ p.dst = d := fun {j d x} hj => by
    have hj' := (List.getElem?_eq_some_iff.1 hj).1
    obtain ⟨p, hp⟩ : ∃ p, ops[j]? = some p := ⟨ops[j]'(by omega), Array.getElem?_eq_getElem _⟩
    obtain ⟨v', hv'⟩ := atD hp
    rw [hj] at hv'
    exact ⟨p, hp, (congrArg Prod.fst (Option.some.inj hv')).symm⟩
  refine wp_region_flow hm hback hdst hin (fun L A W => ClosL ops L ∧ A.tmps.size = a0.tmps.size ∧ J L (slotsOf A) W) (fun j x _ => ∀ d v, ds[j]? = some (d, some v) → x = v) ?_ ?_ ?_
  · intro L h
    refine ⟨fun j p hp hj => ?_, rfl, hJ0 L h⟩
    have := h j (Array.getElem?_eq_some_iff.1 hp).1
    rw [this] at hj; cases hj
  · intro i o L A W ho hLi hdep hJ hdef hkept hhas
    obtain ⟨hc, hsz, hJ⟩ := hJ
    have hi : i < ops.size := (Array.getElem?_eq_some_iff.1 ho).1
    have hc' : ClosL ops (fun k => decide (i = k) || L k) := by
      intro j p hp hj e he hb
      show (decide (i = e.on) || L e.on) = true
      by_cases hij : i = j
      · subst hij
        rw [ho] at hp
        cases hp
        rw [hdep e he hb]; simp
      · rw [hc j p hp (by simpa [hij] using hj) e he hb]; simp
    obtain ⟨x, hx⟩ := atD ho
    refine wpOp_mono ?_ (hstep i o.dst x o L A W ho hx hLi hdep hc hJ (fun s h => hkept s fun j p hp _ => nd h j p hp) (fun j s u hj hL => by
      obtain ⟨p, hp, hd⟩ := atO hj
      exact hhas j p hp hL s hd _ _ hj))
    rintro a' W' ⟨v, rfl, hv, hJ'⟩
    refine ⟨v, rfl, fun _ d u hdu => ?_, fun _ _ _ h => h, hc', by cases o.dst <;> simpa [Act.put] using hsz, ?_⟩
    · rw [hx] at hdu
      have e2 := congrArg Prod.snd (Option.some.inj hdu)
      exact hv u e2
    · have e : slotsOf (A.put o.dst v) = putF (slotsOf A) o.dst v := by
        funext s
        unfold slotsOf putF
        cases hd : o.dst with
        | none => rw [if_neg (by simp)]; rfl
        | some t =>
          by_cases hts : t = s
          · subst hts
            have htl : t < A.tmps.size := by
              have q1 := List.all_eq_true.1 hin i (by simpa using hi)
              rw [ho] at q1
              simp only [Option.bind_some, hd] at q1
              rw [hsz]
              simpa using q1
            rw [if_pos rfl]
            exact getD_set_same _ _ _ htl
          · rw [if_neg (fun e => hts (Option.some.inj e))]
            exact getD_set_other _ _ _ _ hts
      rw [e]
      exact hJ'
  · intro L A W hL hJ hdef hsize hkept hhas
    refine hend L A W hL hJ.2.2 (fun j s u hj => ?_) fun es he hv => ?_
    · obtain ⟨p, hp, hd⟩ := atO hj
      exact hhas j p hp s hd _ _ hj
    · refine act_is es hdef hsize ?_ (fun s h => hkept s fun j p hp e => ?_) hv
      · rw [show es.map (fun p => some p.1) = (es.map (fun p => p.1)).map some by rw [List.map_map]; rfl, he, ← hss]
        have h1 := of_decide_eq_true hnd
        unfold List.Nodup
        rw [List.pairwise_map]
        exact List.Pairwise.imp (fun h e => h (Option.some.inj e)) h1
      · obtain ⟨x, hx⟩ := atD hp
        rw [e] at hx
        have hm1 : s ∈ ds.filterMap (fun p => p.1) := List.mem_filterMap.2 ⟨(some s, x), List.mem_of_getElem? hx, rfl⟩
        rw [hss, ← he] at hm1
        obtain ⟨q, hq, hqs⟩ := List.mem_map.1 hm1
        exact h q hq hqs
end
end Go.Proofs.YtpmobjgnmidolaaGreatDoor

/- What is read of tokens is read of the same tokens at other places, and with others behind, where something is left: plain. -/
namespace Lx
end Lx

/- The rules of two rows of tokens, one behind the other: plain. -/
namespace Lx
end Lx
