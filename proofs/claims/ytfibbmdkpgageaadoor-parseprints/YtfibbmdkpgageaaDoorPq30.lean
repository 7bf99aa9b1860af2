/- Regions whose values are known beforehand, where a slot that is read first is written last. It speaks of no program. -/
import Derived.Test.YtfibbmdkpgageaaDoorPq09
import Derived.Test.YtfibbmdkpgageaaDoorPq29
import Derived.Test.YtfibbmdkpgageaaDoorPq11
import Derived.Test.YtfibbmdkpgageaaDoorPq25
namespace Go.Proofs.YtfibbmdkpgageaaDoor
open Go Go.RowKit
section
variable {P : Program} {ops : Array Oper} {Q : Exit → Act → World → Prop} {id : Nat} {a0 : Act} {w : World}

/-- Only this operation writes the slot. -/
def onlyAt (ops : Array Oper) (s k : Nat) : Bool := (List.range ops.size).all fun j => j == k || (match ops[j]? with | none => true | some o => o.dst != some s)
theorem only_ne {s k j : Nat} {o : Oper} (h : onlyAt ops s k = true) (ho : ops[j]? = some o) (hj : j ≠ k) : o.dst ≠ some s := by
  have h1 := List.all_eq_true.1 h j (by simpa using (Array.getElem?_eq_some_iff.1 ho).1)
  rw [ho] at h1
  simpa [hj] using h1
def StepW (P : Program) (ops : Array Oper) (Q : Exit → Act → World → Prop) (ds : List (Nat × Value)) (a0 : Act) (w : World) : Prop :=
  ∀ (i s : Nat) (v : Value) (o : Oper) (L : Nat → Bool) (A : Act) (W : World), ops[i]? = some o → ds[i]? = some (s, v) → (∀ e ∈ o.after, Region.binds .any e = true → L e.on = true) → Below w.heap.size w W →
    (∀ s, notDst ops s = true → A.tmps.getD s undef = a0.tmps.getD s undef) → (∀ (j s : Nat) (u : Value), ds[j]? = some (s, u) → L j = true → A.tmps.getD s undef = u) →
    L i = false → (∀ (j : Nat) (p : Oper), ops[j]? = some p → L j = true → ∀ e ∈ p.after, Region.binds .any e = true → L e.on = true) → (∀ s k, onlyAt ops s k = true → L k = false → A.tmps.getD s undef = a0.tmps.getD s undef) →
    wpOp P ops Q i (fun a' W' => a' = A.put (some s) v ∧ Below W.heap.size W W') A W
theorem wp_region_wals (hm : P.follows .mixedOrders = true) (hback : backB ops = true) (hdst : dstB ops = true) (hin : inB ops a0.tmps.size = true) (ds : List (Nat × Value))
    (hds : (ops.toList.take ops.size).map (fun o => o.dst) = ds.map (fun p => some p.1)) (hnd : decide (((ops.toList.take ops.size).map (fun o => o.dst)).Nodup) = true)
    (hstep : StepW P ops Q ds a0 w) (hend : ∀ W, Below w.heap.size w W → Q .normal (putAll ds a0) W) : (Code.region id ops true).wp P Q a0 w := by
  have hnd' : (ds.map (fun p => some p.1)).Nodup := by rw [← hds]; exact of_decide_eq_true hnd
  refine wp_region_flow hm hback hdst hin (fun L _ W => Below w.heap.size w W ∧ ∀ (j : Nat) (p : Oper), ops[j]? = some p → L j = true → ∀ e ∈ p.after, Region.binds .any e = true → L e.on = true) (fun j x _ => ∀ s v, ds[j]? = some (s, v) → x = v) ?_ ?_ ?_
  · intro L h
    refine ⟨(Below.refl _ _).drew, fun j p hp hj => ?_⟩
    have := h j (Array.getElem?_eq_some_iff.1 hp).1
    rw [this] at hj; cases hj
  · rintro i o L A W ho hLi hdep ⟨hJ, hc⟩ hdef hkept hhas
    have hi : i < ops.size := (Array.getElem?_eq_some_iff.1 ho).1
    obtain ⟨s, v, hv⟩ := at_dst hds hi ho
    have hd := dst_at hds ho hv
    have hc' : ∀ (j : Nat) (p : Oper), ops[j]? = some p → (decide (i = j) || L j) = true → ∀ e ∈ p.after, Region.binds .any e = true → (decide (i = e.on) || L e.on) = true := by
      intro j p hp hj e he hb
      by_cases hij : i = j
      · subst hij
        rw [ho] at hp
        cases hp
        rw [hdep e he hb]; simp
      · rw [hc j p hp (by simpa [hij] using hj) e he hb]; simp
    refine wpOp_mono ?_ (hstep i s v o L A W ho hv hdep hJ (fun s' h => hkept s' fun j p hp _ => nd h j p hp) (fun j s' u hj hL => ?_) hLi hc (fun s' k h hk => hkept s' fun j p hp hj => ?_))
    · rintro a' W' ⟨rfl, hb⟩
      exact ⟨v, by rw [hd], fun _ s' v' h => by rw [hv] at h; cases h; rfl, fun _ _ _ h => h, hJ.trans (hb.mono hJ.size), hc'⟩
    · have hj' : j < ds.length := (List.getElem?_eq_some_iff.1 hj).1
      have hl : ds.length = ops.size := by have := congrArg List.length hds; simpa using this.symm
      obtain ⟨p, hp⟩ : ∃ p, ops[j]? = some p := ⟨ops[j]'(by omega), Array.getElem?_eq_getElem _⟩
      exact hhas j p hp hL s' (dst_at hds hp hj) s' u hj
    · exact only_ne h hp (fun e => by rw [e, hk] at hj; cases hj)
  · intro L A W hL hJ hdef hsize hkept hhas
    have : A = putAll ds a0 := act_is ds hdef hsize hnd' (fun s h => hkept s fun j p hp e => ?_) (fun j s v hj => ?_)
    · rw [this]; exact hend W hJ.1
    · have hi : j < ops.size := (Array.getElem?_eq_some_iff.1 hp).1
      obtain ⟨s', v, hv⟩ := at_dst hds hi hp
      have := (dst_at hds hp hv).symm.trans e
      cases this
      exact h _ (List.mem_of_getElem? hv) rfl
    · have hj' : j < ds.length := (List.getElem?_eq_some_iff.1 hj).1
      have hl : ds.length = ops.size := by have := congrArg List.length hds; simpa using this.symm
      obtain ⟨p, hp⟩ : ∃ p, ops[j]? = some p := ⟨ops[j]'(by omega), Array.getElem?_eq_getElem _⟩
      exact hhas j p hp s (dst_at hds hp hj) s v hj
end
end Go.Proofs.YtfibbmdkpgageaaDoor

/- Words for what the document's Text comes to. -/
namespace Lx
open Go
/-- The names of the days that are set, each behind a comma. -/
def cm (a : Int) : Nat → List UInt8
  | 0 => []
  | i + 1 => if dayOn a i then cm a i ++ 44 :: wDays.getD i [] else cm a i
theorem cm_off {a : Int} {j : Nat} (h : dayOn a j = false) : cm a (j + 1) = cm a j := by rw [cm, h]; rfl
theorem cm_on {a : Int} {j : Nat} (h : dayOn a j = true) : cm a (j + 1) = cm a j ++ 44 :: wDays.getD j [] := by rw [cm, h]; rfl
theorem day3 (j : Nat) : (wDays.getD j []).length ≤ 3 := by
  match j with
  | 0 | 1 | 2 | 3 | 4 | 5 | 6 => decide
  | j + 7 => simp [wDays]
theorem cm_len (a : Int) : ∀ j, (cm a j).length ≤ 4 * j
  | 0 => by simp [cm]
  | j + 1 => by
    have := cm_len a j
    have := day3 j
    rw [cm]
    split
    · rw [List.length_append, List.length_cons]; omega
    · omega
theorem cm_all : ∀ a : Fin 128, 1 ≤ a.1 → 0 < (cm (a.1 : Int) 7).length ∧ (cm (a.1 : Int) 7).drop 1 = daysL (a.1 : Int) ∧ (cm (a.1 : Int) 7).length ≤ 28 := by decide +kernel
theorem cm_days {a : Int} (h0 : 1 ≤ a) (h1 : a < 128) : 0 < (cm a 7).length ∧ (cm a 7).drop 1 = daysL a ∧ (cm a 7).length ≤ 28 := by
  have h := cm_all ⟨a.toNat, by omega⟩ (by show 1 ≤ a.toNat; omega)
  rw [show (((⟨a.toNat, by omega⟩ : Fin 128).1 : Nat) : Int) = a from by simp; omega] at h
  exact h
end Lx
namespace Go.Proofs.YtfibbmdkpgageaaDoor
open Go.RowKit Lx

def OutX (t : List UInt8) (w : World) (e : Ending) (w' : World) : Prop := e = .returned (.string ⟨t.toArray⟩) ∧ Below w.heap.size w w'
/-- What Text comes to at an expression, from a world on. -/
def KidX (w : World) (k : Ex) (p : Option Addr) (q : Nat) : Prop := ∀ (W : World) (least : Nat), Below w.heap.size w W → least ≤ 3 → (k.kind = 9 → least ≤ 2) →
  Calls Tryd.prog 35 #[.agg #[.int .i64 k.kind, .int .i64 k.a, .int .i64 k.b, .string ⟨k.name.toArray⟩, .slice p k.kids.length q], .int .i64 (least : Int)] W (OutX (textE k least) W)
def KidsX (w : World) (sl : Value) (ks : List Ex) : Prop := ∃ g o c : Nat, sl = .slice (some ⟨g, o, none⟩) ks.length c ∧ ∀ (j : Nat) (k : Ex), ks[j]? = some k → ∃ (p : Option Addr) (q : Nat),
  w.cell? ⟨g, o + j * 5, none⟩ = some (.int .i64 k.kind) ∧ w.cell? ⟨g, o + j * 5 + 1, none⟩ = some (.int .i64 k.a) ∧ w.cell? ⟨g, o + j * 5 + 2, none⟩ = some (.int .i64 k.b) ∧ w.cell? ⟨g, o + j * 5 + 3, none⟩ = some (.string ⟨k.name.toArray⟩) ∧ w.cell? ⟨g, o + j * 5 + 4, none⟩ = some (.slice p k.kids.length q) ∧ KidX w k p q
theorem text9 {k : Ex} (h : k.kind = 9) : textE k 2 = textE k 3 := by
  rw [textE_eq, textE_eq, h]; rfl
end Go.Proofs.YtfibbmdkpgageaaDoor
