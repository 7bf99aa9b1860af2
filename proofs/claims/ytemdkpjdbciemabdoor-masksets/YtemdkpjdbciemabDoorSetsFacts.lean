/- Plain facts about masks as sets: what the law MaskSets says, minute by minute, of masks that have been cut to the day. -/
import Derived.Test.YtemdkpjdbciemabDoorEqs
namespace Go.Proofs.YtemdkpjdbciemabDoor
open Go.RowKit Msk

/-- What is left of a mask within the day. -/
def cutd (f : Nat → Bool) (i : Nat) : Bool := (f i && decide (i < 1440)) && decide (i < 1440)
def un (f g : Nat → Bool) (i : Nat) : Bool := (f i || g i) && decide (i < 1440)
def di (f g : Nat → Bool) (i : Nat) : Bool := (f i && !g i) && decide (i < 1440)
def bo (f g : Nat → Bool) (i : Nat) : Bool := (f i && g i) && decide (i < 1440)
def day (i : Nat) : Bool := decide (i < 1440)

theorem s_un (f g : Nat → Bool) : eqm (un f g) (un g f) = true := eqm_true fun i _ => by
  simp only [un]
  cases f i <;> cases g i <;> cases decide (i < 1440) <;> rfl
theorem s_bo (f g : Nat → Bool) : eqm (bo f g) (bo g f) = true := eqm_true fun i _ => by
  simp only [bo]
  cases f i <;> cases g i <;> cases decide (i < 1440) <;> rfl
theorem s_again (f g : Nat → Bool) : eqm (un (di (cutd f) g) (bo (cutd f) g)) (cutd f) = true := eqm_true fun i _ => by
  simp only [un, di, bo, cutd]
  cases f i <;> cases g i <;> cases decide (i < 1440) <;> rfl
theorem s_apart (f g : Nat → Bool) : eqm (bo (di f g) g) (fun _ => false) = true := eqm_true fun i _ => by
  simp only [di, bo]
  cases f i <;> cases g i <;> cases decide (i < 1440) <;> rfl
theorem s_dist (f g h : Nat → Bool) : eqm (bo f (un g h)) (un (bo f g) (bo f h)) = true := eqm_true fun i _ => by
  simp only [un, bo]
  cases f i <;> cases g i <;> cases h i <;> cases decide (i < 1440) <;> rfl
theorem s_less (f g h : Nat → Bool) : eqm (di f (un g h)) (di (di f g) h) = true := eqm_true fun i _ => by
  simp only [un, di]
  cases f i <;> cases g i <;> cases h i <;> cases decide (i < 1440) <;> rfl
theorem s_not (f g : Nat → Bool) : eqm (di day (bo f g)) (un (di day f) (di day g)) = true := eqm_true fun i _ => by
  simp only [un, di, bo, day]
  cases f i <;> cases g i <;> cases decide (i < 1440) <;> rfl
theorem s_many (f g : Nat → Bool) : cnt (un f g) 1440 + cnt (bo f g) 1440 = cnt f 1440 + cnt g 1440 := by
  have e1 : cnt (un f g) 1440 = cnt (fun i => f i || g i) 1440 := cnt_ext fun i hi => by simp [un, hi]
  have e2 : cnt (bo f g) 1440 = cnt (fun i => f i && g i) 1440 := cnt_ext fun i hi => by simp [bo, hi]
  rw [e1, e2]
  exact cnt_sets f g 1440
end Go.Proofs.YtemdkpjdbciemabDoor
