/- What the document's Run tells. -/
import Derived.Test.YtaeengpppehlfaaCt20
namespace Go.Proofs.Ytaeengpppehlfaa
open Go.RowKit Msk Vx

theorem rrun_any (cs : List Cd) (lv : Value) (rule day : Int) (w : World) (h : InV w lv cs) :
    Calls Try.prog 10 #[lv, .int .i64 rule, .int .i64 day] w (OutR (runM cs rule day) (runN cs rule day : Int) (runE cs rule day).1 ((runE cs rule day).2 : Int) w) := by
  by_cases he : (wrongV cs).1 = 0
  · by_cases hr0 : rule < 0
    · have e : runE cs rule day = (6, 0) := by
        unfold runE
        rw [if_neg (by simp [he]), if_pos (by omega)]
      have e1 : runM cs rule day = fun _ => false := by unfold runM; rw [e, if_neg (by decide)]
      have e2 : runN cs rule day = 0 := by unfold runN; rw [e, if_neg (by decide)]
      rw [e1, e2, e]
      exact rrun_rule1 cs lv rule day w h he hr0
    by_cases hr1 : (cs.length : Int) ≤ rule
    · have e : runE cs rule day = (6, 0) := by
        unfold runE
        rw [if_neg (by simp [he]), if_pos (by omega)]
      have e1 : runM cs rule day = fun _ => false := by unfold runM; rw [e, if_neg (by decide)]
      have e2 : runN cs rule day = 0 := by unfold runN; rw [e, if_neg (by decide)]
      rw [e1, e2, e]
      exact rrun_rule2 cs lv rule day w h he hr0 hr1
    by_cases hd0 : day < 0
    · have e : runE cs rule day = (3, 0) := by
        unfold runE
        rw [if_neg (by simp [he]), if_neg (by omega), if_pos (by omega)]
      have e1 : runM cs rule day = fun _ => false := by unfold runM; rw [e, if_neg (by decide)]
      have e2 : runN cs rule day = 0 := by unfold runN; rw [e, if_neg (by decide)]
      rw [e1, e2, e]
      exact rrun_day1 cs lv rule day w h he hr0 hr1 hd0
    by_cases hd1 : 146097 ≤ day
    · have e : runE cs rule day = (3, 0) := by
        unfold runE
        rw [if_neg (by simp [he]), if_neg (by omega), if_pos (by omega)]
      have e1 : runM cs rule day = fun _ => false := by unfold runM; rw [e, if_neg (by decide)]
      have e2 : runN cs rule day = 0 := by unfold runN; rw [e, if_neg (by decide)]
      rw [e1, e2, e]
      exact rrun_day2 cs lv rule day w h he hr0 hr1 hd0 hd1
    obtain ⟨rn, hrn⟩ : ∃ rn : Nat, rule = (rn : Int) := ⟨rule.toNat, by omega⟩
    subst hrn
    have e : runE cs rn day = (0, 0) := by
      unfold runE
      rw [if_neg (by simp [he]), if_neg (by omega), if_neg (by omega)]
    have e1 : runM cs rn day = (evD (wkB9 day) day cs rn).1 := by unfold runM; rw [e, if_pos rfl, Int.toNat_natCast]; rfl
    have e2 : runN cs rn day = (evD (wkB9 day) day cs rn).2 := by unfold runN; rw [e, if_pos rfl, Int.toNat_natCast]; rfl
    rw [e1, e2, e]
    exact rrun_right cs lv rn day w h he (by omega) (by omega) (by omega) _ _ rfl
  · have e : runE cs rule day = wrongV cs := by
      unfold runE
      rw [if_pos he]
    have e1 : runM cs rule day = fun _ => false := by unfold runM; rw [e, if_neg he]
    have e2 : runN cs rule day = 0 := by unfold runN; rw [e, if_neg he]
    rw [e1, e2, e]
    exact rrun_wrong cs lv rule day w h he
end Go.Proofs.Ytaeengpppehlfaa
