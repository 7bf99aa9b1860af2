/- What the condition on the listed table gives the walks, the start that meets it, and how a mask that came in reads. -/
import Derived.Test.YtemdkpjdbciemaaDoorAliveA
import Derived.Test.YtemdkpjdbciemaaDoorCards
import Derived.Test.YtemdkpjdbciemaaDoorTie
import Derived.ProofKit
import Derived.LaidMore
import Derived.OpenShut
import Derived.Stop.Joined
import Derived.SevenTiedAt
import Derived.Lib.SmallJoins
import Derived.Lib.LaidTab
import Derived.Carry
namespace Go.Proofs.YtemdkpjdbciemaaDoor
open Go.ChangeShapes Go.WideShapes Go.ChangeAt Go.WideMaps Go.WideElems Go.RowKit Go.Joins Msk

/-- The listed variable, as every row of the seat lists it. -/
abbrev laid1 : List (String × DataW Unit) := Rows.maskTellsRow.laid
def tabName : String := (Rows.maskTellsRow.named.headD default)
def tabInts : List Int := Lib.deBruijn64tab.map fun (n : Nat) => (n : Int)
theorem own : ownKnob Tryd.prog.godebug = none := by kernel_rfl
theorem gTab : Tryd.prog.globalNamed tabName = some 1 := by kernel_rfl
theorem tTab : (Tryd.prog.globals[1]?).map (·.type) = some 66 := by kernel_rfl
theorem cU8 : Tryd.prog.cellsOf 5 = 1 := by kernel_rfl
theorem cTab : Tryd.prog.cellsOf 66 = 64 := by kernel_rfl
theorem cU64 : Tryd.prog.cellsOf 35 = 1 := by kernel_rfl
theorem cMask : Tryd.prog.cellsOf 37 = 23 := by kernel_rfl

theorem door_met (os : Os) (args : Array Value) : laidMetH Tryd.prog laid1 ((World.doorLaid Tryd.prog 400 os).forCall (fun _ _ => 0) ⟨#[], args, []⟩).memory :=
  laidMetH_of_parts3 (fuel := 8) (laidMet_of_run' 8 (by kernel_rfl) (by kernel_rfl)) (by kernel_rfl) (by kernel_rfl)

theorem tab_of_laid {W : World} (h : laidMetH Tryd.prog laid1 W) : Tab W := by
  rw [MakeChecks.laidMetH_plain _ _ _ (by kernel_rfl)] at h
  have t : Lib.TabIs Tryd.prog W tabName .u8 tabInts := Lib.tabIs_of_head (name := tabName) (rest := []) gTab tTab Tryd.underlying66 Tryd.underlying5 cU8 cTab h
  intro i hi
  have := t.cell gTab i (by simpa [tabInts, Lib.deBruijn64tab] using hi)
  rw [this]
  have hl : i < Lib.deBruijn64tab.length := by simpa [Lib.deBruijn64tab] using hi
  simp [tabInts, List.getD, hl]

/-- A mask that came in. -/
theorem open_mask {H : Type} {enc : TypeId × Value → H} {W : World} {r : Reach} {b0 : Nat} {v : Value} {d : DataW H} {p : List MemPlace}
    (hv : Value.okWide Tryd.prog W r b0 37 v) (h : DataW.Trod enc Tryd.prog W 0 (fun _ => true) true 37 v d p) : ∃ f : Nat → Bool, v = .agg (mv f) ∧ p = [] := by
  simp only [Value.okWide, maskType] at hv
  obtain ⟨cs, rfl, hsz, _⟩ := hv
  rw [cMask] at hsz
  obtain ⟨fuel, hf⟩ := h
  obtain ⟨xs, m, _, hx, _, hlen, hel⟩ := DataW.trod_array maskType hf
  have each : ∀ i, i < 23 → ∃ z : Nat, z < 18446744073709551616 ∧ cs[i]? = some (.int .u64 (z : Int)) ∧ ∃ y, xs[i]? = some y ∧ y.2 = [] := by
    intro i hi
    have h1 := hel i hi
    rw [cU64] at h1
    have hy : xs[i]? = some xs[i] := by simp [hlen, hi]
    rw [hy] at h1
    obtain ⟨z, e1, e2, hw⟩ := DataW.trod_int Tryd.underlying35 h1
    have hc : i < cs.size := by omega
    have e3 : cs[i] = .int .u64 z := by
      have : (cs.toList.drop (i * 1)).take 1 = [cs[i]] := by
        rw [Nat.mul_one, List.drop_eq_getElem_cons (by simpa using hc)]
        simp
      rw [show (Value.agg cs).cells.toList = cs.toList from rfl, this] at e1
      simpa using e1
    have hb := bounds_u64 hw
    refine ⟨z.toNat, by omega, ?_, xs[i], hy, by rw [e2]⟩
    rw [Array.getElem?_eq_getElem hc, e3, Int.toNat_of_nonneg hb.1]
  obtain ⟨mm, hmm⟩ : ∃ mm : Nat → Nat, ∀ i, i < 23 → mm i < 18446744073709551616 ∧ cs[i]? = some (.int .u64 (mm i : Int)) := by
    refine ⟨fun i => match cs[i]? with | some (.int _ z) => z.toNat | _ => 0, fun i hi => ?_⟩
    obtain ⟨z, h1, h2, _⟩ := each i hi
    simp only [h2]
    exact ⟨by simpa using h1, by simp⟩
  refine ⟨fun i => (mm (i / 64)).testBit (i % 64), ?_, ?_⟩
  · have e : cs = Array.ofFn (n := 23) fun k => Value.int .u64 (mm k.val : Int) := by
      apply Array.ext_getElem?
      intro i
      by_cases hi : i < 23
      · rw [(hmm i hi).2]; simp [hi]
      · rw [Array.getElem?_eq_none (by omega)]; simp [hi]
    rw [e, mv_of mm fun k hk => (hmm k hk).1]
  · have hp : p = xs.flatMap (·.2) := (Prod.mk.inj hx).2
    rw [hp, List.flatMap_eq_nil_iff]
    intro y hy
    obtain ⟨i, hi, rfl⟩ := List.getElem_of_mem hy
    obtain ⟨_, _, _, y', h1, h2⟩ := each i (by omega)
    rw [List.getElem?_eq_getElem hi] at h1
    rw [Option.some.inj h1]; exact h2

/-- It reads behind the call as it did. -/
theorem mask_stays {H : Type} {enc : TypeId × Value → H} {W W' : World} {v : Value} {d : DataW H} (h : DataW.Trod enc Tryd.prog W 0 (fun _ => true) true 37 v d []) (hb : Below W.heap.size W W') :
    DataW.Trod enc Tryd.prog W' 0 (fun b => decide (b < W.heap.size)) true 37 v d [] :=
  Below.trod (by kernel_rfl) (by kernel_rfl) (of_decide_eq_true (by kernel_rfl)) h hb (fun x hx => by cases hx)
end Go.Proofs.YtemdkpjdbciemaaDoor
