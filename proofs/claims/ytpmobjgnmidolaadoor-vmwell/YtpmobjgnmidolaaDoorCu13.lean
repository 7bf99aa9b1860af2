/- Codes asked first; the law VmBound walked. Written by genvmn.py. -/
import Derived.Test.YtpmobjgnmidolaaDoorCu12
import Derived.Test.YtpmobjgnmidolaaDoorCu04
import Derived.Test.YtpmobjgnmidolaaDoorCards
import Derived.Test.YtpmobjgnmidolaaDoorTie
import Derived.ProofKit
import Derived.LaidMore
import Derived.OpenShut
import Derived.Stop.Joined
import Derived.SevenTiedAt
import Derived.Lib.SmallJoins
import Derived.Lib.LaidTab
import Derived.Carry
namespace Go.Proofs.YtpmobjgnmidolaaDoor
open Go.RowKit Msk Vx

set_option maxRecDepth 100000 in
set_option maxHeartbeats 4000000 in
theorem spans8_any (a b : Int) (w : World) : Calls Tryd.prog 23 #[.int .i64 a, .int .i64 b] w fun e w' => ∃ g : Nat, e = .returned (.agg #[.int .i64 1, .int .i64 0, .int .i64 0, .int .i64 0, .slice (some ⟨g, 0, none⟩) 1 1]) ∧ w'.heap[g]? = some (.cells #[.int .i64 a, .int .i64 b] 110 (0, 0)) ∧ Below w.heap.size w w' := by
  have bA := (Below.refl w.heap.size w).alloc (Nat.le_refl _) (.cells #[.int .i64 0, .int .i64 0, .int .i64 0, .int .i64 0, .slice none 0 0] 66)
  have nA := heap_alloc_new w (.cells #[.int .i64 0, .int .i64 0, .int .i64 0, .int .i64 0, .slice none 0 0] 66)
  generalize hwA : w.alloc (.cells #[.int .i64 0, .int .i64 0, .int .i64 0, .int .i64 0, .slice none 0 0] 66) = wA at *
  have bB := (Below.refl wA.heap.size wA).alloc (Nat.le_refl _) (.cells #[.int .i64 a, .int .i64 b] 110)
  have nB := heap_alloc_new wA (.cells #[.int .i64 a, .int .i64 b] 110)
  have nA2 := (bB.block _ (lt_of_block nA)).trans nA
  have b2 := bA.trans (bB.mono bA.size)
  have hl := lt_of_block nA
  generalize hwB : wA.alloc (.cells #[.int .i64 a, .int .i64 b] 110) = wB at *
  have nA3 := setRow_heap _ _ _ #[.int .i64 1, .int .i64 0, .int .i64 0, .int .i64 0, .slice (some ⟨wA.heap.size, 0, none⟩) 1 1] _ _ nA2
  have nB3 := (setRow_other wB w.heap.size wA.heap.size #[.int .i64 1, .int .i64 0, .int .i64 0, .int .i64 0, .slice (some ⟨wA.heap.size, 0, none⟩) 1 1] (by omega)).trans nB
  have b3 := below_setRow b2 (Nat.le_refl _) #[.int .i64 1, .int .i64 0, .int .i64 0, .int .i64 0, .slice (some ⟨wA.heap.size, 0, none⟩) 1 1]
  go_enter Tryd.func23, Tryd.ntmps23
  go_wp2_with (refine wpList_store_row rfl 66 _ _ rfl _ _ rfl rfl _ _ nA2 (by kernel_rfl) (by simp) (by simp [Value.oneCell']) ?_)
  refine bodyPost_ret (v := .agg #[.int .i64 1, .int .i64 0, .int .i64 0, .int .i64 0, .slice (some ⟨wA.heap.size, 0, none⟩) 1 1]) ?_ rfl ⟨_, rfl, nB3, b3⟩
  exact results_cell_row rfl _ _ w.heap.size _ _ _ _ rfl nA3 insType rfl (by kernel_rfl)
theorem row_one {w : World} {g : Nat} {a b : Int} (h : w.heap[g]? = some (.cells #[.int .i64 a, .int .i64 b] 110 (0, 0))) : RowV w (.slice (some ⟨g, 0, none⟩) 1 1) [(a, b)] := by
  refine .inr (.inr ⟨g, 0, 1, rfl, by simp, fun j hj => ?_⟩)
  have hj0 : j = 0 := by simp at hj; omega
  subst hj0
  exact ⟨(cell_of_row _ _ 0 _ _ _ h).trans rfl, (cell_of_row _ _ 1 _ _ _ h).trans rfl⟩
theorem row_nil (w : World) : RowV w (.slice none 0 0) [] := .inl ⟨rfl, none, 0, rfl⟩
theorem inV8 {w : World} {g1 g2 gi gc : Nat} (h1 : w.heap[g1]? = some (.cells #[.int .i64 5, .int .i64 9] 110 (0, 0))) (h2 : w.heap[g2]? = some (.cells #[.int .i64 7, .int .i64 12] 110 (0, 0)))
    (hi : w.heap[gi]? = some (.cells #[.int .i64 1, .int .i64 0, .int .i64 0, .int .i64 0, .slice (some ⟨g1, 0, none⟩) 1 1, .int .i64 1, .int .i64 0, .int .i64 0, .int .i64 0, .slice (some ⟨g2, 0, none⟩) 1 1, .int .i64 2, .int .i64 0, .int .i64 0, .int .i64 0, .slice none 0 0] 66 (0, 0)))
    (hc : w.heap[gc]? = some (.cells #[.slice (some ⟨gi, 0, none⟩) 3 3, .int .i64 2, .int .i64 3] 42 (0, 0))) : InV w (.slice (some ⟨gc, 0, none⟩) 1 1) al8 := by
  refine ⟨[(⟨[⟨1, 0, 0, 0, [(5, 9)]⟩, ⟨1, 0, 0, 0, [(7, 12)]⟩, ⟨2, 0, 0, 0, []⟩], 2, 3⟩, .slice (some ⟨gi, 0, none⟩) 3 3)], ⟨_, _, rfl, by simp, fun j u hj => ?_⟩, rfl⟩
  match j, hj with
  | 0, hj =>
    cases Option.some.inj hj
    refine ⟨⟨[(⟨1, 0, 0, 0, [(5, 9)]⟩, .slice (some ⟨g1, 0, none⟩) 1 1), (⟨1, 0, 0, 0, [(7, 12)]⟩, .slice (some ⟨g2, 0, none⟩) 1 1), (⟨2, 0, 0, 0, []⟩, .slice none 0 0)], ⟨_, _, rfl, by simp, fun i x hx => ?_⟩, rfl⟩, gc, 0, rfl, (cell_of_row _ _ 0 _ _ _ hc).trans rfl, (cell_of_row _ _ 1 _ _ _ hc).trans rfl, (cell_of_row _ _ 2 _ _ _ hc).trans rfl⟩
    match i, hx with
    | 0, hx => cases Option.some.inj hx; exact ⟨row_one h1, gi, 0, rfl, (cell_of_row _ _ 0 _ _ _ hi).trans rfl, (cell_of_row _ _ 1 _ _ _ hi).trans rfl, (cell_of_row _ _ 2 _ _ _ hi).trans rfl, (cell_of_row _ _ 3 _ _ _ hi).trans rfl, (cell_of_row _ _ 4 _ _ _ hi).trans rfl⟩
    | 1, hx => cases Option.some.inj hx; exact ⟨row_one h2, gi, 0, rfl, (cell_of_row _ _ 5 _ _ _ hi).trans rfl, (cell_of_row _ _ 6 _ _ _ hi).trans rfl, (cell_of_row _ _ 7 _ _ _ hi).trans rfl, (cell_of_row _ _ 8 _ _ _ hi).trans rfl, (cell_of_row _ _ 9 _ _ _ hi).trans rfl⟩
    | 2, hx => cases Option.some.inj hx; exact ⟨row_nil w, gi, 0, rfl, (cell_of_row _ _ 10 _ _ _ hi).trans rfl, (cell_of_row _ _ 11 _ _ _ hi).trans rfl, (cell_of_row _ _ 12 _ _ _ hi).trans rfl, (cell_of_row _ _ 13 _ _ _ hi).trans rfl, (cell_of_row _ _ 14 _ _ _ hi).trans rfl⟩
    | i + 3, hx => simp at hx
  | j + 1, hj => simp at hj
theorem run8 : runE al8 0 0 = (0, 0) ∧ runM al8 0 0 = unM (spM [(5, 9)]) (spM [(7, 12)]) ∧ runN al8 0 0 = 3 := by
  have e : runE al8 0 0 = (0, 0) := by
    unfold runE
    rw [al8_wrong, if_neg (by decide), if_neg (by decide), if_neg (by decide)]
  refine ⟨e, ?_, ?_⟩
  · unfold runM
    rw [if_pos (by rw [e])]
    exact congrArg Prod.fst (al8_ev _ _)
  · unfold runN
    rw [if_pos (by rw [e])]
    exact congrArg Prod.snd (al8_ev _ _)
set_option maxRecDepth 100000 in
set_option maxHeartbeats 4000000 in
theorem alive8_any (w : World) : Calls Tryd.prog 9 #[] w fun e w' => e = .returned (.bool true) ∧ Below w.heap.size w w' := by
  have c1 := spans8_any 5 9 w
  have hz := mv_lit
  go_enter Tryd.func9, Tryd.ntmps9
  go_wp2_with fail
  refine c1.mono ?_
  rintro e w1 ⟨g1, rfl, n1, b1⟩
  have c2 := spans8_any 7 12 w1
  clear c1
  go_wp2_with fail
  refine c2.mono ?_
  rintro e w2 ⟨g2, rfl, n2, b2⟩
  have n1a := (b2.block _ (lt_of_block n1)).trans n1
  have bb2 := b1.trans (b2.mono b1.size)
  clear c2 n1 b2 b1
  have bI := (Below.refl w2.heap.size w2).alloc (Nat.le_refl _) (.cells #[.int .i64 1, .int .i64 0, .int .i64 0, .int .i64 0, .slice (some ⟨g1, 0, none⟩) 1 1, .int .i64 1, .int .i64 0, .int .i64 0, .int .i64 0, .slice (some ⟨g2, 0, none⟩) 1 1, .int .i64 2, .int .i64 0, .int .i64 0, .int .i64 0, .slice none 0 0] 66)
  have nI := heap_alloc_new w2 (.cells #[.int .i64 1, .int .i64 0, .int .i64 0, .int .i64 0, .slice (some ⟨g1, 0, none⟩) 1 1, .int .i64 1, .int .i64 0, .int .i64 0, .int .i64 0, .slice (some ⟨g2, 0, none⟩) 1 1, .int .i64 2, .int .i64 0, .int .i64 0, .int .i64 0, .slice none 0 0] 66)
  have n1b := (bI.block _ (lt_of_block n1a)).trans n1a
  have n2b := (bI.block _ (lt_of_block n2)).trans n2
  have bb3 := bb2.trans (bI.mono bb2.size)
  generalize hwI : w2.alloc (.cells #[.int .i64 1, .int .i64 0, .int .i64 0, .int .i64 0, .slice (some ⟨g1, 0, none⟩) 1 1, .int .i64 1, .int .i64 0, .int .i64 0, .int .i64 0, .slice (some ⟨g2, 0, none⟩) 1 1, .int .i64 2, .int .i64 0, .int .i64 0, .int .i64 0, .slice none 0 0] 66) = wI at *
  have bC := (Below.refl wI.heap.size wI).alloc (Nat.le_refl _) (.cells #[.slice (some ⟨w2.heap.size, 0, none⟩) 3 3, .int .i64 2, .int .i64 3] 42)
  have nC := heap_alloc_new wI (.cells #[.slice (some ⟨w2.heap.size, 0, none⟩) 3 3, .int .i64 2, .int .i64 3] 42)
  have n1c := (bC.block _ (lt_of_block n1b)).trans n1b
  have n2c := (bC.block _ (lt_of_block n2b)).trans n2b
  have nIc := (bC.block _ (lt_of_block nI)).trans nI
  have bb4 := bb3.trans (bC.mono bb3.size)
  generalize hwC : wI.alloc (.cells #[.slice (some ⟨w2.heap.size, 0, none⟩) 3 3, .int .i64 2, .int .i64 3] 42) = wC at *
  have c3 := vrun_any al8 _ 0 0 wC (inV8 n1c n2c nIc nC)
  rw [run8.1, run8.2.1, run8.2.2] at c3
  have hcn := al8_cnt
  generalize unM (spM [(5, 9)]) (spM [(7, 12)]) = f at *
  clear n1a n2 bb2 bb3 bI bC n1b n2b nI nC n1c n2c nIc
  go_wp2_with fail
  refine c3.mono ?_
  rintro e w3 ⟨rfl, b3⟩
  have bb5 := bb4.trans (b3.mono bb4.size)
  clear c3 b3 bb4 hwI hwC
  have bA : Below w3.heap.size w3 ((w3.alloc (.cells (mv fun _ => false) 37)).alloc (.cells #[.int .i64 0, .int .i64 0] 26)) := ((Below.refl _ _).alloc (Nat.le_refl _) _).alloc (by simp) _
  have nM0 : ((w3.alloc (.cells (mv fun _ => false) 37)).alloc (.cells #[.int .i64 0, .int .i64 0] 26)).heap[w3.heap.size]? = some (.cells (mv fun _ => false) 37 (0, 0)) := by (repeat (first | refine blk_old _ _ _ (by simp only [size_alloc]; omega) ?_ | exact blk_new _ _ _ (by first | rfl | simp only [size_alloc])))
  have nF0 : ((w3.alloc (.cells (mv fun _ => false) 37)).alloc (.cells #[.int .i64 0, .int .i64 0] 26)).heap[w3.heap.size + 1]? = some (.cells #[.int .i64 0, .int .i64 0] 26 (0, 0)) := by (repeat (first | refine blk_old _ _ _ (by simp only [size_alloc]; omega) ?_ | exact blk_new _ _ _ (by first | rfl | simp only [size_alloc])))
  generalize hwA : (w3.alloc (.cells (mv fun _ => false) 37)).alloc (.cells #[.int .i64 0, .int .i64 0] 26) = wA at *
  have nM1 := setRow_heap _ _ _ (mv f) _ _ nM0
  have nF1 := (setRow_other wA w3.heap.size (w3.heap.size + 1) (mv f) (by omega)).trans nF0
  have bB := below_setRow bA (Nat.le_refl _) (mv f)
  generalize hwB : wA.setRow w3.heap.size (mv f) = wB at *
  have nM2 := (setRow_other wB (w3.heap.size + 1) w3.heap.size #[.int .i64 0, .int .i64 0] (by omega)).trans nM1
  have nF2 := setRow_heap _ _ _ #[.int .i64 0, .int .i64 0] _ _ nF1
  have bC := below_setRow bB (by omega : w3.heap.size ≤ w3.heap.size + 1) #[.int .i64 0, .int .i64 0]
  generalize hwC : wB.setRow (w3.heap.size + 1) #[.int .i64 0, .int .i64 0] = wC2 at *
  have zF := (cell_of_row _ _ 0 _ _ _ nF2).trans rfl
  have bb6 := bb5.trans (bC.mono bb5.size)
  have c4 := count_any f wC2
  rw [hcn] at c4
  clear bb5 bA bB bC nF2 hcn
  go_wp2_with (first
    | (refine wpList_store_row rfl 37 _ _ rfl _ _ rfl rfl _ _ nM0 (maskSize _) (by simp [mv_size]) (mv_all _) ?_)
    | (refine wpList_store_row rfl 26 _ _ rfl _ _ rfl rfl _ _ nF1 (by kernel_rfl) (by simp) (by simp [Value.oneCell']) ?_)
    | (refine load_g (by rfl) _ (by rfl) w3.heap.size (by rfl) f ?r ?_; (case r => exact nM2)))
  refine c4.mono ?_
  rintro e w5 ⟨rfl, b5⟩
  have HB := hidv (bb6.trans (b5.mono bb6.size))
  clear c4 b5 bb6 nM0 nF1 nM1 nF0 nM2 zF
  go_wp2_with fail
  go_ret
  exact ⟨rfl, HB.out⟩
end Go.Proofs.YtpmobjgnmidolaaDoor

/- What the condition on the listed table gives the walks, the start that meets it, and how a mask that came in reads. -/
namespace Go.Proofs.YtpmobjgnmidolaaDoor
open Go.ChangeShapes Go.WideShapes Go.ChangeAt Go.WideMaps Go.WideElems Go.RowKit Go.Joins Msk

/-- The listed variable, as every row of the seat lists it. -/
abbrev laid1 : List (String × DataW Unit) := Rows.codeTellsRow.laid
def tabName : String := (Rows.codeTellsRow.named.headD default)
def tabInts : List Int := Lib.deBruijn64tab.map fun (n : Nat) => (n : Int)
theorem own : ownKnob Tryd.prog.godebug = none := by kernel_rfl
theorem gTab : Tryd.prog.globalNamed tabName = some 0 := by kernel_rfl
theorem tTab : (Tryd.prog.globals[0]?).map (·.type) = some 158 := by kernel_rfl
theorem cU8 : Tryd.prog.cellsOf 5 = 1 := by kernel_rfl
theorem cTab : Tryd.prog.cellsOf 158 = 64 := by kernel_rfl
theorem cU64F : Tryd.prog.cellsOf 35 = 1 := by kernel_rfl
theorem cMaskF : Tryd.prog.cellsOf 37 = 23 := by kernel_rfl

theorem door_met (os : Os) (args : Array Value) : laidMetH Tryd.prog laid1 ((World.doorLaid Tryd.prog 400 os).forCall (fun _ _ => 0) ⟨#[], args, []⟩).memory :=
  laidMetH_of_parts3 (fuel := 8) (laidMet_of_run' 8 (by kernel_rfl) (by kernel_rfl)) (by kernel_rfl) (by kernel_rfl)

theorem tab_of_laid {W : World} (h : laidMetH Tryd.prog laid1 W) : Tab W := by
  rw [MakeChecks.laidMetH_plain _ _ _ (by kernel_rfl)] at h
  have t : Lib.TabIs Tryd.prog W tabName .u8 tabInts := Lib.tabIs_of_head (name := tabName) (rest := []) gTab tTab Tryd.underlying158 Tryd.underlying5 cU8 cTab h
  intro i hi
  have := t.cell gTab i (by simpa [tabInts, Lib.deBruijn64tab] using hi)
  rw [this]
  have hl : i < Lib.deBruijn64tab.length := by simpa [Lib.deBruijn64tab] using hi
  simp [tabInts, List.getD, hl]

end Go.Proofs.YtpmobjgnmidolaaDoor
