/- What the law ParseAgain comes to. -/
import Derived.Test.YteheahhifihmjaaGreatDoorQa35
import Derived.Test.YteheahhifihmjaaGreatDoorQa29
import Derived.Test.YteheahhifihmjaaGreatDoorCards
import Derived.Test.YteheahhifihmjaaGreatDoorTie
import Derived.ProofKit
import Derived.LaidMore
import Derived.OpenShut
import Derived.Stop.Joined
import Derived.SevenTiedAt
import Derived.Lib.SmallJoins
import Derived.Lib.LaidTab
import Derived.Maps.AppendAt
namespace Go.Proofs.YteheahhifihmjaaGreatDoor
open Go.RowKit Lx

theorem fieldFlt0 (c0 c1 : Value) (w : World) : (Instr.field 26 (.agg #[c0, c1]) 0).run Tryz.prog w = .ok c0 w := by
  unfold Instr.field
  simp [go_sem, asAgg]
attribute [go_sem] fieldFlt0
theorem rowR_below {w0 w w' : World} {v : Value} {us : List (Ru × Value)} (h : RowR w0 w v us) (hb : Below w.heap.size w w') (hl : us.length ≤ 40) : RRow w' v us ∧ KidsR (fun k => w0.heap.size ≤ k) w' us :=
  ⟨rrow_of_owns (owns_below h.own hb) (by omega), fun p hp => by
    obtain ⟨d, hd⟩ := h.kids p hp
    exact ⟨d, hd.kept fun k _ hk => hb.block k hk⟩⟩
/-- Print of right rules, whose text is too much, or is not. -/
theorem print_much {us : List (Ru × Value)} {v : Value} {w : World} (h : InR w v us) (hPT : PTb w.heap.size w) (hw : wrongR (us.map (fun p => p.1)) = (0, 0)) (h6 : 6000 < (rulesT (us.map (fun p => p.1))).length) :
    Calls Tryz.prog 7 #[v] w fun e w' => e = .returned (.tuple #[.string ⟨#[]⟩, .agg #[.int .i64 4, .int .i64 0]]) ∧ Below w.heap.size w w' := by
  refine (print_any us v w h hPT).mono ?_
  rintro e w' ⟨rfl, hb⟩
  refine ⟨?_, hb⟩
  unfold printP
  rw [hw, if_neg (by simp), if_pos h6]
  rfl
theorem print_fine {us : List (Ru × Value)} {v : Value} {w : World} (h : InR w v us) (hPT : PTb w.heap.size w) (hw : wrongR (us.map (fun p => p.1)) = (0, 0)) (h6 : ¬ 6000 < (rulesT (us.map (fun p => p.1))).length) :
    Calls Tryz.prog 7 #[v] w fun e w' => e = .returned (.tuple #[.string ⟨(rulesT (us.map (fun p => p.1))).toArray⟩, .agg #[.int .i64 0, .int .i64 0]]) ∧ Below w.heap.size w w' := by
  refine (print_any us v w h hPT).mono ?_
  rintro e w' ⟨rfl, hb⟩
  refine ⟨?_, hb⟩
  unfold printP
  rw [hw, if_neg (by simp), if_neg h6]
  rfl
set_option maxRecDepth 100000 in
set_option maxHeartbeats 4000000 in
theorem pagain_walk (s : ByteArray) (hls : s.size ≤ 140737488355328) (w : World) (hPT : PTb w.heap.size w) :
    Calls Tryz.prog 4 #[.string s] w fun e w' => e = .returned (.bool true) ∧ Below w.heap.size w w' := by
  obtain ⟨l, hs⟩ : ∃ l, s.data.toList = l := ⟨_, rfl⟩
  have hzs : s.size = l.length := by rw [← hs, Lib.size_eq]
  have hl9 : l.length ≤ 140737488355328 := by omega
  have c0 := alive4_any w hPT
  have c1 := fun (W : World) (hW : Below w.heap.size w W) => parse_any s l hs (by omega) W (hPT W hW).1 (hPT W hW).2.1
  clear hs hzs hls hl9
  go_enter Tryz.func4, Tryz.ntmps4
  go_wp2_with fail
  refine c0.mono ?_
  rintro e w0 ⟨rfl, hb0⟩
  have d1 := c1 w0 hb0
  clear c0 c1
  go_wp2_with fail
  refine d1.mono ?_
  rintro e w1 ⟨⟨v1, er1, at1, rfl, h1⟩, hb1⟩
  have hb1w := hb0.trans (hb1.mono hb0.size)
  have hb1a := hb1w.alloc hb1w.size (.cells #[.int .i64 er1, .int .i64 at1] 26)
  have hf1 := heap_alloc_new w1 (.cells #[.int .i64 er1, .int .i64 at1] 26)
  have bx := (Below.refl _ w1).alloc (Nat.le_refl _) (.cells #[.int .i64 er1, .int .i64 at1] 26)
  have hwg : w.heap.size ≤ w1.heap.size := hb1w.size
  clear d1 hb1 hb0
  generalize hW1 : w1.alloc (.cells #[.int .i64 er1, .int .i64 at1] 26) = W1 at *
  have a0 := (cell_of_row _ _ 0 _ _ _ hf1).trans rfl
  by_cases e1 : er1 = 0
  · subst e1
    obtain ⟨us, r1, h40, hw0, hbare, hnm⟩ := ptells_right h1
    obtain ⟨p1, n1, rfl⟩ := row_form r1.own
    have i1 := inR_of_row r1 h40 hnm
    have c2 := wrong_any us _ W1 (i1.below bx)
    rw [hw0] at c2
    have c2 : Calls Tryz.prog 11 #[.slice p1 us.length n1] W1 fun r w' => r = .returned (.agg #[.int .i64 0, .int .i64 0]) ∧ Below W1.heap.size W1 w' := c2
    clear h1
    go_wp2_with fail
    refine c2.mono ?_
    rintro e w2 ⟨rfl, hb2⟩
    have hb2w := hb1a.trans (hb2.mono hb1a.size)
    have bx2 := bx.trans (hb2.mono bx.size)
    have hf2 := (hb2.block _ (lt_of_block hf1)).trans hf1
    have hP2 : PTb w2.heap.size w2 := fun w' hw => hPT w' (hb2w.trans (hw.mono hb2w.size))
    clear c2 hb2 hf1 a0 bx hb1a hW1
    by_cases h6 : 6000 < (rulesT (us.map (fun p => p.1))).length
    · have c3 := print_much (i1.below bx2) hP2 hw0 h6
      clear hP2
      go_wp2_with fail
      refine c3.mono ?_
      rintro e w3 ⟨rfl, hb3⟩
      have hf3 := (hb3.block _ (lt_of_block hf2)).trans hf2
      have hb3w := hb2w.trans (hb3.mono hb2w.size)
      have hbS := below_setRow hb3w hwg #[.int .i64 4, .int .i64 0]
      have hfS := setRow_heap w3 w1.heap.size _ #[.int .i64 4, .int .i64 0] _ _ hf3
      have aS := (cell_of_row _ _ 0 _ _ _ hfS).trans rfl
      clear c3 hb3 hf2
      go_wp2_with (first
        | (refine wpList_store_row rfl 26 _ _ rfl _ _ rfl rfl _ _ hf3 (by kernel_rfl) (by simp) (by simp [Value.oneCell']) ?_))
      go_ret
      exact ⟨rfl, hbS⟩
    · have c3 := print_fine (i1.below bx2) hP2 hw0 h6
      clear hP2
      go_wp2_with fail
      refine c3.mono ?_
      rintro e w3 ⟨rfl, hb3⟩
      have hf3 := (hb3.block _ (lt_of_block hf2)).trans hf2
      have hb3w := hb2w.trans (hb3.mono hb2w.size)
      have bx3 := bx2.trans (hb3.mono bx2.size)
      have hbS := below_setRow hb3w hwg #[.int .i64 0, .int .i64 0]
      have bxS := below_setRow bx3 (Nat.le_refl _) #[.int .i64 0, .int .i64 0]
      have hfS := setRow_heap w3 w1.heap.size _ #[.int .i64 0, .int .i64 0] _ _ hf3
      clear c3 hb3 hf2 hb2w hb3w bx2 bx3
      generalize hWS : w3.setRow w1.heap.size #[.int .i64 0, .int .i64 0] = W3 at *
      have aS := (cell_of_row _ _ 0 _ _ _ hfS).trans rfl
      have c4 := parse_any ⟨(rulesT (us.map (fun p => p.1))).toArray⟩ _ rfl (by simp; omega) W3 (hPT W3 hbS).1 (hPT W3 hbS).2.1
      have hgl := lt_of_block hfS
      go_wp2_with (first
        | (refine wpList_store_row rfl 26 _ _ rfl _ _ rfl rfl _ _ hf3 (by kernel_rfl) (by simp) (by simp [Value.oneCell']) ?_; rw [hWS]))
      refine c4.mono ?_
      rintro e w4 ⟨⟨v2, er2, at2, rfl, h2⟩, hb4⟩
      obtain ⟨rfl, us2, r2, h402, hmap⟩ := ptells_turn (by rw [hw0]) (by omega) h2
      rw [hbare] at hmap
      obtain ⟨p2, n2, rfl⟩ := row_form r2.own
      have hf4 := (hb4.block _ (lt_of_block hfS)).trans hfS
      have hb4w := hbS.trans (hb4.mono hbS.size)
      have bx4 := bxS.trans (hb4.mono bxS.size)
      have hbT := below_setRow hb4w hwg #[.int .i64 0, .int .i64 at2]
      have bxT := below_setRow bx4 (Nat.le_refl _) #[.int .i64 0, .int .i64 at2]
      have hfT := setRow_heap w4 w1.heap.size _ #[.int .i64 0, .int .i64 at2] _ _ hf4
      have r2T : RowR W3 (w4.setRow w1.heap.size #[.int .i64 0, .int .i64 at2]) (.slice p2 us2.length n2) us2 := r2.later (fun k hk => setRow_other _ _ _ _ (by omega)) (Nat.le_refl _)
      clear c4 h2 hb4 hfS hbS bxS hb4w bx4 hWS hf3 aS r2
      generalize hWT : w4.setRow w1.heap.size #[.int .i64 0, .int .i64 at2] = W4 at *
      have aT := (cell_of_row _ _ 0 _ _ _ hfT).trans rfl
      have i2 := inR_of_row r2T h402 (hnm.same hmap)
      have c5 := print_fine i2 (fun w' hw => hPT w' (hbT.trans (hw.mono hbT.size))) (by rw [hmap]; exact hw0) (by rw [hmap]; exact h6)
      rw [hmap] at c5
      go_wp2_with (first
        | (refine wpList_store_row rfl 26 _ _ rfl _ _ rfl rfl _ _ hf4 (by kernel_rfl) (by simp) (by simp [Value.oneCell']) ?_; rw [hWT]))
      refine c5.mono ?_
      rintro e w5 ⟨rfl, hb5⟩
      have by0 := hb5.alloc hb5.size (.cells #[.int .i64 0, .int .i64 0] 26)
      have hf0 := heap_alloc_new w5 (.cells #[.int .i64 0, .int .i64 0] 26)
      have by5 := below_setRow by0 hb5.size #[.int .i64 0, .int .i64 0]
      have hfg := setRow_heap (w5.alloc (.cells #[.int .i64 0, .int .i64 0] 26)) w5.heap.size _ #[.int .i64 0, .int .i64 0] _ _ hf0
      have hb5a := hbT.trans (by5.mono hbT.size)
      have bx5 := bxT.trans (by5.mono bxT.size)
      have hf5 := (by5.block _ (lt_of_block hfT)).trans hfT
      clear c5 hb5 hbT bxT hWT hf4 aT hfT by0
      generalize hW5 : (w5.alloc (.cells #[.int .i64 0, .int .i64 0] 26)).setRow w5.heap.size #[.int .i64 0, .int .i64 0] = W5 at *
      have g0 := (cell_of_row _ _ 0 _ _ _ hfg).trans rfl
      have f0 := (cell_of_row _ _ 0 _ _ _ hf5).trans rfl
      obtain ⟨x1, x2⟩ := rowR_below r1 bx5 h40
      obtain ⟨y1, y2⟩ := rowR_below r2T by5 h402
      have c6 := same_any _ _ us us2 _ _ W5 x1 y1 x2 y2 hmap.symm
      clear x1 x2 y1 y2 r1 r2T i1 i2
      go_wp2_with (first
        | (refine wpList_store_row rfl 26 _ _ rfl _ _ rfl rfl _ _ hf0 (by kernel_rfl) (by simp) (by simp [Value.oneCell']) ?_; rw [hW5]))
      refine c6.mono ?_
      rintro e w6 ⟨rfl, hb6⟩
      have hb6w := hb5a.trans (hb6.mono hb5a.size)
      clear c6 hb6
      go_wp2_with fail
      go_ret
      exact ⟨by simp, hb6w⟩
  · have hv := ptells_bad h1 e1
    subst hv
    have hne1 : (er1 != 0) = true := by simpa using e1
    clear h1 e1
    go_wp2_with fail
    go_ret
    exact ⟨rfl, hb1a⟩
end Go.Proofs.YteheahhifihmjaaGreatDoor

/- What the condition on the five listed tables gives the walks, and the start that meets it. -/
namespace Go.Proofs.YteheahhifihmjaaGreatDoor
open Go.ChangeShapes Go.WideShapes Go.ChangeAt Go.WideMaps Go.WideElems Go.RowKit Go.Joins Lx

/-- The listed variables. -/
abbrev laid5 : List (String × DataW Unit) := Rows.parseTurnsRow.laid
def len5 : String := (Rows.parseTurnsRow.named.getD 0 default)
def day5 : String := (Rows.parseTurnsRow.named.getD 1 default)
theorem own5 : ownKnob Tryz.prog.godebug = none := by kernel_rfl
theorem gPow : Tryz.prog.globalNamed powName = some 2 := by kernel_rfl
theorem tPow : (Tryz.prog.globals[2]?).map (·.type) = some 128 := by kernel_rfl
theorem gLen5 : Tryz.prog.globalNamed len5 = some 1 := by kernel_rfl
theorem tLen5 : (Tryz.prog.globals[1]?).map (·.type) = some 121 := by kernel_rfl
theorem gDay5 : Tryz.prog.globalNamed day5 = some 0 := by kernel_rfl
theorem tDay5 : (Tryz.prog.globals[0]?).map (·.type) = some 92 := by kernel_rfl
theorem cI5 : Tryz.prog.cellsOf 3 = 1 := by kernel_rfl
theorem cU5 : Tryz.prog.cellsOf 115 = 1 := by kernel_rfl
theorem cL5 : Tryz.prog.cellsOf 121 = 12 := by kernel_rfl
theorem cP5 : Tryz.prog.cellsOf 128 = 20 := by kernel_rfl
theorem cS5 : Tryz.prog.cellsOf 9 = 1 := by kernel_rfl
theorem cD5 : Tryz.prog.cellsOf 92 = 7 := by kernel_rfl
theorem door5_met (os : Os) (args : Array Value) : laidMetH Tryz.prog laid5 ((World.doorLaid Tryz.prog 400 os).forCall (fun _ _ => 0) ⟨#[], args, []⟩).memory :=
  laidMetH_of_parts3 (fuel := 8) (laidMet_of_run' 8 (by kernel_rfl) (by kernel_rfl)) (by kernel_rfl) (by kernel_rfl)
/-- A cell of an array of strings, where the array reads as these texts. -/
theorem str_cell5 {H : Type} {enc : TypeId × Value → H} {P : Program} {w : World} {base : Nat} {sp : Nat → Bool} {held : Bool} {t e : TypeId} {n : Nat} {cs : List Value} {zs : List (List UInt8)} {p : List MemPlace} (ht : P.underlying t = some (.array n e)) (he : P.underlying e = some .string) (hce : P.cellsOf e = 1) (hct : P.cellsOf t = n) :
    ∀ fuel, DataW.trod enc P w base sp held fuel t cs = some (.agg (zs.map fun z => .lit (.string z)), p) → ∀ (i : Nat) (z : List UInt8), zs[i]? = some z → cs[i]? = some (.string ⟨z.toArray⟩)
  | 0, h, _, _, _ => by simp [DataW.trod] at h
  | fuel + 1, h, i, z, hz => by
    simp only [DataW.trod, ht, hce, hct, Nat.mul_one] at h
    split at h
    · obtain ⟨xs, hm, hx⟩ := Option.map_eq_some_iff.1 h
      have h1 : xs.map (fun x => x.1) = zs.map fun z => (DataW.lit (.string z) : DataW H) := by simpa using congrArg Prod.fst hx
      have h2 : (xs.map fun x => x.1)[i]? = some (DataW.lit (.string z) : DataW H) := by rw [h1, List.getElem?_map, hz]; rfl
      rw [List.getElem?_map] at h2
      obtain ⟨x, hx1, hx2⟩ := Option.map_eq_some_iff.1 h2
      have hin : i < n := by
        have a := (List.getElem?_eq_some_iff.1 hx1).1
        have b := Lib.mapM_length hm
        simp at b; omega
      obtain ⟨b, hb, hf⟩ := Lib.mapM_at hm i i (by simp [hin])
      obtain ⟨s, hc, rfl, _⟩ := DataW.trod_string he hf
      rw [hb] at hx1
      obtain rfl := Option.some.inj hx1
      have hs : s.data.toList = z := by simpa using hx2
      have h3 := congrArg (fun l : List Value => l[0]?) hc
      have h4 : cs[i]? = some (.string s) := by simpa [List.getElem?_take, List.getElem?_drop] using h3
      rw [h4, ← hs]
    · cases h
theorem tabs_of_laid {W : World} (h : laidMetH Tryz.prog laid5 W) : CTab W ∧ DTab W ∧ PowT W := by
  rw [MakeChecks.laidMetH_plain _ _ _ (by kernel_rfl)] at h
  obtain ⟨ps, ⟨_, _, _, _, _, _, _, _, _, _, ⟨_, _, _, _, _, _, _, _, _, _, ⟨g1, t1, cs1, fuel1, p1, q1, hg1, ht1, hv1, hd1, ⟨g2, t2, cs2, fuel2, p2, q2, hg2, ht2, hv2, hd2, ⟨g3, t3, cs3, fuel3, p3, q3, hg3, ht3, hv3, hd3, _, _⟩, _⟩, _⟩, _⟩, _⟩, _⟩ := h
  obtain rfl := Option.some.inj (gPow.symm.trans hg1)
  obtain rfl := Option.some.inj (tPow.symm.trans ht1)
  obtain rfl := Option.some.inj (gLen5.symm.trans hg2)
  obtain rfl := Option.some.inj (tLen5.symm.trans ht2)
  obtain rfl := Option.some.inj (gDay5.symm.trans hg3)
  obtain rfl := Option.some.inj (tDay5.symm.trans ht3)
  refine ⟨?_, ?_, ?_⟩
  · have e2 := Lib.cells_of_tab (zs := tab) Tryz.underlying121 Tryz.underlying3 cI5 cL5 hd2
    have t : Lib.TabIs Tryz.prog W len5 .i64 tab := by
      unfold Lib.TabIs
      rw [← e2]; exact hv2
    intro i hi
    exact t.cell gLen5 i (by simpa [tab] using hi)
  · intro j hj
    have hz : wDays[j]? = some (wDays.getD j []) := by
      rw [List.getD_eq_getElem?_getD, List.getElem?_eq_getElem (by exact hj)]; rfl
    have hc := str_cell5 (zs := wDays) Tryz.underlying92 Tryz.underlying9 cS5 cD5 fuel3 hd3 j _ hz
    have := World.var?_cell gDay5 hv3 j
    rw [this]
    simpa using hc
  · have e1 := Lib.cells_of_tab (zs := Lib.pow10Tab) Tryz.underlying128 Tryz.underlying115 cU5 cP5 hd1
    unfold PowT Lib.TabIs
    rw [← e1]; exact hv1
theorem ptb_of_laid {W : World} (h : laidMetH Tryz.prog laid5 W) : PTb W.heap.size W := by
  obtain ⟨h1, h2, h3⟩ := tabs_of_laid h
  exact fun w' hb => ⟨h1.below hb, fun j hj => cell_later hb (h2 j hj), tab_stays gPow h3 hb (Nat.le_refl _)⟩
end Go.Proofs.YteheahhifihmjaaGreatDoor

/- A row of expressions of the call's own, that is appended to: its kids lie in other blocks. -/
namespace Go.Proofs.YteheahhifihmjaaGreatDoor
open Go.RowKit Lx

/-- The cells of a row of expressions, each with its kids' row. -/
def flatE : List (Ex × Value) → List Value
  | [] => []
  | p :: l => .int .i64 p.1.kind :: .int .i64 p.1.a :: .int .i64 p.1.b :: .string ⟨p.1.name.toArray⟩ :: p.2 :: flatE l
theorem flatE_snoc (p : Ex × Value) : ∀ l : List (Ex × Value), flatE (l ++ [p]) = flatE l ++ [.int .i64 p.1.kind, .int .i64 p.1.a, .int .i64 p.1.b, .string ⟨p.1.name.toArray⟩, p.2]
  | [] => rfl
  | q :: l => by simp [flatE, flatE_snoc p l]
theorem flatE_at : ∀ (l : List (Ex × Value)) (j : Nat) (p : Ex × Value), l[j]? = some p →
    (flatE l)[j * 5]? = some (.int .i64 p.1.kind) ∧ (flatE l)[j * 5 + 1]? = some (.int .i64 p.1.a) ∧ (flatE l)[j * 5 + 2]? = some (.int .i64 p.1.b) ∧ (flatE l)[j * 5 + 3]? = some (.string ⟨p.1.name.toArray⟩) ∧ (flatE l)[j * 5 + 4]? = some p.2
  | [], j, p, h => by simp at h
  | q :: l, 0, p, h => by
    simp at h
    subst h
    exact ⟨rfl, rfl, rfl, rfl, rfl⟩
  | q :: l, j + 1, p, h => by
    obtain ⟨h0, h1, h2, h3, h4⟩ := flatE_at l j p (by simpa using h)
    have e : ∀ r, (flatE (q :: l))[(j + 1) * 5 + r]? = (flatE l)[j * 5 + r]? := fun r => by
      rw [show (j + 1) * 5 + r = (j * 5 + r) + 5 by omega]
      rfl
    exact ⟨(e 0).trans h0, (e 1).trans h1, (e 2).trans h2, (e 3).trans h3, (e 4).trans h4⟩
structure RowE (base : Nat) (w : World) (v : Value) (us : List (Ex × Value)) : Prop where
  own : w.ownsRow base 38 5 v us.length (flatE us)
  kids : ∀ p ∈ us, ∃ d, KidsAt (fun k => base ≤ k ∧ v.ownBlock ≠ some k) d w p.2 p.1.kids
theorem RowE.nil (base : Nat) (w : World) : RowE base w (.slice none 0 0) [] := ⟨World.ownsRow_nil _ _ _ _, fun p hp => by cases hp⟩
theorem RowE.later {base : Nat} {w w' : World} {v : Value} {us : List (Ex × Value)} (h : RowE base w v us) (hk : ∀ k, base ≤ k → k < w.heap.size → w'.heap[k]? = w.heap[k]?) : RowE base w' v us := by
  refine ⟨?_, fun p hp => ?_⟩
  · obtain ⟨h1, h2⟩ := h.own
    refine ⟨h1, ?_⟩
    rcases h2 with h2 | ⟨g, cap, cur, hv, hg, hh, r⟩
    · exact .inl h2
    · exact .inr ⟨g, cap, cur, hv, hg, (hk g hg (lt_of_block hh)).trans hh, r⟩
  · obtain ⟨d, hd⟩ := h.kids p hp
    exact ⟨d, hd.kept fun k hB hl => hk k hB.1 hl⟩
theorem RowE.grown {base : Nat} {w w' : World} {v v' : Value} {us : List (Ex × Value)} {k : Ex} {sk : Value} {d : Nat} (h : RowE base w v us) (hn : w'.ownsRow base 38 5 v' (us.length + 1) (flatE us ++ [.int .i64 k.kind, .int .i64 k.a, .int .i64 k.b, .string ⟨k.name.toArray⟩, sk])) (hg : w.grownBy w' v.ownBlock) (hb : v'.ownBlock = v.ownBlock ∨ v'.ownBlock = some w.heap.size)
    (hk : KidsAt (fun q => base ≤ q ∧ v.ownBlock ≠ some q) d w sk k.kids) : RowE base w' v' (us ++ [(k, sk)]) := by
  have step : ∀ {d : Nat} {s : Value} {ks : List Ex}, KidsAt (fun q => base ≤ q ∧ v.ownBlock ≠ some q) d w s ks → KidsAt (fun q => base ≤ q ∧ v'.ownBlock ≠ some q) d w' s ks := fun hd => by
    refine (hd.lt.kept fun q hB hl => hg.block q hl (fun e => hB.1.2 e.symm)).mono fun q hB => ⟨hB.1.1, fun e => ?_⟩
    rcases hb with hb | hb
    · rw [hb] at e; exact hB.1.2 e
    · rw [hb] at e
      have := Option.some.inj e
      have := hB.2
      omega
  refine ⟨?_, fun p hp => ?_⟩
  · rw [flatE_snoc]
    simp only [List.length_append, List.length_cons, List.length_nil, Nat.zero_add]
    exact hn
  · rcases List.mem_append.1 hp with hp | hp
    · obtain ⟨d, hd⟩ := h.kids p hp
      exact ⟨d, step hd⟩
    · have e : p = (k, sk) := by simpa using hp
      subst e
      exact ⟨d, step hk⟩
theorem rowE_deep {base : Nat} {w : World} {v : Value} : ∀ {us : List (Ex × Value)}, (∀ p ∈ us, ∃ d, KidsAt (fun k => base ≤ k ∧ v.ownBlock ≠ some k) d w p.2 p.1.kids) → ∃ D, ∀ p ∈ us, KidsAt (fun k => base ≤ k ∧ v.ownBlock ≠ some k) D w p.2 p.1.kids
  | [], _ => ⟨0, fun p hp => by cases hp⟩
  | q :: us, h => by
    obtain ⟨d, hd⟩ := h q List.mem_cons_self
    obtain ⟨D, hD⟩ := rowE_deep fun p hp => h p (List.mem_cons_of_mem _ hp)
    refine ⟨max d D, fun p hp => ?_⟩
    rcases List.mem_cons.1 hp with rfl | hp
    · exact hd.le (by omega)
    · exact (hD p hp).le (by omega)
theorem RowE.out {base : Nat} {w : World} {v : Value} {us : List (Ex × Value)} (h : RowE base w v us) (hl : us.length < 9223372036854775808) : ∃ d p c, v = .slice p us.length c ∧ KidsAt (fun k => base ≤ k) d w v (us.map (fun p => p.1)) := by
  obtain ⟨p, c, hv⟩ := row_form h.own
  by_cases h0 : us.length = 0
  · have : us = [] := List.length_eq_zero_iff.1 h0
    subst this
    exact ⟨0, p, c, hv, rfl, p, c, hv⟩
  · obtain ⟨D, hD⟩ := rowE_deep h.kids
    obtain ⟨g, cap, hg, hcell⟩ := own_slice h.own (by omega)
    obtain ⟨_, h2⟩ := h.own
    rcases h2 with ⟨_, h2⟩ | ⟨g', cap', cur, hv', hb, hh, _⟩
    · exact absurd h2 h0
    · rw [hg] at hv'
      injection hv' with e1 e2 e3
      have e4 : g = g' := congrArg Addr.block (Option.some.inj e1)
      subst e4
      refine ⟨D + 1, p, c, hv, .inr ⟨g, 0, cap, ⟨hb, ⟨cur, (0, 0), hh⟩⟩, by rw [hg]; simp, by simpa using hl, fun j k hj => ?_⟩⟩
      rw [List.getElem?_map] at hj
      obtain ⟨q, hq1, hq2⟩ := Option.map_eq_some_iff.1 hj
      subst hq2
      obtain ⟨f0, f1, f2, f3, f4⟩ := flatE_at us j q hq1
      simp only [Nat.zero_add]
      exact ⟨q.2, hcell _ _ f0, hcell _ _ f1, hcell _ _ f2, hcell _ _ f3, hcell _ _ f4, (hD q (List.mem_of_getElem? hq1)).mono fun k hB => hB.1⟩
theorem exprInfo : (Tryz.prog.info? 38).map (fun i => (i.zero, i.size, i.bytes)) = some (some (.agg #[.int .i64 0, .int .i64 0, .int .i64 0, .string ⟨#[]⟩, .slice none 0 0]), 5, 64) := by kernel_rfl
theorem exprsType : Tryz.prog.underlying 36 = some (.slice 38) := by kernel_rfl
end Go.Proofs.YteheahhifihmjaaGreatDoor
