/- The document's Uses: how a rule's code uses its stack. Written by genvrc.py. -/
import Derived.Test.YtaeengpppehlfaaCt06
import Derived.Test.YtaeengpppehlfaaCt16
import Derived.Deep.QuietTactic
import Derived.BigQuiet
namespace Go.Proofs.Ytaeengpppehlfaa
open Go.RowKit Msk Vx

theorem most_any (a b : Int) (w : World) : Calls Try.prog 59 #[.int .i64 a, .int .i64 b] w fun e w' => e = .returned (.int .i64 (max a b)) ∧ w' = w := by
  by_cases h : b < a
  · have e : max a b = a := by omega
    rw [e]
    go_enter Try.func59, Try.ntmps59
    go_wp2_with fail
    go_ret
    exact ⟨rfl, rfl⟩
  · have e : max a b = b := by omega
    rw [e]
    go_enter Try.func59, Try.ntmps59
    go_wp2_with fail
    go_ret
    exact ⟨rfl, rfl⟩
/-- Heights as cells. -/
def icellsV (n : Nat) (A : Nat → Int) : Array Value := ((List.range n).map fun i => Value.int .i64 (A i)).toArray
theorem icellsV_at {n : Nat} {A : Nat → Int} {i : Nat} (h : i < n) : (icellsV n A)[i]? = some (.int .i64 (A i)) := by
  simp [icellsV, h]
theorem icellsV_set {n : Nat} {A : Nat → Int} {i : Nat} {v : Int} : (icellsV n A).setIfInBounds i (.int .i64 v) = icellsV n (setA A i v) := by
  apply Array.ext
  · simp [icellsV]
  · intro k h1 h2
    have hk : k < n := by simpa [icellsV] using h2
    rw [Array.getElem_setIfInBounds (by simpa [icellsV] using hk)]
    by_cases e : i = k
    · subst e
      simp [icellsV, setA]
    · rw [if_neg e]
      simp [icellsV, setA, show k ≠ i from fun h => e h.symm]
theorem icellsV_none (n : Nat) : madeCells #[Value.int .i64 0] n = icellsV n (fun _ => 0) := by
  apply Array.ext
  · simp [icellsV, madeCells]
  · intro k h1 h2
    simp [icellsV, madeCells, Nat.mod_one]
theorem icellsV_ext {n : Nat} {A B : Nat → Int} (h : ∀ i, i < n → A i = B i) : icellsV n A = icellsV n B := by
  unfold icellsV
  congr 1
  apply List.map_congr_left
  intro i hi
  rw [h i (List.mem_range.1 hi)]
/-- What Uses keeps: the code that came, and the heights. -/
structure UsM (w : World) (sv : Value) (hi st : Int) (n : Nat) (A : Nat → Int) (W : World) : Prop where
  bel : Below w.heap.size w W
  code : W.heap[w.heap.size]? = some (.cells #[sv, .int .i64 hi, .int .i64 st] 36 (0, 0))
  row : W.heap[w.heap.size + 1]? = some (.cells (icellsV n A) 3 (0, 0))
theorem UsM.below {w W W' : World} {sv : Value} {hi st : Int} {n : Nat} {A : Nat → Int} (h : UsM w sv hi st n A W) (hb : Below W.heap.size W W') : UsM w sv hi st n A W' :=
  ⟨h.bel.trans (hb.mono h.bel.size), (hb.block _ (lt_of_block h.code)).trans h.code, (hb.block _ (lt_of_block h.row)).trans h.row⟩
theorem UsM.set {w W : World} {sv : Value} {hi st : Int} {n : Nat} {A : Nat → Int} (h : UsM w sv hi st n A W) (i : Nat) (v : Int) : UsM w sv hi st n (setA A i v) (W.setCell ⟨w.heap.size + 1, i, none⟩ (.int .i64 v)) := by
  refine ⟨h.bel.setCell (by show w.heap.size ≤ w.heap.size + 1; omega) _, (heap_setCell_other W ⟨w.heap.size + 1, i, none⟩ _ _ (by show w.heap.size ≠ w.heap.size + 1; omega)).trans h.code, ?_⟩
  rw [← icellsV_set]
  exact heap_setCell_same W (w.heap.size + 1) i _ _ _ h.row
theorem UsM.same {w W : World} {sv : Value} {hi st : Int} {n : Nat} {A B : Nat → Int} (h : UsM w sv hi st n A W) (he : ∀ i, i < n → A i = B i) : UsM w sv hi st n B W := ⟨h.bel, h.code, by rw [h.row, icellsV_ext he]⟩
theorem UsM.cell {w W : World} {sv : Value} {hi st : Int} {n : Nat} {A : Nat → Int} (h : UsM w sv hi st n A W) {i : Nat} (hi : i < n) : W.cell? ⟨w.heap.size + 1, i, none⟩ = some (.int .i64 (A i)) := (cell_of_row _ _ i _ _ _ h.row).trans (icellsV_at hi)
theorem UsM.frz {w W : World} {sv : Value} {hi st : Int} {n : Nat} {A : Nat → Int} (h : UsM w sv hi st n A W) (i : Nat) : W.frozen? ⟨w.heap.size + 1, i, none⟩ = false := frozen_of_row _ _ i _ _ h.row
theorem intInfo9 : (Try.prog.info? 3).map (fun i => (i.zero, i.size, i.bytes)) = some (some (.int .i64 0), 1, 8) := by kernel_rfl
theorem intsType9 : Try.prog.underlying 102 = some (.slice 3) := by kernel_rfl
def fillA (j : Nat) : Nat → Int := fun i => if i < j then -1 else 0
def URel (cs : List Cd) (l : List In) (sv : Value) (hi st : Int) (w : World) (t10 t11 t36 : Value) (wr : World) : Prop := ∃ (j : Nat) (A : Nat → Int) (top : Int), t36 = .int .i64 (j : Int) ∧ j ≤ l.length ∧ t10 = .int .i64 top ∧ t11 = .int .i64 (stS cs l j) ∧ UInv l j A ∧ TInv cs l j top ∧ (0 ≤ top ∧ top ≤ 5000) ∧ UsM w sv hi st (l.length + 1) A wr
theorem urel_to {cs : List Cd} {l : List In} {sv : Value} {hi st : Int} {w W : World} {a b c a' b' c' : Int} (h : URel cs l sv hi st w (.int .i64 a) (.int .i64 b) (.int .i64 c) W) (e1 : a' = a) (e2 : b' = b) (e3 : c' = c) : URel cs l sv hi st w (.int .i64 a') (.int .i64 b') (.int .i64 c') W := by
  subst e1 e2 e3
  exact h
set_option maxRecDepth 100000 in
set_option maxHeartbeats 8000000 in
theorem ruses_any (cs : List Cd) (l : List In) (hi st : Int) (lv sv : Value) (w : World) (h : InV w lv cs) (hs : InsOf w sv l) (hok : ∀ (i : Nat) (c : Cd), cs[i]? = some c → aloneE c cs.length = 0) (hln : l.length ≤ 2000) (hie : ∀ (j : Nat) (x : In), l[j]? = some x → insE x j l.length cs.length = 0) :
    Calls Try.prog 38 #[lv, .agg #[sv, .int .i64 hi, .int .i64 st]] w (OutMs cs l w) := by
  obtain ⟨p, cp, rfl, hlen, hc⟩ := h.form
  obtain ⟨pu, cu, rfl, hlu, hcu⟩ := hs.form
  have HC := hidv hc
  have HCU := hidv hcu
  have HIE := hidv hie
  have HHI := hidv (high_of hok)
  have HOK := hidv hok
  have HST := hidv (steps_of hok)
  have HTO : Hid (Tos l) := fun j x hx hg => ins_to (hie j x hx) hg
  have hl0 : (0 : Int) ≤ (l.length : Int) := by omega
  have hl1 : (l.length : Int) ≤ 2000 := by omega
  have b1 := (Below.refl w.heap.size w).alloc (Nat.le_refl _) (.cells #[.slice pu l.length cu, .int .i64 hi, .int .i64 st] 36)
  have n1 := heap_alloc_new w (.cells #[.slice pu l.length cu, .int .i64 hi, .int .i64 st] 36)
  have s1 : (w.alloc (.cells #[.slice pu l.length cu, .int .i64 hi, .int .i64 st] 36)).heap.size = w.heap.size + 1 := by simp
  have hmk := run_make_row' (P := Try.prog) 102 3 (.int .i64 0) 8 intsType9 intInfo9 rfl .i64 .i64 (l.length + 1) (by omega) (by omega)
  rw [icellsV_none] at hmk
  push_cast at hmk
  generalize hwA : w.alloc (.cells #[.slice pu l.length cu, .int .i64 hi, .int .i64 st] 36) = wA at *
  have b2 := (Below.refl wA.heap.size wA).alloc (Nat.le_refl _) (.cells (icellsV (l.length + 1) (fun _ => 0)) 3)
  have n2 := heap_alloc_new wA (.cells (icellsV (l.length + 1) (fun _ => 0)) 3)
  rw [s1] at n2
  have e0 : icellsV (l.length + 1) (fun _ => 0) = icellsV (l.length + 1) (fillA 0) := icellsV_ext fun i _ => by unfold fillA; rw [if_neg (by omega)]
  have hst : UsM w (.slice pu l.length cu) hi st (l.length + 1) (fillA 0) (wA.alloc (.cells (icellsV (l.length + 1) (fun _ => 0)) 3)) := ⟨b1.trans (b2.mono b1.size), (b2.block _ (lt_of_block n1)).trans n1, by rw [n2, e0]⟩
  have z0 := (cell_of_row _ _ 0 _ _ _ n1).trans rfl
  have HSZ := hidv hst
  generalize hwB : wA.alloc (.cells (icellsV (l.length + 1) (fun _ => 0)) 3) = wB at *
  clear h hs hc hcu hok hie b1 b2 hst n1 n2 e0
  go_enter Try.func38, Try.ntmps38
  go_wp2_with fail
  clear hmk hwA hwB z0
  have hst := HSZ.out
  clear HSZ
  go_loopw [24] (fun t wr => ∃ j : Nat, t = .int .i64 (j : Int) ∧ j ≤ l.length + 1 ∧ UsM w (.slice pu l.length cu) hi st (l.length + 1) (fillA j) wr) (fun t _ => l.length + 1 - (intOf t).toNat)
  case atStart => exact ⟨0, rfl, by omega, hst⟩
  case round =>
    obtain ⟨j, rfl, hj, hm⟩ := hrel
    clear hst
    have hj0 : (0 : Int) ≤ (j : Int) := by omega
    by_cases hlt : j < l.length + 1
    · have hlt' : (j : Int) < ((l.length + 1 : Nat) : Int) := by omega
      have hlt2 : (j : Int) < (l.length : Int) + 1 := by omega
      have c0 := hm.cell hlt
      have y0 := hm.frz j
      have HN : Hid (∃ j' : Nat, Value.int .i64 ((j : Int) + 1) = .int .i64 (j' : Int) ∧ j' ≤ l.length + 1 ∧ UsM w (.slice pu l.length cu) hi st (l.length + 1) (fillA j') (wr.setCell ⟨w.heap.size + 1, j, none⟩ (.int .i64 (-1)))) := ⟨j + 1, by push_cast; rfl, by omega, (hm.set j (-1)).same fun i _ => by
        unfold setA fillA
        by_cases e : i = j
        · rw [if_pos e, if_pos (by omega)]
        · rw [if_neg e]
          by_cases e2 : i < j
          · rw [if_pos e2, if_pos (by omega)]
          · rw [if_neg e2, if_neg (by omega)]⟩
      clear hm HC HCU HIE HHI HST HTO HOK
      go_wp2_with fail
      go_roundw
      case rel => exact HN.out
      case measure => simp [intOf]; omega
    · have hlt' : ¬ (j : Int) < ((l.length + 1 : Nat) : Int) := by omega
      have hlt2 : ¬ (j : Int) < (l.length : Int) + 1 := by omega
      have ej : j = l.length + 1 := by omega
      subst ej
      have c0 := hm.cell (i := 0) (by omega)
      have y0 := hm.frz 0
      have hm0 : UsM w (.slice pu l.length cu) hi st (l.length + 1) (setA (fun _ => -1) 0 0) (wr.setCell ⟨w.heap.size + 1, 0, none⟩ (.int .i64 0)) := (hm.set 0 0).same fun i hi => by
        unfold setA fillA
        by_cases e : i = 0
        · rw [if_pos e, if_pos e]
        · rw [if_neg e, if_neg e, if_pos (by omega)]
      have zc := (cell_of_row _ _ 0 _ _ _ hm0.code).trans rfl
      have HM0 := hidv hm0
      generalize hw0 : wr.setCell ⟨w.heap.size + 1, 0, none⟩ (.int .i64 0) = wr0 at *
      clear hm hm0
      go_wp2_with fail
      have hm0 := HM0.out
      clear HM0 zc c0 y0 hw0
      go_loopw [10, 11, 36] (fun t10 t11 t36 wr => URel cs l (.slice pu l.length cu) hi st w t10 t11 t36 wr) (fun _ _ t _ => l.length - (intOf t).toNat)
      case atStart => exact ⟨0, _, 0, rfl, by omega, rfl, rfl, UInv.nil l, TInv.nil cs l, by omega, hm0⟩
      case round =>
        obtain ⟨j, A, top, rfl, hj, rfl, rfl, hI, hT, htop, hm⟩ := hrel
        clear hm0
        have hj0 : (0 : Int) ≤ (j : Int) := by omega
        obtain ⟨hb1a, hb1b⟩ := hAt_bd (l := l) j
        obtain ⟨hb3a, hb3b⟩ := stS_bd (l := l) HST.out j
        have hjn : (j : Int) ≤ 2000 := by omega
        have hb3c : stS cs l j ≤ 50000000 := by omega
        obtain ⟨htp0, htp1⟩ := htop
        by_cases hlt : j < l.length
        · have hlt' : (j : Int) < (l.length : Int) := by omega
          obtain ⟨x, hjx⟩ : ∃ x, l[j]? = some x := ⟨l[j], List.getElem?_eq_getElem hlt⟩
          obtain ⟨sk, hrow, g2, o2, hpe, e0, e1, e2, e3, e4⟩ := HCU.out j _ hjx
          subst hpe
          have d0 := (hm.bel.cell (block_lt_of_cell e0)).trans e0
          have d1 := (hm.bel.cell (block_lt_of_cell e1)).trans e1
          have d2 := (hm.bel.cell (block_lt_of_cell e2)).trans e2
          have d3 := (hm.bel.cell (block_lt_of_cell e3)).trans e3
          have d4 := (hm.bel.cell (block_lt_of_cell e4)).trans e4
          have hE := HIE.out j _ hjx
          have hh1 := hAt_step hjx
          have hs1 := stS_step (cs := cs) hjx
          have hk := ins_kinds hE
          have hp0 := hI.pos j (Nat.le_refl _)
          obtain ⟨hb1c, hb1d⟩ := hAt_bd (l := l) (j + 1)
          push_cast at hb1c hb1d
          obtain ⟨op, a, b, t, sp⟩ := x
          dsimp only at d0 d1 d2 d3 d4 hrow hs1
          obtain ⟨ps, ck, rfl, _, _⟩ := hrow.form
          have hnot : A (j + 1) = -1 ∨ 0 ≤ A (j + 1) := by
            rcases hI.got (j + 1) (by omega) (by omega) with q | ⟨i, y, q1, _, _, _, q5⟩
            · exact .inl q
            · have := hI.pos i (by omega)
              omega
          have hbB : A (j + 1) ≤ 3000 := by
            rcases hI.got (j + 1) (by omega) (by omega) with q | ⟨i, y, q1, _, _, _, q5⟩
            · omega
            · have := hAt_bd (l := l) i
              omega
          clear hrow e0 e1 e2 e3 e4
          have hk9 : op = 1 ∨ op = 2 ∨ op = 3 ∨ op = 4 ∨ op = 5 ∨ op = 8 ∨ op = 6 ∨ op = 7 := hk
          rcases hk9 with rfl | rfl | rfl | rfl | rfl | rfl | rfl | rfl
          · have bI := (Below.refl wr.heap.size wr).alloc (Nat.le_refl _) (.cells #[.int .i64 1, .int .i64 a, .int .i64 b, .int .i64 t, .slice ps sp.length ck] 65)
            have hxI := heap_alloc_new wr (.cells #[.int .i64 1, .int .i64 a, .int .i64 b, .int .i64 t, .slice ps sp.length ck] 65)
            have z0 := (cell_of_row _ _ 0 _ _ _ hxI).trans rfl
            have z1 := (cell_of_row _ _ 1 _ _ _ hxI).trans rfl
            have z3 := (cell_of_row _ _ 3 _ _ _ hxI).trans rfl
            have hmI := hm.below bI
            generalize hwI : wr.alloc (.cells #[.int .i64 1, .int .i64 a, .int .i64 b, .int .i64 t, .slice ps sp.length ck] 65) = wI at *
            have cj := hmI.cell (i := j) (by omega)
            rw [hI.cur] at cj
            have hm9 := hmI
            have hA9 : A (j + 1) = A (j + 1) := rfl
            rw [if_neg (by omega)] at hs1
            have hh1' : hAt l (j + 1) = hAt l j + 1 := by rw [hh1]; simp [eff] <;> omega
            clear hh1
            have cn := hm9.cell (i := j + 1) (by omega)
            have yn := hm9.frz (j + 1)
            rw [hA9] at cn
            have HNX : Hid (∀ T, T = hAt l (j + 1) → (A (j + 1) < 0 ∨ A (j + 1) = T) → URel cs l (.slice (some ⟨g2, o2, none⟩) l.length cu) hi st w (.int .i64 (max top (max (hAt l j) (hAt l (j + 1))))) (.int .i64 (stS cs l (j + 1))) (.int .i64 ((j + 1 : Nat) : Int)) (wI.setCell ⟨w.heap.size + 1, j + 1, none⟩ (.int .i64 T))) := fun T hTe hn => by
              rw [hTe] at hn ⊢
              exact ⟨j + 1, _, _, rfl, by omega, rfl, rfl, hI.step hjx (by simp [tk]; omega) (by simp [isG]) hn, hT.step hjx (by simp), by omega, hm9.set _ _⟩
            have hnm : 0 ≤ A (j + 1) → A (j + 1) ≠ hAt l (j + 1) → ¬ WellV l := fun q1 q2 => hI.not_met (by omega) q1 q2
            by_cases hB0 : 0 ≤ A (j + 1)
            · by_cases hBT : A (j + 1) = hAt l (j + 1)
              · have HN := hidv (HNX.out _ rfl (.inr hBT))
                rw [hBT] at cn
                clear HNX hnm hnot hbB hB0 hBT hA9 hm9 
                clear hI hT hm hmI HC HCU HIE HHI HST HTO HOK bI hxI hjx hE hk
                generalize hAt l (j + 1) = h1 at *
                generalize stS cs l (j + 1) = s1 at *
                generalize hAt l j = hh at *
                generalize stS cs l j = ss at *
                subst hh1'
                go_wp2_with (go_at_call 59; refine (most_any _ _ _).mono ?_; rintro e w9 ⟨rfl, rfl⟩)
                go_roundw
                case rel => exact urel_to HN.out (by omega) (by omega) (by omega)
                case measure => simp [intOf]; omega
              · have HNW := hidv (useT_no (cs := cs) (hnm hB0 hBT))
                have HB := hidv hm9.bel
                have hne : (A (j + 1) == hAt l j + 1) = false := beq_eq_false_iff_ne.2 (fun e => hBT (e.trans hh1'.symm))
                have hnn : (A (j + 1) != hAt l j + 1) = true := by simpa using hne
                clear HNX hnm hnot hBT hA9 hm9 
                clear hI hT hm hmI HC HCU HIE HHI HST HTO HOK bI hxI hjx hE hk
                generalize A (j + 1) = B at *
                generalize hAt l (j + 1) = h1 at *
                generalize stS cs l (j + 1) = s1 at *
                generalize hAt l j = hh at *
                generalize stS cs l j = ss at *
                go_wp2_with (go_at_call 59; refine (most_any _ _ _).mono ?_; rintro e w9 ⟨rfl, rfl⟩)
                exact bodyPost_ret (v := .tuple #[.int .i64 0, .int .i64 0, .bool false]) (by simp [results, Try.results38, go_sem]) rfl ⟨0, 0, false, rfl, HNW.out, HB.out⟩
            · have hBn : ¬ 0 ≤ A (j + 1) := hB0
              have HN := hidv (HNX.out _ rfl (.inl (by omega)))
              clear HNX hnm hnot hbB hB0 hA9 hm9 
              clear hI hT hm hmI HC HCU HIE HHI HST HTO HOK bI hxI hjx hE hk
              generalize A (j + 1) = B at *
              generalize hAt l (j + 1) = h1 at *
              generalize stS cs l (j + 1) = s1 at *
              generalize hAt l j = hh at *
              generalize stS cs l j = ss at *
              subst hh1'
              go_wp2_with (go_at_call 59; refine (most_any _ _ _).mono ?_; rintro e w9 ⟨rfl, rfl⟩)
              go_roundw
              case rel => exact urel_to HN.out (by omega) (by omega) (by omega)
              case measure => simp [intOf]; omega
          · have bI := (Below.refl wr.heap.size wr).alloc (Nat.le_refl _) (.cells #[.int .i64 2, .int .i64 a, .int .i64 b, .int .i64 t, .slice ps sp.length ck] 65)
            have hxI := heap_alloc_new wr (.cells #[.int .i64 2, .int .i64 a, .int .i64 b, .int .i64 t, .slice ps sp.length ck] 65)
            have z0 := (cell_of_row _ _ 0 _ _ _ hxI).trans rfl
            have z1 := (cell_of_row _ _ 1 _ _ _ hxI).trans rfl
            have z3 := (cell_of_row _ _ 3 _ _ _ hxI).trans rfl
            have hmI := hm.below bI
            generalize hwI : wr.alloc (.cells #[.int .i64 2, .int .i64 a, .int .i64 b, .int .i64 t, .slice ps sp.length ck] 65) = wI at *
            have cj := hmI.cell (i := j) (by omega)
            rw [hI.cur] at cj
            rw [if_neg (by omega)] at hs1
            by_cases h2 : hAt l j < 2
            · have HNW := hidv (useT_no (cs := cs) (not_tk hjx (by simp [tk]; omega)))
              have HB := hidv hmI.bel
              clear hI hT hm hmI HC HCU HIE HHI HST HTO HOK bI hxI hjx hE hk
              generalize hAt l (j + 1) = h1 at *
              generalize stS cs l (j + 1) = s1 at *
              generalize hAt l j = hh at *
              generalize stS cs l j = ss at *
              go_wp2_with (go_at_call 59; refine (most_any _ _ _).mono ?_; rintro e w9 ⟨rfl, rfl⟩)
              exact bodyPost_ret (v := .tuple #[.int .i64 0, .int .i64 0, .bool false]) (by simp [results, Try.results38, go_sem]) rfl ⟨0, 0, false, rfl, HNW.out, HB.out⟩
            · have hm9 := hmI
              have hA9 : A (j + 1) = A (j + 1) := rfl
              have hh1' : hAt l (j + 1) = hAt l j - 1 := by rw [hh1]; simp [eff] <;> omega
              clear hh1
              have cn := hm9.cell (i := j + 1) (by omega)
              have yn := hm9.frz (j + 1)
              rw [hA9] at cn
              have HNX : Hid (∀ T, T = hAt l (j + 1) → (A (j + 1) < 0 ∨ A (j + 1) = T) → URel cs l (.slice (some ⟨g2, o2, none⟩) l.length cu) hi st w (.int .i64 (max top (max (hAt l j) (hAt l (j + 1))))) (.int .i64 (stS cs l (j + 1))) (.int .i64 ((j + 1 : Nat) : Int)) (wI.setCell ⟨w.heap.size + 1, j + 1, none⟩ (.int .i64 T))) := fun T hTe hn => by
                rw [hTe] at hn ⊢
                exact ⟨j + 1, _, _, rfl, by omega, rfl, rfl, hI.step hjx (by simp [tk]; omega) (by simp [isG]) hn, hT.step hjx (by simp), by omega, hm9.set _ _⟩
              have hnm : 0 ≤ A (j + 1) → A (j + 1) ≠ hAt l (j + 1) → ¬ WellV l := fun q1 q2 => hI.not_met (by omega) q1 q2
              by_cases hB0 : 0 ≤ A (j + 1)
              · by_cases hBT : A (j + 1) = hAt l (j + 1)
                · have HN := hidv (HNX.out _ rfl (.inr hBT))
                  rw [hBT] at cn
                  clear HNX hnm hnot hbB hB0 hBT hA9 hm9 
                  clear hI hT hm hmI HC HCU HIE HHI HST HTO HOK bI hxI hjx hE hk
                  generalize hAt l (j + 1) = h1 at *
                  generalize stS cs l (j + 1) = s1 at *
                  generalize hAt l j = hh at *
                  generalize stS cs l j = ss at *
                  subst hh1'
                  go_wp2_with (go_at_call 59; refine (most_any _ _ _).mono ?_; rintro e w9 ⟨rfl, rfl⟩)
                  go_roundw
                  case rel => exact urel_to HN.out (by omega) (by omega) (by omega)
                  case measure => simp [intOf]; omega
                · have HNW := hidv (useT_no (cs := cs) (hnm hB0 hBT))
                  have HB := hidv hm9.bel
                  have hne : (A (j + 1) == hAt l j - 1) = false := beq_eq_false_iff_ne.2 (fun e => hBT (e.trans hh1'.symm))
                  have hnn : (A (j + 1) != hAt l j - 1) = true := by simpa using hne
                  clear HNX hnm hnot hBT hA9 hm9 
                  clear hI hT hm hmI HC HCU HIE HHI HST HTO HOK bI hxI hjx hE hk
                  generalize A (j + 1) = B at *
                  generalize hAt l (j + 1) = h1 at *
                  generalize stS cs l (j + 1) = s1 at *
                  generalize hAt l j = hh at *
                  generalize stS cs l j = ss at *
                  go_wp2_with (go_at_call 59; refine (most_any _ _ _).mono ?_; rintro e w9 ⟨rfl, rfl⟩)
                  exact bodyPost_ret (v := .tuple #[.int .i64 0, .int .i64 0, .bool false]) (by simp [results, Try.results38, go_sem]) rfl ⟨0, 0, false, rfl, HNW.out, HB.out⟩
              · have hBn : ¬ 0 ≤ A (j + 1) := hB0
                have HN := hidv (HNX.out _ rfl (.inl (by omega)))
                clear HNX hnm hnot hbB hB0 hA9 hm9 
                clear hI hT hm hmI HC HCU HIE HHI HST HTO HOK bI hxI hjx hE hk
                generalize A (j + 1) = B at *
                generalize hAt l (j + 1) = h1 at *
                generalize stS cs l (j + 1) = s1 at *
                generalize hAt l j = hh at *
                generalize stS cs l j = ss at *
                subst hh1'
                go_wp2_with (go_at_call 59; refine (most_any _ _ _).mono ?_; rintro e w9 ⟨rfl, rfl⟩)
                go_roundw
                case rel => exact urel_to HN.out (by omega) (by omega) (by omega)
                case measure => simp [intOf]; omega
          · have bI := (Below.refl wr.heap.size wr).alloc (Nat.le_refl _) (.cells #[.int .i64 3, .int .i64 a, .int .i64 b, .int .i64 t, .slice ps sp.length ck] 65)
            have hxI := heap_alloc_new wr (.cells #[.int .i64 3, .int .i64 a, .int .i64 b, .int .i64 t, .slice ps sp.length ck] 65)
            have z0 := (cell_of_row _ _ 0 _ _ _ hxI).trans rfl
            have z1 := (cell_of_row _ _ 1 _ _ _ hxI).trans rfl
            have z3 := (cell_of_row _ _ 3 _ _ _ hxI).trans rfl
            have hmI := hm.below bI
            generalize hwI : wr.alloc (.cells #[.int .i64 3, .int .i64 a, .int .i64 b, .int .i64 t, .slice ps sp.length ck] 65) = wI at *
            have cj := hmI.cell (i := j) (by omega)
            rw [hI.cur] at cj
            rw [if_neg (by omega)] at hs1
            by_cases h2 : hAt l j < 2
            · have HNW := hidv (useT_no (cs := cs) (not_tk hjx (by simp [tk]; omega)))
              have HB := hidv hmI.bel
              clear hI hT hm hmI HC HCU HIE HHI HST HTO HOK bI hxI hjx hE hk
              generalize hAt l (j + 1) = h1 at *
              generalize stS cs l (j + 1) = s1 at *
              generalize hAt l j = hh at *
              generalize stS cs l j = ss at *
              go_wp2_with (go_at_call 59; refine (most_any _ _ _).mono ?_; rintro e w9 ⟨rfl, rfl⟩)
              exact bodyPost_ret (v := .tuple #[.int .i64 0, .int .i64 0, .bool false]) (by simp [results, Try.results38, go_sem]) rfl ⟨0, 0, false, rfl, HNW.out, HB.out⟩
            · have hm9 := hmI
              have hA9 : A (j + 1) = A (j + 1) := rfl
              have hh1' : hAt l (j + 1) = hAt l j - 1 := by rw [hh1]; simp [eff] <;> omega
              clear hh1
              have cn := hm9.cell (i := j + 1) (by omega)
              have yn := hm9.frz (j + 1)
              rw [hA9] at cn
              have HNX : Hid (∀ T, T = hAt l (j + 1) → (A (j + 1) < 0 ∨ A (j + 1) = T) → URel cs l (.slice (some ⟨g2, o2, none⟩) l.length cu) hi st w (.int .i64 (max top (max (hAt l j) (hAt l (j + 1))))) (.int .i64 (stS cs l (j + 1))) (.int .i64 ((j + 1 : Nat) : Int)) (wI.setCell ⟨w.heap.size + 1, j + 1, none⟩ (.int .i64 T))) := fun T hTe hn => by
                rw [hTe] at hn ⊢
                exact ⟨j + 1, _, _, rfl, by omega, rfl, rfl, hI.step hjx (by simp [tk]; omega) (by simp [isG]) hn, hT.step hjx (by simp), by omega, hm9.set _ _⟩
              have hnm : 0 ≤ A (j + 1) → A (j + 1) ≠ hAt l (j + 1) → ¬ WellV l := fun q1 q2 => hI.not_met (by omega) q1 q2
              by_cases hB0 : 0 ≤ A (j + 1)
              · by_cases hBT : A (j + 1) = hAt l (j + 1)
                · have HN := hidv (HNX.out _ rfl (.inr hBT))
                  rw [hBT] at cn
                  clear HNX hnm hnot hbB hB0 hBT hA9 hm9 
                  clear hI hT hm hmI HC HCU HIE HHI HST HTO HOK bI hxI hjx hE hk
                  generalize hAt l (j + 1) = h1 at *
                  generalize stS cs l (j + 1) = s1 at *
                  generalize hAt l j = hh at *
                  generalize stS cs l j = ss at *
                  subst hh1'
                  go_wp2_with (go_at_call 59; refine (most_any _ _ _).mono ?_; rintro e w9 ⟨rfl, rfl⟩)
                  go_roundw
                  case rel => exact urel_to HN.out (by omega) (by omega) (by omega)
                  case measure => simp [intOf]; omega
                · have HNW := hidv (useT_no (cs := cs) (hnm hB0 hBT))
                  have HB := hidv hm9.bel
                  have hne : (A (j + 1) == hAt l j - 1) = false := beq_eq_false_iff_ne.2 (fun e => hBT (e.trans hh1'.symm))
                  have hnn : (A (j + 1) != hAt l j - 1) = true := by simpa using hne
                  clear HNX hnm hnot hBT hA9 hm9 
                  clear hI hT hm hmI HC HCU HIE HHI HST HTO HOK bI hxI hjx hE hk
                  generalize A (j + 1) = B at *
                  generalize hAt l (j + 1) = h1 at *
                  generalize stS cs l (j + 1) = s1 at *
                  generalize hAt l j = hh at *
                  generalize stS cs l j = ss at *
                  go_wp2_with (go_at_call 59; refine (most_any _ _ _).mono ?_; rintro e w9 ⟨rfl, rfl⟩)
                  exact bodyPost_ret (v := .tuple #[.int .i64 0, .int .i64 0, .bool false]) (by simp [results, Try.results38, go_sem]) rfl ⟨0, 0, false, rfl, HNW.out, HB.out⟩
              · have hBn : ¬ 0 ≤ A (j + 1) := hB0
                have HN := hidv (HNX.out _ rfl (.inl (by omega)))
                clear HNX hnm hnot hbB hB0 hA9 hm9 
                clear hI hT hm hmI HC HCU HIE HHI HST HTO HOK bI hxI hjx hE hk
                generalize A (j + 1) = B at *
                generalize hAt l (j + 1) = h1 at *
                generalize stS cs l (j + 1) = s1 at *
                generalize hAt l j = hh at *
                generalize stS cs l j = ss at *
                subst hh1'
                go_wp2_with (go_at_call 59; refine (most_any _ _ _).mono ?_; rintro e w9 ⟨rfl, rfl⟩)
                go_roundw
                case rel => exact urel_to HN.out (by omega) (by omega) (by omega)
                case measure => simp [intOf]; omega
          · have bI := (Below.refl wr.heap.size wr).alloc (Nat.le_refl _) (.cells #[.int .i64 4, .int .i64 a, .int .i64 b, .int .i64 t, .slice ps sp.length ck] 65)
            have hxI := heap_alloc_new wr (.cells #[.int .i64 4, .int .i64 a, .int .i64 b, .int .i64 t, .slice ps sp.length ck] 65)
            have z0 := (cell_of_row _ _ 0 _ _ _ hxI).trans rfl
            have z1 := (cell_of_row _ _ 1 _ _ _ hxI).trans rfl
            have z3 := (cell_of_row _ _ 3 _ _ _ hxI).trans rfl
            have hmI := hm.below bI
            generalize hwI : wr.alloc (.cells #[.int .i64 4, .int .i64 a, .int .i64 b, .int .i64 t, .slice ps sp.length ck] 65) = wI at *
            have cj := hmI.cell (i := j) (by omega)
            rw [hI.cur] at cj
            rw [if_neg (by omega)] at hs1
            by_cases h2 : hAt l j < 2
            · have HNW := hidv (useT_no (cs := cs) (not_tk hjx (by simp [tk]; omega)))
              have HB := hidv hmI.bel
              clear hI hT hm hmI HC HCU HIE HHI HST HTO HOK bI hxI hjx hE hk
              generalize hAt l (j + 1) = h1 at *
              generalize stS cs l (j + 1) = s1 at *
              generalize hAt l j = hh at *
              generalize stS cs l j = ss at *
              go_wp2_with (go_at_call 59; refine (most_any _ _ _).mono ?_; rintro e w9 ⟨rfl, rfl⟩)
              exact bodyPost_ret (v := .tuple #[.int .i64 0, .int .i64 0, .bool false]) (by simp [results, Try.results38, go_sem]) rfl ⟨0, 0, false, rfl, HNW.out, HB.out⟩
            · have hm9 := hmI
              have hA9 : A (j + 1) = A (j + 1) := rfl
              have hh1' : hAt l (j + 1) = hAt l j - 1 := by rw [hh1]; simp [eff] <;> omega
              clear hh1
              have cn := hm9.cell (i := j + 1) (by omega)
              have yn := hm9.frz (j + 1)
              rw [hA9] at cn
              have HNX : Hid (∀ T, T = hAt l (j + 1) → (A (j + 1) < 0 ∨ A (j + 1) = T) → URel cs l (.slice (some ⟨g2, o2, none⟩) l.length cu) hi st w (.int .i64 (max top (max (hAt l j) (hAt l (j + 1))))) (.int .i64 (stS cs l (j + 1))) (.int .i64 ((j + 1 : Nat) : Int)) (wI.setCell ⟨w.heap.size + 1, j + 1, none⟩ (.int .i64 T))) := fun T hTe hn => by
                rw [hTe] at hn ⊢
                exact ⟨j + 1, _, _, rfl, by omega, rfl, rfl, hI.step hjx (by simp [tk]; omega) (by simp [isG]) hn, hT.step hjx (by simp), by omega, hm9.set _ _⟩
              have hnm : 0 ≤ A (j + 1) → A (j + 1) ≠ hAt l (j + 1) → ¬ WellV l := fun q1 q2 => hI.not_met (by omega) q1 q2
              by_cases hB0 : 0 ≤ A (j + 1)
              · by_cases hBT : A (j + 1) = hAt l (j + 1)
                · have HN := hidv (HNX.out _ rfl (.inr hBT))
                  rw [hBT] at cn
                  clear HNX hnm hnot hbB hB0 hBT hA9 hm9 
                  clear hI hT hm hmI HC HCU HIE HHI HST HTO HOK bI hxI hjx hE hk
                  generalize hAt l (j + 1) = h1 at *
                  generalize stS cs l (j + 1) = s1 at *
                  generalize hAt l j = hh at *
                  generalize stS cs l j = ss at *
                  subst hh1'
                  go_wp2_with (go_at_call 59; refine (most_any _ _ _).mono ?_; rintro e w9 ⟨rfl, rfl⟩)
                  go_roundw
                  case rel => exact urel_to HN.out (by omega) (by omega) (by omega)
                  case measure => simp [intOf]; omega
                · have HNW := hidv (useT_no (cs := cs) (hnm hB0 hBT))
                  have HB := hidv hm9.bel
                  have hne : (A (j + 1) == hAt l j - 1) = false := beq_eq_false_iff_ne.2 (fun e => hBT (e.trans hh1'.symm))
                  have hnn : (A (j + 1) != hAt l j - 1) = true := by simpa using hne
                  clear HNX hnm hnot hBT hA9 hm9 
                  clear hI hT hm hmI HC HCU HIE HHI HST HTO HOK bI hxI hjx hE hk
                  generalize A (j + 1) = B at *
                  generalize hAt l (j + 1) = h1 at *
                  generalize stS cs l (j + 1) = s1 at *
                  generalize hAt l j = hh at *
                  generalize stS cs l j = ss at *
                  go_wp2_with (go_at_call 59; refine (most_any _ _ _).mono ?_; rintro e w9 ⟨rfl, rfl⟩)
                  exact bodyPost_ret (v := .tuple #[.int .i64 0, .int .i64 0, .bool false]) (by simp [results, Try.results38, go_sem]) rfl ⟨0, 0, false, rfl, HNW.out, HB.out⟩
              · have hBn : ¬ 0 ≤ A (j + 1) := hB0
                have HN := hidv (HNX.out _ rfl (.inl (by omega)))
                clear HNX hnm hnot hbB hB0 hA9 hm9 
                clear hI hT hm hmI HC HCU HIE HHI HST HTO HOK bI hxI hjx hE hk
                generalize A (j + 1) = B at *
                generalize hAt l (j + 1) = h1 at *
                generalize stS cs l (j + 1) = s1 at *
                generalize hAt l j = hh at *
                generalize stS cs l j = ss at *
                subst hh1'
                go_wp2_with (go_at_call 59; refine (most_any _ _ _).mono ?_; rintro e w9 ⟨rfl, rfl⟩)
                go_roundw
                case rel => exact urel_to HN.out (by omega) (by omega) (by omega)
                case measure => simp [intOf]; omega
          · have bI := (Below.refl wr.heap.size wr).alloc (Nat.le_refl _) (.cells #[.int .i64 5, .int .i64 a, .int .i64 b, .int .i64 t, .slice ps sp.length ck] 65)
            have hxI := heap_alloc_new wr (.cells #[.int .i64 5, .int .i64 a, .int .i64 b, .int .i64 t, .slice ps sp.length ck] 65)
            have z0 := (cell_of_row _ _ 0 _ _ _ hxI).trans rfl
            have z1 := (cell_of_row _ _ 1 _ _ _ hxI).trans rfl
            have z3 := (cell_of_row _ _ 3 _ _ _ hxI).trans rfl
            have hmI := hm.below bI
            generalize hwI : wr.alloc (.cells #[.int .i64 5, .int .i64 a, .int .i64 b, .int .i64 t, .slice ps sp.length ck] 65) = wI at *
            have cj := hmI.cell (i := j) (by omega)
            rw [hI.cur] at cj
            rw [if_neg (by omega)] at hs1
            by_cases h2 : hAt l j < 1
            · have HNW := hidv (useT_no (cs := cs) (not_tk hjx (by simp [tk]; omega)))
              have HB := hidv hmI.bel
              clear hI hT hm hmI HC HCU HIE HHI HST HTO HOK bI hxI hjx hE hk
              generalize hAt l (j + 1) = h1 at *
              generalize stS cs l (j + 1) = s1 at *
              generalize hAt l j = hh at *
              generalize stS cs l j = ss at *
              go_wp2_with (go_at_call 59; refine (most_any _ _ _).mono ?_; rintro e w9 ⟨rfl, rfl⟩)
              exact bodyPost_ret (v := .tuple #[.int .i64 0, .int .i64 0, .bool false]) (by simp [results, Try.results38, go_sem]) rfl ⟨0, 0, false, rfl, HNW.out, HB.out⟩
            · have hm9 := hmI
              have hA9 : A (j + 1) = A (j + 1) := rfl
              have hh1' : hAt l (j + 1) = hAt l j := by rw [hh1]; simp [eff] <;> omega
              clear hh1
              have cn := hm9.cell (i := j + 1) (by omega)
              have yn := hm9.frz (j + 1)
              rw [hA9] at cn
              have HNX : Hid (∀ T, T = hAt l (j + 1) → (A (j + 1) < 0 ∨ A (j + 1) = T) → URel cs l (.slice (some ⟨g2, o2, none⟩) l.length cu) hi st w (.int .i64 (max top (max (hAt l j) (hAt l (j + 1))))) (.int .i64 (stS cs l (j + 1))) (.int .i64 ((j + 1 : Nat) : Int)) (wI.setCell ⟨w.heap.size + 1, j + 1, none⟩ (.int .i64 T))) := fun T hTe hn => by
                rw [hTe] at hn ⊢
                exact ⟨j + 1, _, _, rfl, by omega, rfl, rfl, hI.step hjx (by simp [tk]; omega) (by simp [isG]) hn, hT.step hjx (by simp), by omega, hm9.set _ _⟩
              have hnm : 0 ≤ A (j + 1) → A (j + 1) ≠ hAt l (j + 1) → ¬ WellV l := fun q1 q2 => hI.not_met (by omega) q1 q2
              by_cases hB0 : 0 ≤ A (j + 1)
              · by_cases hBT : A (j + 1) = hAt l (j + 1)
                · have HN := hidv (HNX.out _ rfl (.inr hBT))
                  rw [hBT] at cn
                  clear HNX hnm hnot hbB hB0 hBT hA9 hm9 
                  clear hI hT hm hmI HC HCU HIE HHI HST HTO HOK bI hxI hjx hE hk
                  generalize hAt l (j + 1) = h1 at *
                  generalize stS cs l (j + 1) = s1 at *
                  generalize hAt l j = hh at *
                  generalize stS cs l j = ss at *
                  subst hh1'
                  go_wp2_with (go_at_call 59; refine (most_any _ _ _).mono ?_; rintro e w9 ⟨rfl, rfl⟩)
                  go_roundw
                  case rel => exact urel_to HN.out (by omega) (by omega) (by omega)
                  case measure => simp [intOf]; omega
                · have HNW := hidv (useT_no (cs := cs) (hnm hB0 hBT))
                  have HB := hidv hm9.bel
                  have hne : (A (j + 1) == hAt l j) = false := beq_eq_false_iff_ne.2 (fun e => hBT (e.trans hh1'.symm))
                  have hnn : (A (j + 1) != hAt l j) = true := by simpa using hne
                  clear HNX hnm hnot hBT hA9 hm9 
                  clear hI hT hm hmI HC HCU HIE HHI HST HTO HOK bI hxI hjx hE hk
                  generalize A (j + 1) = B at *
                  generalize hAt l (j + 1) = h1 at *
                  generalize stS cs l (j + 1) = s1 at *
                  generalize hAt l j = hh at *
                  generalize stS cs l j = ss at *
                  go_wp2_with (go_at_call 59; refine (most_any _ _ _).mono ?_; rintro e w9 ⟨rfl, rfl⟩)
                  exact bodyPost_ret (v := .tuple #[.int .i64 0, .int .i64 0, .bool false]) (by simp [results, Try.results38, go_sem]) rfl ⟨0, 0, false, rfl, HNW.out, HB.out⟩
              · have hBn : ¬ 0 ≤ A (j + 1) := hB0
                have HN := hidv (HNX.out _ rfl (.inl (by omega)))
                clear HNX hnm hnot hbB hB0 hA9 hm9 
                clear hI hT hm hmI HC HCU HIE HHI HST HTO HOK bI hxI hjx hE hk
                generalize A (j + 1) = B at *
                generalize hAt l (j + 1) = h1 at *
                generalize stS cs l (j + 1) = s1 at *
                generalize hAt l j = hh at *
                generalize stS cs l j = ss at *
                subst hh1'
                go_wp2_with (go_at_call 59; refine (most_any _ _ _).mono ?_; rintro e w9 ⟨rfl, rfl⟩)
                go_roundw
                case rel => exact urel_to HN.out (by omega) (by omega) (by omega)
                case measure => simp [intOf]; omega
          · obtain ⟨qa, qb⟩ := ins_call hE rfl
            dsimp only at qa qb
            obtain ⟨an, rfl⟩ : ∃ an : Nat, a = (an : Int) := ⟨a.toNat, by omega⟩
            have hanl : an < cs.length := by omega
            have ha0 : (0 : Int) ≤ (an : Int) := by omega
            have ha1 : (an : Int) < (cs.length : Int) := by omega
            obtain ⟨u, hu⟩ : ∃ u, cs[an]? = some u := ⟨cs[an], List.getElem?_eq_getElem hanl⟩
            obtain ⟨su, _, g3, o3, hpe3, k0, k1, k2⟩ := HC.out an _ hu
            subst hpe3
            have bI := (Below.refl wr.heap.size wr).alloc (Nat.le_refl _) (.cells #[.int .i64 8, .int .i64 (an : Int), .int .i64 b, .int .i64 t, .slice ps sp.length ck] 65)
            have hxI := heap_alloc_new wr (.cells #[.int .i64 8, .int .i64 (an : Int), .int .i64 b, .int .i64 t, .slice ps sp.length ck] 65)
            have z0 := (cell_of_row _ _ 0 _ _ _ hxI).trans rfl
            have z1 := (cell_of_row _ _ 1 _ _ _ hxI).trans rfl
            have z3 := (cell_of_row _ _ 3 _ _ _ hxI).trans rfl
            have hmI := hm.below bI
            generalize hwI : wr.alloc (.cells #[.int .i64 8, .int .i64 (an : Int), .int .i64 b, .int .i64 t, .slice ps sp.length ck] 65) = wI at *
            have cj := hmI.cell (i := j) (by omega)
            rw [hI.cur] at cj
            have q1 := (hmI.bel.cell (block_lt_of_cell k1)).trans k1
            have q2 := (hmI.bel.cell (block_lt_of_cell k2)).trans k2
            have v1 := HHI.out an
            obtain ⟨v2a, v2b⟩ := HST.out an
            have v3 := (alone_ins (HOK.out an _ hu)).2.1.1.1
            rw [if_pos rfl, Int.toNat_natCast, cd_at hu] at hs1
            rw [cd_at hu] at v1 v2a v2b
            have hTC := hT.stepC hjx rfl
            dsimp only at hTC
            rw [Int.toNat_natCast, cd_at hu] at hTC
            have hm9 := hmI
            have hA9 : A (j + 1) = A (j + 1) := rfl
            generalize u.high = uh at *
            generalize u.steps = us at *
            have hh1' : hAt l (j + 1) = hAt l j + 1 := by rw [hh1]; simp [eff] <;> omega
            clear hh1
            have cn := hm9.cell (i := j + 1) (by omega)
            have yn := hm9.frz (j + 1)
            rw [hA9] at cn
            have HNX : Hid (∀ T, T = hAt l (j + 1) → (A (j + 1) < 0 ∨ A (j + 1) = T) → URel cs l (.slice (some ⟨g2, o2, none⟩) l.length cu) hi st w (.int .i64 (max (max top (hAt l j + uh)) (max (hAt l j) (hAt l (j + 1))))) (.int .i64 (stS cs l (j + 1))) (.int .i64 ((j + 1 : Nat) : Int)) (wI.setCell ⟨w.heap.size + 1, j + 1, none⟩ (.int .i64 T))) := fun T hTe hn => by
              rw [hTe] at hn ⊢
              exact ⟨j + 1, _, _, rfl, by omega, rfl, rfl, hI.step hjx (by simp [tk]; omega) (by simp [isG]) hn, hTC, by omega, hm9.set _ _⟩
            have hnm : 0 ≤ A (j + 1) → A (j + 1) ≠ hAt l (j + 1) → ¬ WellV l := fun q1 q2 => hI.not_met (by omega) q1 q2
            by_cases hB0 : 0 ≤ A (j + 1)
            · by_cases hBT : A (j + 1) = hAt l (j + 1)
              · have HN := hidv (HNX.out _ rfl (.inr hBT))
                rw [hBT] at cn
                clear HNX hnm hnot hbB hB0 hBT hA9 hm9 hTC k0 k1 k2 hu
                clear hI hT hm hmI HC HCU HIE HHI HST HTO HOK bI hxI hjx hE hk
                generalize hAt l (j + 1) = h1 at *
                generalize stS cs l (j + 1) = s1 at *
                generalize hAt l j = hh at *
                generalize stS cs l j = ss at *
                subst hh1'
                go_wp2_with (go_at_call 59; refine (most_any _ _ _).mono ?_; rintro e w9 ⟨rfl, rfl⟩)
                go_roundw
                case rel => exact urel_to HN.out (by omega) (by omega) (by omega)
                case measure => simp [intOf]; omega
              · have HNW := hidv (useT_no (cs := cs) (hnm hB0 hBT))
                have HB := hidv hm9.bel
                have hne : (A (j + 1) == hAt l j + 1) = false := beq_eq_false_iff_ne.2 (fun e => hBT (e.trans hh1'.symm))
                have hnn : (A (j + 1) != hAt l j + 1) = true := by simpa using hne
                clear HNX hnm hnot hBT hA9 hm9 hTC k0 k1 k2 hu
                clear hI hT hm hmI HC HCU HIE HHI HST HTO HOK bI hxI hjx hE hk
                generalize A (j + 1) = B at *
                generalize hAt l (j + 1) = h1 at *
                generalize stS cs l (j + 1) = s1 at *
                generalize hAt l j = hh at *
                generalize stS cs l j = ss at *
                go_wp2_with (go_at_call 59; refine (most_any _ _ _).mono ?_; rintro e w9 ⟨rfl, rfl⟩)
                exact bodyPost_ret (v := .tuple #[.int .i64 0, .int .i64 0, .bool false]) (by simp [results, Try.results38, go_sem]) rfl ⟨0, 0, false, rfl, HNW.out, HB.out⟩
            · have hBn : ¬ 0 ≤ A (j + 1) := hB0
              have HN := hidv (HNX.out _ rfl (.inl (by omega)))
              clear HNX hnm hnot hbB hB0 hA9 hm9 hTC k0 k1 k2 hu
              clear hI hT hm hmI HC HCU HIE HHI HST HTO HOK bI hxI hjx hE hk
              generalize A (j + 1) = B at *
              generalize hAt l (j + 1) = h1 at *
              generalize stS cs l (j + 1) = s1 at *
              generalize hAt l j = hh at *
              generalize stS cs l j = ss at *
              subst hh1'
              go_wp2_with (go_at_call 59; refine (most_any _ _ _).mono ?_; rintro e w9 ⟨rfl, rfl⟩)
              go_roundw
              case rel => exact urel_to HN.out (by omega) (by omega) (by omega)
              case measure => simp [intOf]; omega
          · obtain ⟨qa, qb⟩ := ins_to hE (.inl rfl)
            dsimp only at qa qb
            obtain ⟨tn, rfl⟩ : ∃ tn : Nat, t = (tn : Int) := ⟨t.toNat, by omega⟩
            have bI := (Below.refl wr.heap.size wr).alloc (Nat.le_refl _) (.cells #[.int .i64 6, .int .i64 a, .int .i64 b, .int .i64 (tn : Int), .slice ps sp.length ck] 65)
            have hxI := heap_alloc_new wr (.cells #[.int .i64 6, .int .i64 a, .int .i64 b, .int .i64 (tn : Int), .slice ps sp.length ck] 65)
            have z0 := (cell_of_row _ _ 0 _ _ _ hxI).trans rfl
            have z1 := (cell_of_row _ _ 1 _ _ _ hxI).trans rfl
            have z3 := (cell_of_row _ _ 3 _ _ _ hxI).trans rfl
            have hmI := hm.below bI
            generalize hwI : wr.alloc (.cells #[.int .i64 6, .int .i64 a, .int .i64 b, .int .i64 (tn : Int), .slice ps sp.length ck] 65) = wI at *
            have cj := hmI.cell (i := j) (by omega)
            rw [hI.cur] at cj
            rw [if_neg (by omega)] at hs1
            have htl : tn < l.length + 1 := by omega
            have ht0 : (0 : Int) ≤ (tn : Int) := by omega
            have ht1 : (tn : Int) < (l.length : Int) + 1 := by omega
            have ct := hmI.cell (i := tn) htl
            have yt := hmI.frz tn
            have htA : A tn = -1 ∨ 0 ≤ A tn := by
              rcases hI.got tn (by omega) (by omega) with q | ⟨i, y, q1, _, _, _, q5⟩
              · exact .inl q
              · have := hI.pos i (by omega)
                omega
            have htB : A tn ≤ 3000 := by
              rcases hI.got tn (by omega) (by omega) with q | ⟨i, y, q1, _, _, _, q5⟩
              · omega
              · have := hAt_bd (l := l) i
                omega
            have hTG := hT.stepG hjx (.inl rfl) (by dsimp only; omega)
            have hm9 := hmI.set tn (hAt l j + 1)
            have hA9 : setA A tn (hAt l j + 1) (j + 1) = A (j + 1) := by unfold setA; rw [if_neg (by omega)]
            have hstG : (A tn < 0 ∨ A tn = hAt l j + 1) → (A (j + 1) < 0 ∨ A (j + 1) = hAt l (j + 1)) → UInv l (j + 1) (setA (setA A tn (hAt l j + 1)) (j + 1) (hAt l (j + 1))) := fun q1 q2 => hI.stepG hjx (by simp [tk]; omega) (.inl rfl) (by dsimp only; omega) q1 q2
            by_cases hT0 : 0 ≤ A tn
            · by_cases hTT : A tn = hAt l j + 1
              · rw [hTT] at ct
                have hstGq := hstG (.inr hTT)
                clear hstG htA htB hT0 hTT
                generalize hwG : wI.setCell ⟨w.heap.size + 1, tn, none⟩ (.int .i64 (hAt l j + 1)) = wG at *
                have hh1' : hAt l (j + 1) = hAt l j := by rw [hh1]; simp [eff] <;> omega
                clear hh1
                have cn := hm9.cell (i := j + 1) (by omega)
                have yn := hm9.frz (j + 1)
                rw [hA9] at cn
                have HNX : Hid (∀ T, T = hAt l (j + 1) → (A (j + 1) < 0 ∨ A (j + 1) = T) → URel cs l (.slice (some ⟨g2, o2, none⟩) l.length cu) hi st w (.int .i64 (max (max top (hAt l j + 1)) (max (hAt l j) (hAt l (j + 1))))) (.int .i64 (stS cs l (j + 1))) (.int .i64 ((j + 1 : Nat) : Int)) (wG.setCell ⟨w.heap.size + 1, j + 1, none⟩ (.int .i64 T))) := fun T hTe hn => by
                  rw [hTe] at hn ⊢
                  exact ⟨j + 1, _, _, rfl, by omega, rfl, rfl, hstGq hn, hTG, by omega, hm9.set _ _⟩
                have hnm : 0 ≤ A (j + 1) → A (j + 1) ≠ hAt l (j + 1) → ¬ WellV l := fun q1 q2 => hI.not_met (by omega) q1 q2
                by_cases hB0 : 0 ≤ A (j + 1)
                · by_cases hBT : A (j + 1) = hAt l (j + 1)
                  · have HN := hidv (HNX.out _ rfl (.inr hBT))
                    rw [hBT] at cn
                    clear HNX hnm hnot hbB hB0 hBT hA9 hm9 hTG hstGq
                    clear hI hT hm hmI HC HCU HIE HHI HST HTO HOK bI hxI hjx hE hk
                    generalize hAt l (j + 1) = h1 at *
                    generalize stS cs l (j + 1) = s1 at *
                    generalize hAt l j = hh at *
                    generalize stS cs l j = ss at *
                    subst hh1'
                    go_wp2_with (go_at_call 59; refine (most_any _ _ _).mono ?_; rintro e w9 ⟨rfl, rfl⟩)
                    go_roundw
                    case rel => exact urel_to HN.out (by omega) (by omega) (by omega)
                    case measure => simp [intOf]; omega
                  · have HNW := hidv (useT_no (cs := cs) (hnm hB0 hBT))
                    have HB := hidv hm9.bel
                    have hne : (A (j + 1) == hAt l j) = false := beq_eq_false_iff_ne.2 (fun e => hBT (e.trans hh1'.symm))
                    have hnn : (A (j + 1) != hAt l j) = true := by simpa using hne
                    clear HNX hnm hnot hBT hA9 hm9 hTG hstGq
                    clear hI hT hm hmI HC HCU HIE HHI HST HTO HOK bI hxI hjx hE hk
                    generalize A (j + 1) = B at *
                    generalize hAt l (j + 1) = h1 at *
                    generalize stS cs l (j + 1) = s1 at *
                    generalize hAt l j = hh at *
                    generalize stS cs l j = ss at *
                    go_wp2_with (go_at_call 59; refine (most_any _ _ _).mono ?_; rintro e w9 ⟨rfl, rfl⟩)
                    exact bodyPost_ret (v := .tuple #[.int .i64 0, .int .i64 0, .bool false]) (by simp [results, Try.results38, go_sem]) rfl ⟨0, 0, false, rfl, HNW.out, HB.out⟩
                · have hBn : ¬ 0 ≤ A (j + 1) := hB0
                  have HN := hidv (HNX.out _ rfl (.inl (by omega)))
                  clear HNX hnm hnot hbB hB0 hA9 hm9 hTG hstGq
                  clear hI hT hm hmI HC HCU HIE HHI HST HTO HOK bI hxI hjx hE hk
                  generalize A (j + 1) = B at *
                  generalize hAt l (j + 1) = h1 at *
                  generalize stS cs l (j + 1) = s1 at *
                  generalize hAt l j = hh at *
                  generalize stS cs l j = ss at *
                  subst hh1'
                  go_wp2_with (go_at_call 59; refine (most_any _ _ _).mono ?_; rintro e w9 ⟨rfl, rfl⟩)
                  go_roundw
                  case rel => exact urel_to HN.out (by omega) (by omega) (by omega)
                  case measure => simp [intOf]; omega

              · have HNW := hidv (useT_no (cs := cs) (hI.not_two hjx (.inl rfl) ⟨by dsimp only; omega, by dsimp only; omega⟩ hT0 hTT))
                have HB := hidv hmI.bel
                have hne : (A tn == hAt l j + 1) = false := beq_eq_false_iff_ne.2 hTT
                have hnn : (A tn != hAt l j + 1) = true := by simpa using hne
                clear hTG hm9 hA9 hstG hTT hnot hbB
                clear hI hT hm hmI HC HCU HIE HHI HST HTO HOK bI hxI hjx hE hk
                generalize A tn = Bt at *
                generalize hAt l (j + 1) = h1 at *
                generalize stS cs l (j + 1) = s1 at *
                generalize hAt l j = hh at *
                generalize stS cs l j = ss at *
                go_wp2_with (go_at_call 59; refine (most_any _ _ _).mono ?_; rintro e w9 ⟨rfl, rfl⟩)
                exact bodyPost_ret (v := .tuple #[.int .i64 0, .int .i64 0, .bool false]) (by simp [results, Try.results38, go_sem]) rfl ⟨0, 0, false, rfl, HNW.out, HB.out⟩
            · have hTn : ¬ 0 ≤ A tn := hT0
              have hstGq := hstG (.inl (by omega))
              clear hstG htA htB hT0
              generalize A tn = Bt at *
              generalize hwG : wI.setCell ⟨w.heap.size + 1, tn, none⟩ (.int .i64 (hAt l j + 1)) = wG at *
              have hh1' : hAt l (j + 1) = hAt l j := by rw [hh1]; simp [eff] <;> omega
              clear hh1
              have cn := hm9.cell (i := j + 1) (by omega)
              have yn := hm9.frz (j + 1)
              rw [hA9] at cn
              have HNX : Hid (∀ T, T = hAt l (j + 1) → (A (j + 1) < 0 ∨ A (j + 1) = T) → URel cs l (.slice (some ⟨g2, o2, none⟩) l.length cu) hi st w (.int .i64 (max (max top (hAt l j + 1)) (max (hAt l j) (hAt l (j + 1))))) (.int .i64 (stS cs l (j + 1))) (.int .i64 ((j + 1 : Nat) : Int)) (wG.setCell ⟨w.heap.size + 1, j + 1, none⟩ (.int .i64 T))) := fun T hTe hn => by
                rw [hTe] at hn ⊢
                exact ⟨j + 1, _, _, rfl, by omega, rfl, rfl, hstGq hn, hTG, by omega, hm9.set _ _⟩
              have hnm : 0 ≤ A (j + 1) → A (j + 1) ≠ hAt l (j + 1) → ¬ WellV l := fun q1 q2 => hI.not_met (by omega) q1 q2
              by_cases hB0 : 0 ≤ A (j + 1)
              · by_cases hBT : A (j + 1) = hAt l (j + 1)
                · have HN := hidv (HNX.out _ rfl (.inr hBT))
                  rw [hBT] at cn
                  clear HNX hnm hnot hbB hB0 hBT hA9 hm9 hTG hstGq
                  clear hI hT hm hmI HC HCU HIE HHI HST HTO HOK bI hxI hjx hE hk
                  generalize hAt l (j + 1) = h1 at *
                  generalize stS cs l (j + 1) = s1 at *
                  generalize hAt l j = hh at *
                  generalize stS cs l j = ss at *
                  subst hh1'
                  go_wp2_with (go_at_call 59; refine (most_any _ _ _).mono ?_; rintro e w9 ⟨rfl, rfl⟩)
                  go_roundw
                  case rel => exact urel_to HN.out (by omega) (by omega) (by omega)
                  case measure => simp [intOf]; omega
                · have HNW := hidv (useT_no (cs := cs) (hnm hB0 hBT))
                  have HB := hidv hm9.bel
                  have hne : (A (j + 1) == hAt l j) = false := beq_eq_false_iff_ne.2 (fun e => hBT (e.trans hh1'.symm))
                  have hnn : (A (j + 1) != hAt l j) = true := by simpa using hne
                  clear HNX hnm hnot hBT hA9 hm9 hTG hstGq
                  clear hI hT hm hmI HC HCU HIE HHI HST HTO HOK bI hxI hjx hE hk
                  generalize A (j + 1) = B at *
                  generalize hAt l (j + 1) = h1 at *
                  generalize stS cs l (j + 1) = s1 at *
                  generalize hAt l j = hh at *
                  generalize stS cs l j = ss at *
                  go_wp2_with (go_at_call 59; refine (most_any _ _ _).mono ?_; rintro e w9 ⟨rfl, rfl⟩)
                  exact bodyPost_ret (v := .tuple #[.int .i64 0, .int .i64 0, .bool false]) (by simp [results, Try.results38, go_sem]) rfl ⟨0, 0, false, rfl, HNW.out, HB.out⟩
              · have hBn : ¬ 0 ≤ A (j + 1) := hB0
                have HN := hidv (HNX.out _ rfl (.inl (by omega)))
                clear HNX hnm hnot hbB hB0 hA9 hm9 hTG hstGq
                clear hI hT hm hmI HC HCU HIE HHI HST HTO HOK bI hxI hjx hE hk
                generalize A (j + 1) = B at *
                generalize hAt l (j + 1) = h1 at *
                generalize stS cs l (j + 1) = s1 at *
                generalize hAt l j = hh at *
                generalize stS cs l j = ss at *
                subst hh1'
                go_wp2_with (go_at_call 59; refine (most_any _ _ _).mono ?_; rintro e w9 ⟨rfl, rfl⟩)
                go_roundw
                case rel => exact urel_to HN.out (by omega) (by omega) (by omega)
                case measure => simp [intOf]; omega
          · obtain ⟨qa, qb⟩ := ins_to hE (.inr rfl)
            dsimp only at qa qb
            obtain ⟨tn, rfl⟩ : ∃ tn : Nat, t = (tn : Int) := ⟨t.toNat, by omega⟩
            have bI := (Below.refl wr.heap.size wr).alloc (Nat.le_refl _) (.cells #[.int .i64 7, .int .i64 a, .int .i64 b, .int .i64 (tn : Int), .slice ps sp.length ck] 65)
            have hxI := heap_alloc_new wr (.cells #[.int .i64 7, .int .i64 a, .int .i64 b, .int .i64 (tn : Int), .slice ps sp.length ck] 65)
            have z0 := (cell_of_row _ _ 0 _ _ _ hxI).trans rfl
            have z1 := (cell_of_row _ _ 1 _ _ _ hxI).trans rfl
            have z3 := (cell_of_row _ _ 3 _ _ _ hxI).trans rfl
            have hmI := hm.below bI
            generalize hwI : wr.alloc (.cells #[.int .i64 7, .int .i64 a, .int .i64 b, .int .i64 (tn : Int), .slice ps sp.length ck] 65) = wI at *
            have cj := hmI.cell (i := j) (by omega)
            rw [hI.cur] at cj
            rw [if_neg (by omega)] at hs1
            have htl : tn < l.length + 1 := by omega
            have ht0 : (0 : Int) ≤ (tn : Int) := by omega
            have ht1 : (tn : Int) < (l.length : Int) + 1 := by omega
            have ct := hmI.cell (i := tn) htl
            have yt := hmI.frz tn
            have htA : A tn = -1 ∨ 0 ≤ A tn := by
              rcases hI.got tn (by omega) (by omega) with q | ⟨i, y, q1, _, _, _, q5⟩
              · exact .inl q
              · have := hI.pos i (by omega)
                omega
            have htB : A tn ≤ 3000 := by
              rcases hI.got tn (by omega) (by omega) with q | ⟨i, y, q1, _, _, _, q5⟩
              · omega
              · have := hAt_bd (l := l) i
                omega
            have hTG := hT.stepG hjx (.inr rfl) (by dsimp only; omega)
            have hm9 := hmI.set tn (hAt l j + 1)
            have hA9 : setA A tn (hAt l j + 1) (j + 1) = A (j + 1) := by unfold setA; rw [if_neg (by omega)]
            have hstG : (A tn < 0 ∨ A tn = hAt l j + 1) → (A (j + 1) < 0 ∨ A (j + 1) = hAt l (j + 1)) → UInv l (j + 1) (setA (setA A tn (hAt l j + 1)) (j + 1) (hAt l (j + 1))) := fun q1 q2 => hI.stepG hjx (by simp [tk]; omega) (.inr rfl) (by dsimp only; omega) q1 q2
            by_cases hT0 : 0 ≤ A tn
            · by_cases hTT : A tn = hAt l j + 1
              · rw [hTT] at ct
                have hstGq := hstG (.inr hTT)
                clear hstG htA htB hT0 hTT
                generalize hwG : wI.setCell ⟨w.heap.size + 1, tn, none⟩ (.int .i64 (hAt l j + 1)) = wG at *
                have hh1' : hAt l (j + 1) = hAt l j := by rw [hh1]; simp [eff] <;> omega
                clear hh1
                have cn := hm9.cell (i := j + 1) (by omega)
                have yn := hm9.frz (j + 1)
                rw [hA9] at cn
                have HNX : Hid (∀ T, T = hAt l (j + 1) → (A (j + 1) < 0 ∨ A (j + 1) = T) → URel cs l (.slice (some ⟨g2, o2, none⟩) l.length cu) hi st w (.int .i64 (max (max top (hAt l j + 1)) (max (hAt l j) (hAt l (j + 1))))) (.int .i64 (stS cs l (j + 1))) (.int .i64 ((j + 1 : Nat) : Int)) (wG.setCell ⟨w.heap.size + 1, j + 1, none⟩ (.int .i64 T))) := fun T hTe hn => by
                  rw [hTe] at hn ⊢
                  exact ⟨j + 1, _, _, rfl, by omega, rfl, rfl, hstGq hn, hTG, by omega, hm9.set _ _⟩
                have hnm : 0 ≤ A (j + 1) → A (j + 1) ≠ hAt l (j + 1) → ¬ WellV l := fun q1 q2 => hI.not_met (by omega) q1 q2
                by_cases hB0 : 0 ≤ A (j + 1)
                · by_cases hBT : A (j + 1) = hAt l (j + 1)
                  · have HN := hidv (HNX.out _ rfl (.inr hBT))
                    rw [hBT] at cn
                    clear HNX hnm hnot hbB hB0 hBT hA9 hm9 hTG hstGq
                    clear hI hT hm hmI HC HCU HIE HHI HST HTO HOK bI hxI hjx hE hk
                    generalize hAt l (j + 1) = h1 at *
                    generalize stS cs l (j + 1) = s1 at *
                    generalize hAt l j = hh at *
                    generalize stS cs l j = ss at *
                    subst hh1'
                    go_wp2_with (go_at_call 59; refine (most_any _ _ _).mono ?_; rintro e w9 ⟨rfl, rfl⟩)
                    go_roundw
                    case rel => exact urel_to HN.out (by omega) (by omega) (by omega)
                    case measure => simp [intOf]; omega
                  · have HNW := hidv (useT_no (cs := cs) (hnm hB0 hBT))
                    have HB := hidv hm9.bel
                    have hne : (A (j + 1) == hAt l j) = false := beq_eq_false_iff_ne.2 (fun e => hBT (e.trans hh1'.symm))
                    have hnn : (A (j + 1) != hAt l j) = true := by simpa using hne
                    clear HNX hnm hnot hBT hA9 hm9 hTG hstGq
                    clear hI hT hm hmI HC HCU HIE HHI HST HTO HOK bI hxI hjx hE hk
                    generalize A (j + 1) = B at *
                    generalize hAt l (j + 1) = h1 at *
                    generalize stS cs l (j + 1) = s1 at *
                    generalize hAt l j = hh at *
                    generalize stS cs l j = ss at *
                    go_wp2_with (go_at_call 59; refine (most_any _ _ _).mono ?_; rintro e w9 ⟨rfl, rfl⟩)
                    exact bodyPost_ret (v := .tuple #[.int .i64 0, .int .i64 0, .bool false]) (by simp [results, Try.results38, go_sem]) rfl ⟨0, 0, false, rfl, HNW.out, HB.out⟩
                · have hBn : ¬ 0 ≤ A (j + 1) := hB0
                  have HN := hidv (HNX.out _ rfl (.inl (by omega)))
                  clear HNX hnm hnot hbB hB0 hA9 hm9 hTG hstGq
                  clear hI hT hm hmI HC HCU HIE HHI HST HTO HOK bI hxI hjx hE hk
                  generalize A (j + 1) = B at *
                  generalize hAt l (j + 1) = h1 at *
                  generalize stS cs l (j + 1) = s1 at *
                  generalize hAt l j = hh at *
                  generalize stS cs l j = ss at *
                  subst hh1'
                  go_wp2_with (go_at_call 59; refine (most_any _ _ _).mono ?_; rintro e w9 ⟨rfl, rfl⟩)
                  go_roundw
                  case rel => exact urel_to HN.out (by omega) (by omega) (by omega)
                  case measure => simp [intOf]; omega

              · have HNW := hidv (useT_no (cs := cs) (hI.not_two hjx (.inr rfl) ⟨by dsimp only; omega, by dsimp only; omega⟩ hT0 hTT))
                have HB := hidv hmI.bel
                have hne : (A tn == hAt l j + 1) = false := beq_eq_false_iff_ne.2 hTT
                have hnn : (A tn != hAt l j + 1) = true := by simpa using hne
                clear hTG hm9 hA9 hstG hTT hnot hbB
                clear hI hT hm hmI HC HCU HIE HHI HST HTO HOK bI hxI hjx hE hk
                generalize A tn = Bt at *
                generalize hAt l (j + 1) = h1 at *
                generalize stS cs l (j + 1) = s1 at *
                generalize hAt l j = hh at *
                generalize stS cs l j = ss at *
                go_wp2_with (go_at_call 59; refine (most_any _ _ _).mono ?_; rintro e w9 ⟨rfl, rfl⟩)
                exact bodyPost_ret (v := .tuple #[.int .i64 0, .int .i64 0, .bool false]) (by simp [results, Try.results38, go_sem]) rfl ⟨0, 0, false, rfl, HNW.out, HB.out⟩
            · have hTn : ¬ 0 ≤ A tn := hT0
              have hstGq := hstG (.inl (by omega))
              clear hstG htA htB hT0
              generalize A tn = Bt at *
              generalize hwG : wI.setCell ⟨w.heap.size + 1, tn, none⟩ (.int .i64 (hAt l j + 1)) = wG at *
              have hh1' : hAt l (j + 1) = hAt l j := by rw [hh1]; simp [eff] <;> omega
              clear hh1
              have cn := hm9.cell (i := j + 1) (by omega)
              have yn := hm9.frz (j + 1)
              rw [hA9] at cn
              have HNX : Hid (∀ T, T = hAt l (j + 1) → (A (j + 1) < 0 ∨ A (j + 1) = T) → URel cs l (.slice (some ⟨g2, o2, none⟩) l.length cu) hi st w (.int .i64 (max (max top (hAt l j + 1)) (max (hAt l j) (hAt l (j + 1))))) (.int .i64 (stS cs l (j + 1))) (.int .i64 ((j + 1 : Nat) : Int)) (wG.setCell ⟨w.heap.size + 1, j + 1, none⟩ (.int .i64 T))) := fun T hTe hn => by
                rw [hTe] at hn ⊢
                exact ⟨j + 1, _, _, rfl, by omega, rfl, rfl, hstGq hn, hTG, by omega, hm9.set _ _⟩
              have hnm : 0 ≤ A (j + 1) → A (j + 1) ≠ hAt l (j + 1) → ¬ WellV l := fun q1 q2 => hI.not_met (by omega) q1 q2
              by_cases hB0 : 0 ≤ A (j + 1)
              · by_cases hBT : A (j + 1) = hAt l (j + 1)
                · have HN := hidv (HNX.out _ rfl (.inr hBT))
                  rw [hBT] at cn
                  clear HNX hnm hnot hbB hB0 hBT hA9 hm9 hTG hstGq
                  clear hI hT hm hmI HC HCU HIE HHI HST HTO HOK bI hxI hjx hE hk
                  generalize hAt l (j + 1) = h1 at *
                  generalize stS cs l (j + 1) = s1 at *
                  generalize hAt l j = hh at *
                  generalize stS cs l j = ss at *
                  subst hh1'
                  go_wp2_with (go_at_call 59; refine (most_any _ _ _).mono ?_; rintro e w9 ⟨rfl, rfl⟩)
                  go_roundw
                  case rel => exact urel_to HN.out (by omega) (by omega) (by omega)
                  case measure => simp [intOf]; omega
                · have HNW := hidv (useT_no (cs := cs) (hnm hB0 hBT))
                  have HB := hidv hm9.bel
                  have hne : (A (j + 1) == hAt l j) = false := beq_eq_false_iff_ne.2 (fun e => hBT (e.trans hh1'.symm))
                  have hnn : (A (j + 1) != hAt l j) = true := by simpa using hne
                  clear HNX hnm hnot hBT hA9 hm9 hTG hstGq
                  clear hI hT hm hmI HC HCU HIE HHI HST HTO HOK bI hxI hjx hE hk
                  generalize A (j + 1) = B at *
                  generalize hAt l (j + 1) = h1 at *
                  generalize stS cs l (j + 1) = s1 at *
                  generalize hAt l j = hh at *
                  generalize stS cs l j = ss at *
                  go_wp2_with (go_at_call 59; refine (most_any _ _ _).mono ?_; rintro e w9 ⟨rfl, rfl⟩)
                  exact bodyPost_ret (v := .tuple #[.int .i64 0, .int .i64 0, .bool false]) (by simp [results, Try.results38, go_sem]) rfl ⟨0, 0, false, rfl, HNW.out, HB.out⟩
              · have hBn : ¬ 0 ≤ A (j + 1) := hB0
                have HN := hidv (HNX.out _ rfl (.inl (by omega)))
                clear HNX hnm hnot hbB hB0 hA9 hm9 hTG hstGq
                clear hI hT hm hmI HC HCU HIE HHI HST HTO HOK bI hxI hjx hE hk
                generalize A (j + 1) = B at *
                generalize hAt l (j + 1) = h1 at *
                generalize stS cs l (j + 1) = s1 at *
                generalize hAt l j = hh at *
                generalize stS cs l j = ss at *
                subst hh1'
                go_wp2_with (go_at_call 59; refine (most_any _ _ _).mono ?_; rintro e w9 ⟨rfl, rfl⟩)
                go_roundw
                case rel => exact urel_to HN.out (by omega) (by omega) (by omega)
                case measure => simp [intOf]; omega
        · have hlt' : ¬ (j : Int) < (l.length : Int) := by omega
          have ej : j = l.length := by omega
          subst ej
          have hc9 := hm.cell (i := l.length) (by omega)
          have HU : Hid (∀ ok : Bool, ok = decide (A l.length = 1) → UseT cs l top (stS cs l l.length) ok) := fun ok hokk => by
            subst hokk
            have hf := hI.fin HTO.out
            refine ⟨?_, fun e => ?_⟩
            · rw [← hf]
              simp
            · have hw := hf.1 (of_decide_eq_true e)
              exact ⟨hT.fin hw, rfl⟩
          have HB := hidv hm.bel
          clear hI hT hm HC HCU HIE HHI HST HTO HOK
          generalize A l.length = q at *
          generalize stS cs l l.length = ss at *
          have hl2 : (l.length : Int) < (l.length : Int) + 1 := by omega
          go_wp2_with fail
          go_quiet (fail)
          go_wp2_with fail
          exact bodyPost_ret (v := .tuple #[.int .i64 top, .int .i64 ss, .bool (q == 1)]) (by simp [results, Try.results38, go_sem]) rfl ⟨_, _, _, rfl, HU.out _ rfl, below_drewN HB.out nq⟩
end Go.Proofs.Ytaeengpppehlfaa
