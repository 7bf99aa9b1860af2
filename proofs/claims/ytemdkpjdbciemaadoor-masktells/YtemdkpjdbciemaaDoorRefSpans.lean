/- What slotref2.Spans comes to: the spans of a mask, minute by minute. -/
import Derived.Test.YtemdkpjdbciemaaDoorRefHas
import Derived.Test.YtemdkpjdbciemaaDoorSpansA
namespace Go.Proofs.YtemdkpjdbciemaaDoor
open Go.RowKit Msk

theorem flat_len : ∀ l : List (Int × Int), (flat l).length = l.length * 2
  | [] => rfl
  | s :: l => by simp [flat, flat_len l]; omega
/-- The last span of a row that is owned: its end can be put anew. -/
theorem own_put {w : World} {base : Nat} {v : Value} {l : List (Int × Int)} {a b : Int} (h : w.ownsRow base 39 2 v (l.length + 1) (flat (l ++ [(a, b)]))) :
    ∃ g cap : Nat, v = .slice (some ⟨g, 0, none⟩) (l.length + 1) cap ∧ base ≤ g ∧ (∃ cur, w.heap[g]? = some (.cells cur 39 (0, 0))) ∧ w.cell? ⟨g, l.length * 2 + 1, none⟩ = some (.int .i64 b) ∧
      ∀ b' : Int, (w.setCell ⟨g, l.length * 2 + 1, none⟩ (.int .i64 b')).ownsRow base 39 2 v (l.length + 1) (flat (l ++ [(a, b')])) := by
  obtain ⟨h1, h2⟩ := h
  rcases h2 with ⟨_, h3⟩ | ⟨g, cap, cur, hv, hg, hh, h4, h5, h6, h7⟩
  · omega
  · rw [flat_snoc] at h7
    have hl := flat_len l
    refine ⟨g, cap, hv, hg, ⟨cur, hh⟩, ?_, fun b' => ⟨by rw [flat_len]; simp, .inr ⟨g, cap, _, hv, hg, heap_setCell_same _ _ _ _ _ _ hh, h4, h5, by simpa using h6, ?_⟩⟩⟩
    · rw [cell_of_row _ _ _ _ _ _ hh]
      have e : (cur.toList.take ((l.length + 1) * 2))[l.length * 2 + 1]? = some (.int .i64 b) := by
        rw [h7, List.getElem?_append_right (by omega), show l.length * 2 + 1 - (flat l).length = 1 by omega]; rfl
      rw [List.getElem?_take] at e
      split at e
      · simpa using e
      · cases e
    · rw [Array.toList_setIfInBounds, List.take_set, h7, flat_snoc, List.set_append_right _ _ (by omega), show l.length * 2 + 1 - (flat l).length = 1 by omega]
      rfl
theorem rs_snoc (f : Nat → Bool) (k : Nat) (hf : f k = true) (hp : k = 0 ∨ f (k - 1) = false) : rs f (k + 1) = rs f k ++ [((k : Int), (k : Int) + 1)] := by
  rw [rs, if_pos hf, if_neg]
  rintro ⟨h1, h2⟩
  rcases hp with hp | hp
  · exact h1 hp
  · rw [hp] at h2; cases h2
theorem rs_more (f : Nat → Bool) (k : Nat) (hf : f k = true) (h0 : k ≠ 0) (hp : f (k - 1) = true) : ∃ l a b, rs f k = l ++ [(a, b)] ∧ rs f (k + 1) = l ++ [(a, (k : Int) + 1)] := by
  have hne : ∃ l s, rs f k = l ++ [s] := by
    obtain ⟨j, rfl⟩ : ∃ j, k = j + 1 := ⟨k - 1, by omega⟩
    have hp' : f j = true := by simpa using hp
    rw [rs, if_pos hp']
    split
    · exact ⟨_, _, rfl⟩
    · exact ⟨_, _, rfl⟩
  obtain ⟨l, ⟨a, b⟩, e⟩ := hne
  refine ⟨l, a, b, e, ?_⟩
  rw [rs, if_pos hf, if_pos ⟨h0, hp⟩, e]
  simp

set_option maxRecDepth 10000 in
set_option maxHeartbeats 400000 in
theorem spans_ref (f : Nat → Bool) (w : World) :
    Calls Tryd.prog 26 #[.agg (mv f)] w fun e w' => (∃ v, e = .returned v ∧ Row w' v (rs f 1440)) ∧ Below w.heap.size w w' := by
  obtain ⟨i0, hi, hz0, hz1, hz2⟩ := info_parts info33
  have h1 : (w.alloc (.cells (mv f) 37)).heap[w.heap.size]? = some (.cells (mv f) 37 (0, 0)) := by (repeat (first | refine blk_old _ _ _ (by simp only [size_alloc]; omega) ?_ | exact blk_new _ _ _ (by first | rfl | simp only [size_alloc])))
  have hb0 : Below w.heap.size w (w.alloc (.cells (mv f) 37)) := (Below.refl _ _).alloc (Nat.le_refl _) _
  go_enter Tryd.func26, Tryd.ntmps26
  go_wp2
  go_loopw [3, 4] (fun v i wr => ∃ k : Nat, k ≤ 1440 ∧ i = .int .i64 k ∧ (rs f k).length ≤ k ∧ wr.ownsRow w.heap.size 39 2 v (rs f k).length (flat (rs f k)) ∧ wr.heap[w.heap.size]? = some (.cells (mv f) 37 (0, 0)) ∧ Below w.heap.size w wr) (fun _ i _ => 1440 - (intOf i).toNat)
  case atStart => exact ⟨0, by omega, rfl, by simp [rs], World.ownsRow_nil _ _ _ _, h1, hb0⟩
  case round =>
    obtain ⟨k, hk, rfl, hlen, hown, hm, hbel⟩ := hrel
    clear h1 hb0
    by_cases hlt : k < 1440
    · have hlt' : (k : Int) < 1440 := by omega
      have hc : ∀ w, Calls Tryd.prog 53 #[.agg (mv f), .int .i64 (k : Int)] w fun e w' => e = .returned (.bool (f k)) ∧ Below w.heap.size w w' := fun w => by
        have := has_ref f (k : Int) w
        rw [hasB_nat, decide_eq_true hlt, Bool.true_and] at this
        exact this
      have hd : ∀ w, Calls Tryd.prog 53 #[.agg (mv f), .int .i64 ((k : Int) - 1)] w fun e w' => e = .returned (.bool (hasB f ((k : Int) - 1))) ∧ Below w.heap.size w w' := fun w => has_ref f _ w
      have q1 : IntKind.i64.wrap ((k : Int) - 1) = (k : Int) - 1 := by rw [IntKind.wrap_i64]; omega
      have q2 : IntKind.i64.wrap ((k : Int) + 1) = (k : Int) + 1 := by rw [IntKind.wrap_i64]; omega
      cases hf : f k with
      | false =>
        rw [hf] at hc
        have hrs : rs f (k + 1) = rs f k := by rw [rs, hf]; simp
        have HR : Hid (rs f (k + 1) = rs f k) := hrs
        clear hrs hf hd
        go_wp2_with (first
          | (refine wpList_load_row rfl 37 _ rfl _ rfl _ _ _ _ hm maskType rfl (maskSize _) ?_)
          | (go_at_call 53; have _t := hm; refine (hc _).mono ?_; rintro e w1 ⟨rfl, hb1⟩; have hm1 := (hb1.block _ (lt_of_block hm)).trans hm; have hown1 := owns_below hown hb1; have hbel1 := hbel.trans (hb1.mono hbel.size); clear _t hm hown hbel hb1)
          | (refine wpList_load_row rfl 37 _ rfl _ rfl _ _ _ _ hm1 maskType rfl (maskSize _) ?_)
          | (go_at_call 53; have _t := hm1; refine (hc _).mono ?_; rintro e w2 ⟨rfl, hb2⟩; have hm2 := (hb2.block _ (lt_of_block hm1)).trans hm1; have hown2 := owns_below hown1 hb2; have hbel2 := hbel1.trans (hb2.mono hbel1.size); clear _t hm1 hown1 hbel1 hb2))
        go_roundw
        case rel => exact ⟨k + 1, by omega, by go_num, by rw [HR.out]; omega, by rw [HR.out]; exact hown2, hm2, hbel2⟩
        case measure => simp [intOf]; omega
      | true =>
        rw [hf] at hc
        cases hp : hasB f ((k : Int) - 1) with
        | true =>
          rw [hp] at hd
          obtain ⟨j0, j1⟩ : k ≠ 0 ∧ f (k - 1) = true := by
            unfold hasB at hp
            simp only [Bool.and_eq_true, decide_eq_true_eq] at hp
            have e : ((k : Int) - 1).toNat = k - 1 := by omega
            rw [e] at hp
            exact ⟨by omega, hp.2⟩
          obtain ⟨l, a, b, e1, e2⟩ := rs_more f k hf j0 j1
          rw [e1] at hown hlen
          have hl1 : l.length + 1 ≤ k := by simpa using hlen
          have hown0 : wr.ownsRow w.heap.size 39 2 u3 (l.length + 1) (flat (l ++ [(a, b)])) := by simpa using hown
          have HR : Hid (rs f (k + 1) = l ++ [(a, (k : Int) + 1)]) := e2
          clear e1 e2 hf hp hlen hown j0 j1
          go_wp2_with (first
            | (refine wpList_load_row rfl 37 _ rfl _ rfl _ _ _ _ hm maskType rfl (maskSize _) ?_)
            | (go_at_call 53; have _t := hm; refine (hc _).mono ?_; rintro e w1 ⟨rfl, hb1⟩; have hm1 := (hb1.block _ (lt_of_block hm)).trans hm; have hown1 := owns_below hown0 hb1; have hbel1 := hbel.trans (hb1.mono hbel.size); clear _t hm hown0 hbel hb1)
            | (refine load_g (by rfl) _ (by rfl) _ (by rfl) f (by assumption) ?_)
            | (go_at_call 53; have _t := hm1; refine (hd _).mono ?_; rintro e w2 ⟨rfl, hb2⟩; have hm2 := (hb2.block _ (lt_of_block hm1)).trans hm1; have hown2 := owns_below hown1 hb2; have hbel2 := hbel1.trans (hb2.mono hbel1.size); clear _t hm1 hown1 hbel1 hb2 hd)
            | (refine wpList_load_row rfl 37 _ rfl _ rfl _ _ _ _ hm2 maskType rfl (maskSize _) ?_)
            | (go_at_call 53; have _t := hm2; refine (hc _).mono ?_; rintro e w3 ⟨rfl, hb3⟩; have hm3 := (hb3.block _ (lt_of_block hm2)).trans hm2; have hown3 := owns_below hown2 hb3; have hbel3 := hbel2.trans (hb3.mono hbel2.size); clear _t hm2 hown2 hbel2 hb3 hc; obtain ⟨g, cap, rfl, hgB, ⟨cur, hh⟩, hcell, hput⟩ := own_put hown3; have fm := frozen_of_row _ _ (l.length * 2 + 1) _ _ hh; have HP : Hid (∀ b' : Int, (w3.setCell ⟨g, l.length * 2 + 1, none⟩ (.int .i64 b')).ownsRow w.heap.size 39 2 (.slice (some ⟨g, 0, none⟩) (l.length + 1) cap) (l.length + 1) (flat (l ++ [(a, b')]))) := hput; clear hput hown3))
          have hne : w.heap.size ≠ g := fun e => by
            subst e
            rw [hm3] at hh
            exact absurd (Obj.cells.inj (Option.some.inj hh)).2.1 (by decide)
          go_roundw
          case rel => exact ⟨k + 1, by omega, by go_num, by rw [HR.out]; simp; omega, by rw [HR.out]; simpa using HP.out _, (heap_setCell_other _ _ _ _ hne).trans hm3, hbel3.setCell hgB _⟩
          case measure => simp [intOf]; omega
        | false =>
          rw [hp] at hd
          have j1 : k = 0 ∨ f (k - 1) = false := by
            by_cases h0 : k = 0
            · exact .inl h0
            · right
              unfold hasB at hp
              have e : ((k : Int) - 1).toNat = k - 1 := by omega
              have a1 : (0 : Int) ≤ (k : Int) - 1 := by omega
              have a2 : (k : Int) - 1 < 1440 := by omega
              rw [e, decide_eq_true a1, decide_eq_true a2, Bool.true_and, Bool.true_and] at hp
              exact hp
          have e2 := rs_snoc f k hf j1
          have HR : Hid (rs f (k + 1) = rs f k ++ [((k : Int), (k : Int) + 1)]) := e2
          clear e2 hf hp j1
          generalize rs f k = l at *
          go_wp2_with (first
            | (refine wpList_load_row rfl 37 _ rfl _ rfl _ _ _ _ hm maskType rfl (maskSize _) ?_)
            | (go_at_call 53; have _t := hm; refine (hc _).mono ?_; rintro e w1 ⟨rfl, hb1⟩; have hm1 := (hb1.block _ (lt_of_block hm)).trans hm; have hown1 := owns_below hown hb1; have hbel1 := hbel.trans (hb1.mono hbel.size); clear _t hm hown hbel hb1)
            | (refine load_g (by rfl) _ (by rfl) _ (by rfl) f (by assumption) ?_)
            | (go_at_call 53; have _t := hm1; refine (hd _).mono ?_; rintro e w2 ⟨rfl, hb2⟩; have hm2 := (hb2.block _ (lt_of_block hm1)).trans hm1; have hown2 := owns_below hown1 hb2; have hbel2 := hbel1.trans (hb2.mono hbel1.size); clear _t hm1 hown1 hbel1 hb2 hd)
            | (at_builtin; refine wpList_append_own _ rfl _ _ 34 rfl w.heap.size 39 i0 (.agg #[.int .i64 0, .int .i64 0]) 2 16 spansType hi hz0 hz1 hz2 rfl (by decide) u3 l.length (flat l) rfl (hown2.alloc _) ⟨w2.heap.size, 0, none⟩ 1 1 [.int .i64 (k : Int), .int .i64 0] rfl rfl ?c1 ?c2 ?c3 ?c4 ?c5 ?_))
          case c1 =>
            intro j u hj
            match j, hj with
            | 0, hj => simp at hj; subst hj; simp [Addr.add]
            | 1, hj => simp at hj; subst hj; simp [Addr.add]
          case c2 => intro u hu; simp at hu; rcases hu with rfl | rfl <;> rfl
          case c3 => unfold maxLen; omega
          case c4 => omega
          case c5 => have := hbel2.size; simp; omega
          · intro v' w3 hown' hgrow _
            have hown3 : w3.ownsRow w.heap.size 39 2 v' (l.length + 1) (flat (l ++ [((k : Int), 0)])) := by rw [flat_snoc]; exact hown'
            have hm3 := (hgrow.block _ (lt_of_block (blk_old _ (.cells #[.int .i64 (k : Int), .int .i64 0] 39) _ (lt_of_block hm2) hm2)) (fun e => owns_type hown2 hm2 (by decide) e.symm)).trans (blk_old _ (.cells #[.int .i64 (k : Int), .int .i64 0] 39) _ (lt_of_block hm2) hm2)
            have hbel3 : Below w.heap.size w w3 := (hbel2.alloc hbel2.size _).grown hgrow (by have := hbel2.size; simp only [size_alloc]; omega) (fun k hk => (hown2.lt k hk).1)
            clear hown' hgrow hown2 hm2 hbel2
            go_wp2_with (first
              | (refine wpList_load_row rfl 37 _ rfl _ rfl _ _ _ _ hm3 maskType rfl (maskSize _) ?_)
              | (go_at_call 53; refine (hc _).mono ?_; rintro e w4 ⟨rfl, hb4⟩; have hm4 := (hb4.block _ (lt_of_block hm3)).trans hm3; have hown4 := owns_below hown3 hb4; have hbel4 := hbel3.trans (hb4.mono hbel3.size); clear hm3 hown3 hbel3 hb4 hc; obtain ⟨g, cap, rfl, hgB, ⟨cur, hh⟩, hcell, hput⟩ := own_put hown4; have fm := frozen_of_row _ _ (l.length * 2 + 1) _ _ hh; have HP : Hid (∀ b' : Int, (w4.setCell ⟨g, l.length * 2 + 1, none⟩ (.int .i64 b')).ownsRow w.heap.size 39 2 (.slice (some ⟨g, 0, none⟩) (l.length + 1) cap) (l.length + 1) (flat (l ++ [((k : Int), b')]))) := hput; clear hput hown4))
            have hne : w.heap.size ≠ g := fun e => by
              subst e
              rw [hm4] at hh
              exact absurd (Obj.cells.inj (Option.some.inj hh)).2.1 (by decide)
            go_roundw
            case rel => exact ⟨k + 1, by omega, by go_num, by rw [HR.out]; simp; omega, by rw [HR.out]; simpa using HP.out _, (heap_setCell_other _ _ _ _ hne).trans hm4, hbel4.setCell hgB _⟩
            case measure => simp [intOf]; omega
    · have hkl : k = 1440 := by omega
      subst hkl
      have HR : Hid (Row wr u3 (rs f 1440)) := row_of_owns hown (by omega)
      clear hown
      go_wp2
      go_ret
      exact ⟨⟨_, rfl, HR.out⟩, hbel⟩
end Go.Proofs.YtemdkpjdbciemaaDoor
