/- What masks.Spans comes to. -/
import Derived.Test.YtemdkpjdbciemaaDoorVisitA
import Derived.OwnWalk
namespace Go.Proofs.YtemdkpjdbciemaaDoor
open Go.RowKit Msk

/-- The cells of a row of spans. -/
def flat : List (Int × Int) → List Value
  | [] => []
  | s :: l => .int .i64 s.1 :: .int .i64 s.2 :: flat l
theorem flat_snoc (x y : Int) : ∀ l : List (Int × Int), flat (l ++ [(x, y)]) = flat l ++ [.int .i64 x, .int .i64 y]
  | [] => rfl
  | s :: l => by simp [flat, flat_snoc x y l]
theorem flat_get : ∀ (l : List (Int × Int)) (j : Nat), j < l.length → (flat l)[j * 2]? = some (.int .i64 (l.getD j (0, 0)).1) ∧ (flat l)[j * 2 + 1]? = some (.int .i64 (l.getD j (0, 0)).2)
  | [], j, h => by simp at h
  | s :: l, 0, _ => by simp [flat]
  | s :: l, j + 1, h => by
    have := flat_get l j (by simpa using h)
    have e : (j + 1) * 2 = j * 2 + 1 + 1 := by omega
    rw [e]
    simpa [flat] using this
theorem info33 : (Tryd.prog.info? 39).map (fun i => (i.zero, i.size, i.bytes)) = some (some (.agg #[.int .i64 0, .int .i64 0]), 2, 16) := by kernel_rfl
theorem spansType : Tryd.prog.underlying 34 = some (.slice 39) := by kernel_rfl

theorem owns_below {w w' : World} {base : Nat} {e : TypeId} {size : Nat} {v : Value} {n : Nat} {xs : List Value} (h : w.ownsRow base e size v n xs) (hb : Below w.heap.size w w') : w'.ownsRow base e size v n xs := by
  obtain ⟨h1, h2⟩ := h
  refine ⟨h1, ?_⟩
  rcases h2 with h2 | ⟨g, cap, cur, hv, hg, hh, r⟩
  · exact .inl h2
  · exact .inr ⟨g, cap, cur, hv, hg, (hb.block g (lt_of_block hh)).trans hh, r⟩
theorem owns_type {w : World} {base : Nat} {e : TypeId} {size : Nat} {v : Value} {n : Nat} {xs : List Value} (h : w.ownsRow base e size v n xs) {k : Nat} {c : Array Value} {t : TypeId} (hk : w.heap[k]? = some (.cells c t (0, 0))) (ht : t ≠ e) : v.ownBlock ≠ some k := by
  obtain ⟨_, h2⟩ := h
  rcases h2 with ⟨h2, _⟩ | ⟨g, cap, cur, hv, hg, hh, r⟩
  · subst h2; simp [Value.ownBlock]
  · subst hv
    intro e1
    have e2 : g = k := by simpa [Value.ownBlock] using e1
    subst e2
    rw [hh] at hk
    exact ht (Obj.cells.inj (Option.some.inj hk)).2.1.symm
/-- What is owned is a row of spans. -/
theorem row_of_owns {w : World} {base : Nat} {v : Value} {l : List (Int × Int)} (h : w.ownsRow base 39 2 v l.length (flat l)) (hl : l.length < 9223372036854775808) : Row w v l := by
  obtain ⟨_, h2⟩ := h
  rcases h2 with ⟨h2, h3⟩ | ⟨g, cap, cur, hv, hg, hh, h3, h4, h5, h6⟩
  · exact .inl ⟨0, h2, List.length_eq_zero_iff.1 h3⟩
  · refine .inr ⟨g, 0, cap, hv, hl, fun j hj => ?_⟩
    obtain ⟨e1, e2⟩ := flat_get l j hj
    have key : ∀ k u, (flat l)[k]? = some u → cur[k]? = some u := fun k u hk => by
      rw [← h6, List.getElem?_take] at hk
      split at hk
      · simpa using hk
      · cases hk
    rw [Nat.zero_add, cell_of_row _ _ _ _ _ _ hh, cell_of_row _ _ _ _ _ _ hh]
    exact ⟨key _ _ e1, key _ _ e2⟩

set_option maxRecDepth 10000 in
set_option maxHeartbeats 1000000 in
theorem spansClosure_any (x y : Int) (v : Value) (l : List (Int × Int)) (base Bl : Nat) (w : World) (hll : l.length ≤ 1440) (hbase : base ≤ w.heap.size) (hbl : base ≤ Bl)
    (hl : w.heap[Bl]? = some (.cells #[v] 34 (0, 0))) (hown : w.ownsRow base 39 2 v l.length (flat l)) :
    Calls Tryd.prog 52 #[.agg #[.int .i64 x, .int .i64 y], .pointer (some ⟨Bl, 0, none⟩)] w fun e w' =>
      e = .returned (.bool true) ∧ Below base w w' ∧ (∃ v', w'.heap[Bl]? = some (.cells #[v'] 34 (0, 0)) ∧ w'.ownsRow base 39 2 v' (l ++ [(x, y)]).length (flat (l ++ [(x, y)]))) ∧ ∀ B, Above B w w' := by
  obtain ⟨i0, hi, hz0, hz1, hz2⟩ := info_parts info33
  have c1 := cell_of_one hl
  have f1 := free_of_one hl
  have l1 := lt_of_block hl
  have hob := owns_type hown hl (by decide)
  go_enter Tryd.func52, Tryd.ntmps52
  go_wp2_with (at_builtin; refine wpList_append_own _ rfl _ _ 34 rfl base 39 i0 (.agg #[.int .i64 0, .int .i64 0]) 2 16 spansType hi hz0 hz1 hz2 rfl (by decide) v l.length (flat l) rfl ((hown.alloc _).alloc _) ⟨w.heap.size + 1, 0, none⟩ 1 1 [.int .i64 x, .int .i64 y] rfl rfl ?c1 ?c2 ?c3 ?c4 ?c5 ?_)
  case c1 =>
    intro j u hj
    match j, hj with
    | 0, hj => simp at hj; subst hj; simp [Addr.add]
    | 1, hj => simp at hj; subst hj; simp [Addr.add]
  case c2 => intro u hu; simp at hu; rcases hu with rfl | rfl <;> rfl
  case c3 => unfold maxLen; omega
  case c4 => omega
  case c5 => simp; omega
  · intro v' w1 hown' hgrow _
    have hl1 := blk_old _ (.cells #[.int .i64 x, .int .i64 y] 39) _ l1 hl
    have hl2 := blk_old _ (.cells #[.int .i64 x, .int .i64 y] 39) _ (lt_of_block hl1) hl1
    have hl3 := (hgrow.block _ (lt_of_block hl2) (fun e => hob e.symm)).trans hl2
    have c3 := cell_of_one hl3
    have f3 := free_of_one hl3
    have hob' := owns_type hown' hl3 (by decide)
    obtain ⟨g, cap, rfl⟩ : ∃ g cap, v' = .slice (some ⟨g, 0, none⟩) (l.length + 1) cap := by
      rcases hown'.2 with ⟨_, h⟩ | ⟨g, cap, _, h, _⟩
      · omega
      · exact ⟨g, cap, h⟩
    have hbw : Below base w w1 := (((Below.refl _ _).alloc hbase _).alloc (by simp only [size_alloc]; omega) _).grown hgrow (by simp only [size_alloc]; omega) (fun k hk => (hown.lt k hk).1)
    have HO : Hid ((w.alloc (.cells #[.int .i64 x, .int .i64 y] 39)).heap.size = w.heap.size + 1) := size_alloc _ _
    have HW : Hid (w1.ownsRow base 39 2 (.slice (some ⟨g, 0, none⟩) (l.length + 1) cap) (l.length + 1) (flat l ++ [.int .i64 x, .int .i64 y])) := hown'
    have HG : Hid (((w.alloc (.cells #[.int .i64 x, .int .i64 y] 39)).alloc (.cells #[.int .i64 x, .int .i64 y] 39)).grownBy w1 v.ownBlock) := hgrow
    clear c1 f1 hl1 hl2 hown' hgrow
    go_wp2
    go_ret
    refine ⟨rfl, hbw.setCell hbl _, ⟨_, one_setCell hl3, ?_⟩, fun B => ⟨?_, fun k c _ hk => ?_⟩⟩
    · rw [flat_snoc]
      simp only [List.length_append, List.length_cons, List.length_nil, Nat.zero_add]
      exact ownsRow_setCell_other HW.out hob' _
    · have h1 := HG.out.size
      simp only [size_alloc] at h1
      simp
      omega
    · have hk1 := blk_old _ (.cells #[.int .i64 x, .int .i64 y] 39) _ (lt_of_block hk) hk
      have hk2 := blk_old _ (.cells #[.int .i64 x, .int .i64 y] 39) _ (lt_of_block hk1) hk1
      have hk3 := (HG.out.block _ (lt_of_block hk2) (fun e => owns_type hown hk (by decide) e.symm)).trans hk2
      refine (heap_setCell_other _ _ _ _ fun e => ?_).trans hk3
      have e' : k = Bl := e
      subst e'
      rw [hl] at hk
      exact absurd (Obj.cells.inj (Option.some.inj hk)).2.1 (by decide)

/-- What holds while the spans are gone through, and behind them. -/
structure SI (f : Nat → Bool) (w0 : World) (Bl : Nat) (p : Nat) (w : World) : Prop where
  bel : Below w0.heap.size w0 w
  row : ∃ v, w.heap[Bl]? = some (.cells #[v] 34 (0, 0)) ∧ w.ownsRow w0.heap.size 39 2 v (rs f p).length (flat (rs f p))
  seen : Seen f p (rs f p)
  le : p ≤ 1440
def SR (f : Nat → Bool) (w0 : World) (Bl : Nat) (w : World) : Prop :=
  Below w0.heap.size w0 w ∧ (∃ v, w.heap[Bl]? = some (.cells #[v] 34 (0, 0)) ∧ w.ownsRow w0.heap.size 39 2 v (rs f 1440).length (flat (rs f 1440))) ∧ Runs f 1440 (rs f 1440)

theorem spans_visit (f : Nat → Bool) (w0 w : World) (Bl : Nat) (hT : Tab w0) (lb : w0.heap.size ≤ Bl) (hI : SI f w0 Bl 0 w) :
    Calls Tryd.prog 47 #[.agg (mv f), .func (.func 52) #[] #[.pointer (some ⟨Bl, 0, none⟩)]] w fun e w' =>
      e = .returned (.tuple #[]) ∧ SR f w0 Bl w' := by
  refine visit_any f 52 _ (SI f w0 Bl) (SR f w0 Bl) w hI (fun _ _ => by simp [go_sem]) (fun p wr h => hT.later h.bel) ?_ ?_ ?_
  · intro p wr w' h hb
    obtain ⟨v, h1, h2⟩ := h.row
    exact ⟨h.bel.trans (hb.mono h.bel.size), ⟨v, (hb.block _ (lt_of_block h1)).trans h1, owns_below h2 hb⟩, h.seen, h.le⟩
  · intro p a b wr hsz h hpa hab hb3 hno hyes hbb
    obtain ⟨v, h1, h2⟩ := h.row
    have hs := h.seen.next a b hpa hab hb3 hno hyes hbb
    have e : rs f b = rs f p ++ [((a : Int), (b : Int))] := hs.same.symm
    refine (spansClosure_any a b v (rs f p) w0.heap.size Bl wr (by have := h.seen.runs.few; have := h.le; omega) h.bel.size lb h1 h2).mono ?_
    rintro e' w' ⟨rfl, hb, hrow, hab'⟩
    rw [← e] at hrow hs
    exact ⟨.inl ⟨rfl, h.bel.trans hb, hrow, hs, hb3⟩, hab' _⟩
  · intro p wr h hp hno
    obtain ⟨e, hr⟩ := h.seen.all hp hno
    have hrow := h.row
    rw [e] at hrow hr
    exact ⟨h.bel, hrow, hr⟩

set_option maxRecDepth 10000 in
set_option maxHeartbeats 1000000 in
theorem spans_any (f : Nat → Bool) (w : World) (hT : Tab w) :
    Calls Tryd.prog 25 #[.agg (mv f)] w fun e w' => (∃ v, e = .returned v ∧ Row w' v (rs f 1440)) ∧ Runs f 1440 (rs f 1440) ∧ Below w.heap.size w w' := by
  have hmf : ∀ (fn : Fn) (first cap : Array Value) (w : World), (Instr.makeFunc fn first cap).run Tryd.prog w = .ok (.func fn first cap) w := fun _ _ _ _ => rfl
  have hW1 : ((w.alloc (.cells (mv f) 37)).alloc (.cells #[.slice none 0 0] 34)).heap[w.heap.size]? = some (.cells (mv f) 37 (0, 0)) := by (repeat (first | refine blk_old _ _ _ (by simp only [size_alloc]; omega) ?_ | exact blk_new _ _ _ (by first | rfl | simp only [size_alloc])))
  have hW2 : ((w.alloc (.cells (mv f) 37)).alloc (.cells #[.slice none 0 0] 34)).heap[w.heap.size + 1]? = some (.cells #[.slice none 0 0] 34 (0, 0)) := by (repeat (first | refine blk_old _ _ _ (by simp only [size_alloc]; omega) ?_ | exact blk_new _ _ _ (by first | rfl | simp only [size_alloc])))
  have hb0 : Below w.heap.size w ((w.alloc (.cells (mv f) 37)).alloc (.cells #[.slice none 0 0] 34)) := ((Below.refl _ _).alloc (Nat.le_refl _) _).alloc (by simp) _
  have cv := spans_visit f w _ _ hT (by omega) ⟨hb0, ⟨_, hW2, World.ownsRow_nil _ _ _ _⟩, Seen.zero f, by omega⟩
  clear hW2 hb0
  go_enter Tryd.func25, Tryd.ntmps25
  go_wp2_with (first
    | (refine wpList_load_row rfl 37 _ rfl _ rfl _ _ _ _ hW1 maskType rfl (maskSize _) ?_)
    | (go_at_call 47; refine cv.mono ?_; rintro e w' ⟨rfl, hbel, ⟨v, hv, hown⟩, hruns⟩; have c1 := cell_of_one hv; have HR : Hid (Row w' v (rs f 1440)) := row_of_owns hown (by have := hruns.few; omega); have HN : Hid (Runs f 1440 (rs f 1440)) := hruns; clear hown hruns))
  go_ret
  exact ⟨⟨v, rfl, HR.out⟩, HN.out, hbel⟩
end Go.Proofs.YtemdkpjdbciemaaDoor
