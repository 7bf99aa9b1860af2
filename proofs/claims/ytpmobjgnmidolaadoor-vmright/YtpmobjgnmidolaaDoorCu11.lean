/- What masks.Spans comes to. -/
import Derived.Test.YtpmobjgnmidolaaDoorCu10
import Derived.OwnWalk
import Derived.Test.YtpmobjgnmidolaaDoorCu08
import Derived.Test.YtpmobjgnmidolaaDoorCu09
import Derived.Test.YtpmobjgnmidolaaDoorCu04
import Derived.Deep.QuietTactic
import Derived.BigQuiet
namespace Go.Proofs.YtpmobjgnmidolaaDoor
open Go.RowKit Msk

/-- The cells of a row of spans. -/
def flat : List (Int × Int) → List Value
  | [] => []
  | s :: l => .int .i64 s.1 :: .int .i64 s.2 :: flat l
theorem flat_snoc (x y : Int) : ∀ l : List (Int × Int), flat (l ++ [(x, y)]) = flat l ++ [.int .i64 x, .int .i64 y]
  | [] => rfl
  | s :: l => by simp [flat, flat_snoc x y l]
theorem flat_get : ∀ (l : List (Int × Int)) (j : Nat), j < l.length → (flat l)[j * 2]? = some (.int .i64 (l.getD j (0, 0)).1) ∧ (flat l)[j * 2 + 1]? = some (.int .i64 (l.getD j (0, 0)).2)
  | [], j, h => by simp at h
  | s :: l, 0, _ => by simp [flat]
  | s :: l, j + 1, h => by
    have := flat_get l j (by simpa using h)
    have e : (j + 1) * 2 = j * 2 + 1 + 1 := by omega
    rw [e]
    simpa [flat] using this
theorem info33 : (Tryd.prog.info? 110).map (fun i => (i.zero, i.size, i.bytes)) = some (some (.agg #[.int .i64 0, .int .i64 0]), 2, 16) := by kernel_rfl
theorem spansType : Tryd.prog.underlying 64 = some (.slice 110) := by kernel_rfl

theorem sown_below {w w' : World} {base : Nat} {e : TypeId} {size : Nat} {v : Value} {n : Nat} {xs : List Value} (h : w.ownsRow base e size v n xs) (hb : Below w.heap.size w w') : w'.ownsRow base e size v n xs := by
  obtain ⟨h1, h2⟩ := h
  refine ⟨h1, ?_⟩
  rcases h2 with h2 | ⟨g, cap, cur, hv, hg, hh, r⟩
  · exact .inl h2
  · exact .inr ⟨g, cap, cur, hv, hg, (hb.block g (lt_of_block hh)).trans hh, r⟩
theorem sown_type {w : World} {base : Nat} {e : TypeId} {size : Nat} {v : Value} {n : Nat} {xs : List Value} (h : w.ownsRow base e size v n xs) {k : Nat} {c : Array Value} {t : TypeId} (hk : w.heap[k]? = some (.cells c t (0, 0))) (ht : t ≠ e) : v.ownBlock ≠ some k := by
  obtain ⟨_, h2⟩ := h
  rcases h2 with ⟨h2, _⟩ | ⟨g, cap, cur, hv, hg, hh, r⟩
  · subst h2; simp [Value.ownBlock]
  · subst hv
    intro e1
    have e2 : g = k := by simpa [Value.ownBlock] using e1
    subst e2
    rw [hh] at hk
    exact ht (Obj.cells.inj (Option.some.inj hk)).2.1.symm
/-- What is owned is a row of spans. -/
theorem row_of_owns {w : World} {base : Nat} {v : Value} {l : List (Int × Int)} (h : w.ownsRow base 110 2 v l.length (flat l)) (hl : l.length < 9223372036854775808) : Row w v l := by
  obtain ⟨_, h2⟩ := h
  rcases h2 with ⟨h2, h3⟩ | ⟨g, cap, cur, hv, hg, hh, h3, h4, h5, h6⟩
  · exact .inl ⟨0, h2, List.length_eq_zero_iff.1 h3⟩
  · refine .inr ⟨g, 0, cap, hv, hl, fun j hj => ?_⟩
    obtain ⟨e1, e2⟩ := flat_get l j hj
    have key : ∀ k u, (flat l)[k]? = some u → cur[k]? = some u := fun k u hk => by
      rw [← h6, List.getElem?_take] at hk
      split at hk
      · simpa using hk
      · cases hk
    rw [Nat.zero_add, cell_of_row _ _ _ _ _ _ hh, cell_of_row _ _ _ _ _ _ hh]
    exact ⟨key _ _ e1, key _ _ e2⟩

set_option maxRecDepth 10000 in
set_option maxHeartbeats 1000000 in
theorem spansClosure_any (x y : Int) (v : Value) (l : List (Int × Int)) (base Bl : Nat) (w : World) (hll : l.length ≤ 1440) (hbase : base ≤ w.heap.size) (hbl : base ≤ Bl)
    (hl : w.heap[Bl]? = some (.cells #[v] 64 (0, 0))) (hown : w.ownsRow base 110 2 v l.length (flat l)) :
    Calls Tryd.prog 70 #[.agg #[.int .i64 x, .int .i64 y], .pointer (some ⟨Bl, 0, none⟩)] w fun e w' =>
      e = .returned (.bool true) ∧ Below base w w' ∧ (∃ v', w'.heap[Bl]? = some (.cells #[v'] 64 (0, 0)) ∧ w'.ownsRow base 110 2 v' (l ++ [(x, y)]).length (flat (l ++ [(x, y)]))) ∧ ∀ B, Above B w w' := by
  obtain ⟨i0, hi, hz0, hz1, hz2⟩ := info_parts info33
  have c1 := cell_of_one hl
  have f1 := free_of_one hl
  have l1 := lt_of_block hl
  have hob := sown_type hown hl (by decide)
  go_enter Tryd.func70, Tryd.ntmps70
  go_wp2_with (at_builtin; refine wpList_append_own _ rfl _ _ 64 rfl base 110 i0 (.agg #[.int .i64 0, .int .i64 0]) 2 16 spansType hi hz0 hz1 hz2 rfl (by decide) v l.length (flat l) rfl ((hown.alloc _).alloc _) ⟨w.heap.size + 1, 0, none⟩ 1 1 [.int .i64 x, .int .i64 y] rfl rfl ?c1 ?c2 ?c3 ?c4 ?c5 ?_)
  case c1 =>
    intro j u hj
    match j, hj with
    | 0, hj => simp at hj; subst hj; simp [Addr.add]
    | 1, hj => simp at hj; subst hj; simp [Addr.add]
  case c2 => intro u hu; simp at hu; rcases hu with rfl | rfl <;> rfl
  case c3 => unfold maxLen; omega
  case c4 => omega
  case c5 => simp; omega
  · intro v' w1 hown' hgrow _
    have hl1 := blk_old _ (.cells #[.int .i64 x, .int .i64 y] 110) _ l1 hl
    have hl2 := blk_old _ (.cells #[.int .i64 x, .int .i64 y] 110) _ (lt_of_block hl1) hl1
    have hl3 := (hgrow.block _ (lt_of_block hl2) (fun e => hob e.symm)).trans hl2
    have c3 := cell_of_one hl3
    have f3 := free_of_one hl3
    have hob' := sown_type hown' hl3 (by decide)
    obtain ⟨g, cap, rfl⟩ : ∃ g cap, v' = .slice (some ⟨g, 0, none⟩) (l.length + 1) cap := by
      rcases hown'.2 with ⟨_, h⟩ | ⟨g, cap, _, h, _⟩
      · omega
      · exact ⟨g, cap, h⟩
    have hbw : Below base w w1 := (((Below.refl _ _).alloc hbase _).alloc (by simp only [size_alloc]; omega) _).grown hgrow (by simp only [size_alloc]; omega) (fun k hk => (hown.lt k hk).1)
    have HO : Hid ((w.alloc (.cells #[.int .i64 x, .int .i64 y] 110)).heap.size = w.heap.size + 1) := size_alloc _ _
    have HW : Hid (w1.ownsRow base 110 2 (.slice (some ⟨g, 0, none⟩) (l.length + 1) cap) (l.length + 1) (flat l ++ [.int .i64 x, .int .i64 y])) := hown'
    have HG : Hid (((w.alloc (.cells #[.int .i64 x, .int .i64 y] 110)).alloc (.cells #[.int .i64 x, .int .i64 y] 110)).grownBy w1 v.ownBlock) := hgrow
    clear c1 f1 hl1 hl2 hown' hgrow
    go_wp2
    go_ret
    refine ⟨rfl, hbw.setCell hbl _, ⟨_, one_setCell hl3, ?_⟩, fun B => ⟨?_, fun k c _ hk => ?_⟩⟩
    · rw [flat_snoc]
      simp only [List.length_append, List.length_cons, List.length_nil, Nat.zero_add]
      exact ownsRow_setCell_other HW.out hob' _
    · have h1 := HG.out.size
      simp only [size_alloc] at h1
      simp
      omega
    · have hk1 := blk_old _ (.cells #[.int .i64 x, .int .i64 y] 110) _ (lt_of_block hk) hk
      have hk2 := blk_old _ (.cells #[.int .i64 x, .int .i64 y] 110) _ (lt_of_block hk1) hk1
      have hk3 := (HG.out.block _ (lt_of_block hk2) (fun e => sown_type hown hk (by decide) e.symm)).trans hk2
      refine (heap_setCell_other _ _ _ _ fun e => ?_).trans hk3
      have e' : k = Bl := e
      subst e'
      rw [hl] at hk
      exact absurd (Obj.cells.inj (Option.some.inj hk)).2.1 (by decide)

/-- What holds while the spans are gone through, and behind them. -/
structure SI (f : Nat → Bool) (w0 : World) (Bl : Nat) (p : Nat) (w : World) : Prop where
  bel : Below w0.heap.size w0 w
  row : ∃ v, w.heap[Bl]? = some (.cells #[v] 64 (0, 0)) ∧ w.ownsRow w0.heap.size 110 2 v (rs f p).length (flat (rs f p))
  seen : Seen f p (rs f p)
  le : p ≤ 1440
def SR (f : Nat → Bool) (w0 : World) (Bl : Nat) (w : World) : Prop :=
  Below w0.heap.size w0 w ∧ (∃ v, w.heap[Bl]? = some (.cells #[v] 64 (0, 0)) ∧ w.ownsRow w0.heap.size 110 2 v (rs f 1440).length (flat (rs f 1440))) ∧ Runs f 1440 (rs f 1440)

theorem spans_visit (f : Nat → Bool) (w0 w : World) (Bl : Nat) (hT : Tab w0) (lb : w0.heap.size ≤ Bl) (hI : SI f w0 Bl 0 w) :
    Calls Tryd.prog 69 #[.agg (mv f), .func (.func 70) #[] #[.pointer (some ⟨Bl, 0, none⟩)]] w fun e w' =>
      e = .returned (.tuple #[]) ∧ SR f w0 Bl w' := by
  refine visit_any f 70 _ (SI f w0 Bl) (SR f w0 Bl) w hI (fun _ _ => by simp [go_sem]) (fun p wr h => hT.later h.bel) ?_ ?_ ?_
  · intro p wr w' h hb
    obtain ⟨v, h1, h2⟩ := h.row
    exact ⟨h.bel.trans (hb.mono h.bel.size), ⟨v, (hb.block _ (lt_of_block h1)).trans h1, sown_below h2 hb⟩, h.seen, h.le⟩
  · intro p a b wr hsz h hpa hab hb3 hno hyes hbb
    obtain ⟨v, h1, h2⟩ := h.row
    have hs := h.seen.next a b hpa hab hb3 hno hyes hbb
    have e : rs f b = rs f p ++ [((a : Int), (b : Int))] := hs.same.symm
    refine (spansClosure_any a b v (rs f p) w0.heap.size Bl wr (by have := h.seen.runs.few; have := h.le; omega) h.bel.size lb h1 h2).mono ?_
    rintro e' w' ⟨rfl, hb, hrow, hab'⟩
    rw [← e] at hrow hs
    exact ⟨.inl ⟨rfl, h.bel.trans hb, hrow, hs, hb3⟩, hab' _⟩
  · intro p wr h hp hno
    obtain ⟨e, hr⟩ := h.seen.all hp hno
    have hrow := h.row
    rw [e] at hrow hr
    exact ⟨h.bel, hrow, hr⟩

set_option maxRecDepth 10000 in
set_option maxHeartbeats 1000000 in
theorem spans_any (f : Nat → Bool) (w : World) (hT : Tab w) :
    Calls Tryd.prog 45 #[.agg (mv f)] w fun e w' => (∃ v, e = .returned v ∧ Row w' v (rs f 1440)) ∧ Runs f 1440 (rs f 1440) ∧ Below w.heap.size w w' := by
  have hmf : ∀ (fn : Fn) (first cap : Array Value) (w : World), (Instr.makeFunc fn first cap).run Tryd.prog w = .ok (.func fn first cap) w := fun _ _ _ _ => rfl
  have hW1 : ((w.alloc (.cells (mv f) 37)).alloc (.cells #[.slice none 0 0] 64)).heap[w.heap.size]? = some (.cells (mv f) 37 (0, 0)) := by (repeat (first | refine blk_old _ _ _ (by simp only [size_alloc]; omega) ?_ | exact blk_new _ _ _ (by first | rfl | simp only [size_alloc])))
  have hW2 : ((w.alloc (.cells (mv f) 37)).alloc (.cells #[.slice none 0 0] 64)).heap[w.heap.size + 1]? = some (.cells #[.slice none 0 0] 64 (0, 0)) := by (repeat (first | refine blk_old _ _ _ (by simp only [size_alloc]; omega) ?_ | exact blk_new _ _ _ (by first | rfl | simp only [size_alloc])))
  have hb0 : Below w.heap.size w ((w.alloc (.cells (mv f) 37)).alloc (.cells #[.slice none 0 0] 64)) := ((Below.refl _ _).alloc (Nat.le_refl _) _).alloc (by simp) _
  have cv := spans_visit f w _ _ hT (by omega) ⟨hb0, ⟨_, hW2, World.ownsRow_nil _ _ _ _⟩, Seen.zero f, by omega⟩
  clear hW2 hb0
  go_enter Tryd.func45, Tryd.ntmps45
  go_wp2_with (first
    | (refine wpList_load_row rfl 37 _ rfl _ rfl _ _ _ _ hW1 maskType rfl (maskSize _) ?_)
    | (go_at_call 69; refine cv.mono ?_; rintro e w' ⟨rfl, hbel, ⟨v, hv, hown⟩, hruns⟩; have c1 := cell_of_one hv; have HR : Hid (Row w' v (rs f 1440)) := row_of_owns hown (by have := hruns.few; omega); have HN : Hid (Runs f 1440 (rs f 1440)) := hruns; clear hown hruns))
  go_ret
  exact ⟨⟨v, rfl, HR.out⟩, HN.out, hbel⟩
end Go.Proofs.YtpmobjgnmidolaaDoor

/- The spans of a mask, as a row of one's own. -/
namespace Go.Proofs.YtpmobjgnmidolaaDoor
open Go.RowKit Msk

theorem tab_below {w w' : World} (h : Tab w) (hb : Below w.heap.size w w') : Tab w' := fun j hj => (hb.cell (block_lt_of_cell (h j hj))).trans (h j hj)
set_option maxRecDepth 10000 in
set_option maxHeartbeats 1000000 in
theorem spans_own (f : Nat → Bool) (w : World) (hT : Tab w) :
    Calls Tryd.prog 45 #[.agg (mv f)] w fun e w' => (∃ v, e = .returned v ∧ w'.ownsRow w.heap.size 110 2 v (rs f 1440).length (flat (rs f 1440))) ∧ Runs f 1440 (rs f 1440) ∧ Below w.heap.size w w' := by
  have hmf : ∀ (fn : Fn) (first cap : Array Value) (w : World), (Instr.makeFunc fn first cap).run Tryd.prog w = .ok (.func fn first cap) w := fun _ _ _ _ => rfl
  have hW1 : ((w.alloc (.cells (mv f) 37)).alloc (.cells #[.slice none 0 0] 64)).heap[w.heap.size]? = some (.cells (mv f) 37 (0, 0)) := by (repeat (first | refine blk_old _ _ _ (by simp only [size_alloc]; omega) ?_ | exact blk_new _ _ _ (by first | rfl | simp only [size_alloc])))
  have hW2 : ((w.alloc (.cells (mv f) 37)).alloc (.cells #[.slice none 0 0] 64)).heap[w.heap.size + 1]? = some (.cells #[.slice none 0 0] 64 (0, 0)) := by (repeat (first | refine blk_old _ _ _ (by simp only [size_alloc]; omega) ?_ | exact blk_new _ _ _ (by first | rfl | simp only [size_alloc])))
  have hb0 : Below w.heap.size w ((w.alloc (.cells (mv f) 37)).alloc (.cells #[.slice none 0 0] 64)) := ((Below.refl _ _).alloc (Nat.le_refl _) _).alloc (by simp) _
  have cv := spans_visit f w _ _ hT (by omega) ⟨hb0, ⟨_, hW2, World.ownsRow_nil _ _ _ _⟩, Seen.zero f, by omega⟩
  clear hW2 hb0
  go_enter Tryd.func45, Tryd.ntmps45
  go_wp2_with (first
    | (refine wpList_load_row rfl 37 _ rfl _ rfl _ _ _ _ hW1 maskType rfl (maskSize _) ?_)
    | (go_at_call 69; refine cv.mono ?_; rintro e w' ⟨rfl, hbel, ⟨v, hv, hown⟩, hruns⟩; have c1 := cell_of_one hv; have HR : Hid (_) := hown; have HN : Hid (Runs f 1440 (rs f 1440)) := hruns; clear hown hruns))
  go_ret
  exact ⟨⟨v, rfl, HR.out⟩, HN.out, hbel⟩
end Go.Proofs.YtpmobjgnmidolaaDoor

/- A region that draws its order: some values are known beforehand; what is said of the others, and of the world, hangs on what has been done. It speaks of no program. -/
namespace Go.Proofs.YtpmobjgnmidolaaDoor
open Go Go.RowKit
section
variable {P : Program} {ops : Array Oper} {Q : Exit → Act → World → Prop} {id : Nat} {a0 : Act} {w : World}
/-- The slots of a frame. -/
def slotsOf (A : Act) : Nat → Value := fun s => A.tmps.getD s undef
def putF (φ : Nat → Value) (d : Option Nat) (v : Value) : Nat → Value := fun s => if d = some s then v else φ s
theorem putF_ne {φ : Nat → Value} {d s : Nat} {v : Value} (h : d ≠ s) : putF φ (some d) v s = φ s := by
  unfold putF
  rw [if_neg (fun e => h (Option.some.inj e))]
theorem putF_eq {φ : Nat → Value} {d : Nat} {v : Value} : putF φ (some d) v d = v := by
  unfold putF
  rw [if_pos rfl]
theorem putF_none {φ : Nat → Value} {v : Value} : putF φ none v = φ := by
  funext s
  unfold putF
  rw [if_neg (by simp)]
/-- What an operation of the region comes to. -/
def StepZ (P : Program) (ops : Array Oper) (Q : Exit → Act → World → Prop) (ds : List (Option Nat × Option Value)) (a0 : Act) (J : (Nat → Bool) → (Nat → Value) → World → Prop) : Prop :=
  ∀ (i : Nat) (d : Option Nat) (x : Option Value) (o : Oper) (L : Nat → Bool) (A : Act) (W : World), ops[i]? = some o → ds[i]? = some (d, x) → L i = false → (∀ e ∈ o.after, Region.binds .any e = true → L e.on = true) → ClosL ops L → J L (slotsOf A) W →
    (∀ s, notDst ops s = true → A.tmps.getD s undef = a0.tmps.getD s undef) → (∀ (j s : Nat) (u : Value), ds[j]? = some (some s, some u) → L j = true → A.tmps.getD s undef = u) → wpOp P ops Q i (fun a' W' => ∃ v, a' = A.put d v ∧ (∀ u, x = some u → v = u) ∧ J (fun k => decide (i = k) || L k) (putF (slotsOf A) d v) W') A W
theorem wp_region_Z (J : (Nat → Bool) → (Nat → Value) → World → Prop) (hJ0 : ∀ L : Nat → Bool, (∀ i, i < ops.size → L i = false) → J L (slotsOf a0) w.drew) (hm : P.follows .mixedOrders = true) (hback : backB ops = true) (hdst : dstB ops = true) (hin : inB ops a0.tmps.size = true) (ds : List (Option Nat × Option Value))
    (hds : ops.toList.map (fun o => o.dst) = ds.map (fun p => p.1)) (hnd : decide ((ds.filterMap (fun p => p.1)).Nodup) = true) (ss : List Nat) (hss : ds.filterMap (fun p => p.1) = ss)
    (hstep : StepZ P ops Q ds a0 J) (hend : ∀ (L : Nat → Bool) (A : Act) (W : World), (∀ i, i < ops.size → L i = true) → J L (slotsOf A) W → (∀ (j s : Nat) (u : Value), ds[j]? = some (some s, some u) → A.tmps.getD s undef = u) →
      (∀ es : List (Nat × Value), es.map (fun p => p.1) = ss → (∀ (j s : Nat) (v : Value), es[j]? = some (s, v) → A.tmps.getD s undef = v) → A = putAll es a0) → Q .normal A W) : (Code.region id ops true).wp P Q a0 w := by
  have atD : ∀ {j : Nat} {p : Oper}, ops[j]? = some p → ∃ x, ds[j]? = some (p.dst, x) := fun {j p} hp => by
    have h1 : (ops.toList.map (fun o => o.dst))[j]? = some p.dst := by
      rw [List.getElem?_map, Array.getElem?_toList, hp]
      rfl
    rw [hds, List.getElem?_map] at h1
    cases hs : ds[j]? with
    | none => rw [hs] at h1; cases h1
    | some q =>
      rw [hs] at h1
      exact ⟨q.2, by rw [← Option.some.inj h1]⟩
  have hl : ds.length = ops.size := by
    have h := congrArg List.length hds
    simpa using h.symm
  have atO : ∀ {j : Nat} {d : Option Nat} {x : Option Value}, ds[j]? = some (d, x) → ∃ p, ops[j]? = some p ∧ p.dst = d := fun {j d x} hj => by
    have hj' := (List.getElem?_eq_some_iff.1 hj).1
    obtain ⟨p, hp⟩ : ∃ p, ops[j]? = some p := ⟨ops[j]'(by omega), Array.getElem?_eq_getElem _⟩
    obtain ⟨v', hv'⟩ := atD hp
    rw [hj] at hv'
    exact ⟨p, hp, (congrArg Prod.fst (Option.some.inj hv')).symm⟩
  refine wp_region_flow hm hback hdst hin (fun L A W => ClosL ops L ∧ A.tmps.size = a0.tmps.size ∧ J L (slotsOf A) W) (fun j x _ => ∀ d v, ds[j]? = some (d, some v) → x = v) ?_ ?_ ?_
  · intro L h
    refine ⟨fun j p hp hj => ?_, rfl, hJ0 L h⟩
    have := h j (Array.getElem?_eq_some_iff.1 hp).1
    rw [this] at hj; cases hj
  · intro i o L A W ho hLi hdep hJ hdef hkept hhas
    obtain ⟨hc, hsz, hJ⟩ := hJ
    have hi : i < ops.size := (Array.getElem?_eq_some_iff.1 ho).1
    have hc' : ClosL ops (fun k => decide (i = k) || L k) := by
      intro j p hp hj e he hb
      show (decide (i = e.on) || L e.on) = true
      by_cases hij : i = j
      · subst hij
        rw [ho] at hp
        cases hp
        rw [hdep e he hb]; simp
      · rw [hc j p hp (by simpa [hij] using hj) e he hb]; simp
    obtain ⟨x, hx⟩ := atD ho
    refine wpOp_mono ?_ (hstep i o.dst x o L A W ho hx hLi hdep hc hJ (fun s h => hkept s fun j p hp _ => nd h j p hp) (fun j s u hj hL => by
      obtain ⟨p, hp, hd⟩ := atO hj
      exact hhas j p hp hL s hd _ _ hj))
    rintro a' W' ⟨v, rfl, hv, hJ'⟩
    refine ⟨v, rfl, fun _ d u hdu => ?_, fun _ _ _ h => h, hc', by cases o.dst <;> simpa [Act.put] using hsz, ?_⟩
    · rw [hx] at hdu
      have e2 := congrArg Prod.snd (Option.some.inj hdu)
      exact hv u e2
    · have e : slotsOf (A.put o.dst v) = putF (slotsOf A) o.dst v := by
        funext s
        unfold slotsOf putF
        cases hd : o.dst with
        | none => rw [if_neg (by simp)]; rfl
        | some t =>
          by_cases hts : t = s
          · subst hts
            have htl : t < A.tmps.size := by
              have q1 := List.all_eq_true.1 hin i (by simpa using hi)
              rw [ho] at q1
              simp only [Option.bind_some, hd] at q1
              rw [hsz]
              simpa using q1
            rw [if_pos rfl]
            exact getD_set_same _ _ _ htl
          · rw [if_neg (fun e => hts (Option.some.inj e))]
            exact getD_set_other _ _ _ _ hts
      rw [e]
      exact hJ'
  · intro L A W hL hJ hdef hsize hkept hhas
    refine hend L A W hL hJ.2.2 (fun j s u hj => ?_) fun es he hv => ?_
    · obtain ⟨p, hp, hd⟩ := atO hj
      exact hhas j p hp s hd _ _ hj
    · refine act_is es hdef hsize ?_ (fun s h => hkept s fun j p hp e => ?_) hv
      · rw [show es.map (fun p => some p.1) = (es.map (fun p => p.1)).map some by rw [List.map_map]; rfl, he, ← hss]
        have h1 := of_decide_eq_true hnd
        unfold List.Nodup
        rw [List.pairwise_map]
        exact List.Pairwise.imp (fun h e => h (Option.some.inj e)) h1
      · obtain ⟨x, hx⟩ := atD hp
        rw [e] at hx
        have hm1 : s ∈ ds.filterMap (fun p => p.1) := List.mem_filterMap.2 ⟨(some s, x), List.mem_of_getElem? hx, rfl⟩
        rw [hss, ← he] at hm1
        obtain ⟨q, hq, hqs⟩ := List.mem_map.1 hm1
        exact h q hq hqs
end
end Go.Proofs.YtpmobjgnmidolaaDoor

/- The machine: join, isDayOf. -/
namespace Go.Proofs.YtpmobjgnmidolaaDoor
open Go.RowKit Msk Vx

theorem isDay9 (n : Int) (w : World) (a : 0 ≤ n) (b : n < 146097) : Calls Tryd.prog 122 #[.int .i64 n] w fun e w' => e = .returned (.bool true) ∧ w' = w := by
  go_enter Tryd.func122, Tryd.ntmps122
  go_wp2
  go_ret
  exact ⟨rfl, rfl⟩
/-- Its day of the week. -/
def wkd9 (n : Int) : Int := (n + 5).tmod 7
theorem wkd9_eq (n : Int) (a : 0 ≤ n) : wkd9 n = (n + 5) % 7 := by
  unfold wkd9
  rw [Int.tmod_eq_emod_of_nonneg (by omega)]
theorem wkd9_bd (n : Int) (a : 0 ≤ n) : 0 ≤ wkd9 n ∧ wkd9 n < 7 := by
  rw [wkd9_eq n a]
  omega
set_option maxHeartbeats 400000 in
theorem week9 (n : Int) (w : World) (a : 0 ≤ n) (b : n < 146097) : Calls Tryd.prog 105 #[.int .i64 n] w fun e w' => e = .returned (.int .i64 (wkd9 n)) ∧ w' = w := by
  have c1 := isDay9 n w a b
  have hb := wkd9_bd n a
  have hw : (n + 5).tmod 7 = wkd9 n := rfl
  go_enter Tryd.func105, Tryd.ntmps105
  go_wp2_with fail
  refine c1.mono ?_
  rintro e w' ⟨rfl, rfl⟩
  clear c1
  go_wp2_with fail
  go_ret
  exact ⟨rfl, rfl⟩
/-- Is the day's bit set? -/
def wkB9 (n a : Int) : Bool := bits BinOp.and IntKind.i64 (a / 2 ^ (wkd9 n).toNat) 1 == 1
set_option maxRecDepth 100000 in
set_option maxHeartbeats 1000000 in
theorem isDayOf6 (w0 : World) (gm : Nat) (lv : Value) (n k : Int) (S : List M) (x b t : Int) (sv : Value) (W : World) (h : VSt w0 gm lv n S k W) (a0 : 0 ≤ n) (a1 : n < 146097) :
    Calls Tryd.prog 84 #[.pointer (some ⟨gm, 0, none⟩), .agg #[.int .i64 6, .int .i64 x, .int .i64 b, .int .i64 t, sv]] W fun r w' => r = .returned (.bool (wkB9 n x)) ∧ Below W.heap.size W w' := by
  obtain ⟨_, _, s0, nM, _⟩ := h
  have k0 := (cell_of_row _ _ 1 _ _ _ nM).trans rfl
  have bA := (Below.refl W.heap.size W).alloc (Nat.le_refl _) (.cells #[.int .i64 6, .int .i64 x, .int .i64 b, .int .i64 t, sv] 66)
  have nA := heap_alloc_new W (.cells #[.int .i64 6, .int .i64 x, .int .i64 b, .int .i64 t, sv] 66)
  have k0' := (bA.cell (block_lt_of_cell k0)).trans k0
  have z0 := (cell_of_row _ _ 0 _ _ _ nA).trans rfl
  have z1 := (cell_of_row _ _ 1 _ _ _ nA).trans rfl
  have hb := wkd9_bd n a0
  have cw := fun W => week9 n W a0 a1
  generalize hwA : W.alloc (.cells #[.int .i64 6, .int .i64 x, .int .i64 b, .int .i64 t, sv] 66) = wA at *
  clear nM nA k0
  go_enter Tryd.func84, Tryd.ntmps84
  go_wp2_with fail
  go_quiet ((go_at_call 105; exact Calls.quiet_of_same (cw _)))
  go_wp2_with fail
  go_ret
  exact ⟨rfl, below_drewN bA nq⟩
set_option maxRecDepth 100000 in
set_option maxHeartbeats 1000000 in
theorem isDayOf7 (w0 : World) (gm : Nat) (lv : Value) (n k : Int) (S : List M) (x b t : Int) (sv : Value) (W : World) (h : VSt w0 gm lv n S k W) :
    Calls Tryd.prog 84 #[.pointer (some ⟨gm, 0, none⟩), .agg #[.int .i64 7, .int .i64 x, .int .i64 b, .int .i64 t, sv]] W fun r w' => r = .returned (.bool (decide (x ≤ n) && decide (n ≤ b))) ∧ Below W.heap.size W w' := by
  obtain ⟨_, _, s0, nM, _⟩ := h
  have k0 := (cell_of_row _ _ 1 _ _ _ nM).trans rfl
  have bA := (Below.refl W.heap.size W).alloc (Nat.le_refl _) (.cells #[.int .i64 7, .int .i64 x, .int .i64 b, .int .i64 t, sv] 66)
  have nA := heap_alloc_new W (.cells #[.int .i64 7, .int .i64 x, .int .i64 b, .int .i64 t, sv] 66)
  have k0' := (bA.cell (block_lt_of_cell k0)).trans k0
  have z0 := (cell_of_row _ _ 0 _ _ _ nA).trans rfl
  have z1 := (cell_of_row _ _ 1 _ _ _ nA).trans rfl
  have z2 := (cell_of_row _ _ 2 _ _ _ nA).trans rfl
  generalize hwA : W.alloc (.cells #[.int .i64 7, .int .i64 x, .int .i64 b, .int .i64 t, sv] 66) = wA at *
  clear nM nA k0
  by_cases h1 : x ≤ n
  · by_cases h2 : n ≤ b
    · rw [decide_eq_true h1, decide_eq_true h2]
      go_enter Tryd.func84, Tryd.ntmps84
      go_wp2_with fail
      go_quiet (fail)
      go_wp2_with fail
      go_ret
      exact ⟨rfl, below_drewN bA nq⟩
    · rw [decide_eq_true h1, decide_eq_false h2]
      have hd2 : decide (n ≤ b) = false := decide_eq_false h2
      go_enter Tryd.func84, Tryd.ntmps84
      go_wp2_with fail
      go_quiet (fail)
      go_wp2_with fail
      go_ret
      first
        | exact ⟨rfl, below_drewN bA nq⟩
        | exact ⟨congrArg (fun x => Ending.returned (.bool x)) hd2, below_drewN bA nq⟩
  · rw [decide_eq_false h1]
    have hd1 : decide (x ≤ n) = false := decide_eq_false h1
    go_enter Tryd.func84, Tryd.ntmps84
    go_wp2_with fail
    go_quiet (fail)
    go_wp2_with fail
    go_ret
    exact ⟨rfl, below_drewN bA nq⟩
set_option maxRecDepth 100000 in
set_option maxHeartbeats 4000000 in
theorem join_any (K : Nat) (F : M → M → M) (eK : ∀ args w, (callFunc K args).run Tryd.prog w = .ok (.enter K args) w) (hK : ∀ (f g : M) (W : World), Calls Tryd.prog K #[.agg (mv f), .agg (mv g)] W fun e w' => e = .returned (.agg (mv (F f g))) ∧ Below W.heap.size W w')
    (w0 : World) (gm : Nat) (lv : Value) (day k : Int) (S : List M) (f g : M) (W : World) (h : VSt w0 gm lv day (S ++ [f, g]) k W) (hS : S.length ≤ 900) :
    Calls Tryd.prog 83 #[.pointer (some ⟨gm, 0, none⟩), .func (.func K) #[] #[]] W fun e W' => e = .returned (.tuple #[]) ∧ VSt w0 gm lv day (S ++ [F f g]) k W' := by
  have e0 : S ++ [f, g] = (S ++ [f]) ++ [g] := by simp
  rw [e0] at h
  have c1 := take_any w0 gm lv day k (S ++ [f]) g W h (by rw [List.length_append]; simp; omega)
  have hz := mv_lit
  have HK := hidv hK
  clear hK h e0
  go_enter Tryd.func83, Tryd.ntmps83
  go_wp2_with fail
  refine c1.mono ?_
  rintro e w1 ⟨rfl, h1, _⟩
  clear c1
  have bA := (Below.refl w1.heap.size w1).alloc (Nat.le_refl _) (.cells (mv fun _ => false) 37)
  have nA := heap_alloc_new w1 (.cells (mv fun _ => false) 37)
  generalize hwA : w1.alloc (.cells (mv fun _ => false) 37) = wA at *
  have bB := below_setRow bA (Nat.le_refl _) (mv g)
  have nB := setRow_heap _ _ _ (mv g) _ _ nA
  have h2 := h1.below bB
  obtain ⟨_, _, sv1, nM1, _⟩ := h1
  have hg1 : w1.heap.size ≠ gm := fun e => by
    have := lt_of_block nM1
    omega
  generalize hwB : wA.setRow w1.heap.size (mv g) = wB at *
  have c2 := take_any w0 gm lv day k S f wB h2 (by omega)
  clear h2 bA bB nM1
  go_wp2_with (refine wpList_store_row rfl 37 _ _ rfl _ _ rfl rfl _ _ nA (maskSize _) (by simp [mv_size]) (mv_all _) ?_)
  refine c2.mono ?_
  rintro e w2 ⟨rfl, h3, hfr⟩
  have nG := (hfr _ (lt_of_block nB) hg1).trans nB
  clear c2 hwA hwB nA nB hfr
  have bC := (Below.refl w2.heap.size w2).alloc (Nat.le_refl _) (.cells (mv fun _ => false) 37)
  have nC := heap_alloc_new w2 (.cells (mv fun _ => false) 37)
  generalize hwC : w2.alloc (.cells (mv fun _ => false) 37) = wC at *
  have bD := below_setRow bC (Nat.le_refl _) (mv f)
  have nD := setRow_heap _ _ _ (mv f) _ _ nC
  have nG2 := (bD.block _ (lt_of_block nG)).trans nG
  have h4 := h3.below bD
  generalize hwD : wC.setRow w2.heap.size (mv f) = wD at *
  have c3 := HK.out f g wD
  clear h3 bC bD nG
  go_wp2_with (first
    | (refine wpList_store_row rfl 37 _ _ rfl _ _ rfl rfl _ _ nC (maskSize _) (by simp [mv_size]) (mv_all _) ?_)
    | (refine wpList_load_row rfl 37 _ rfl _ rfl _ _ _ _ nD maskType rfl (maskSize _) ?_)
    | (refine wpList_load_row rfl 37 _ rfl _ rfl _ _ _ _ nG2 maskType rfl (maskSize _) ?_))
  refine c3.mono ?_
  rintro e w5 ⟨rfl, b5⟩
  have h5 := h4.below b5
  have c4 := put_any w0 gm lv day k S (F f g) w5 h5 (by omega)
  clear c3 h4 b5 h5 nC nD nG2 hwC hwD
  go_wp2_with fail
  refine c4.mono ?_
  rintro e w6 ⟨rfl, h6, _⟩
  have HN := hidv h6
  clear c4 h6
  go_wp2_with fail
  exact ⟨rfl, _, results_none rfl _ _ _, rfl, HN.out⟩
end Go.Proofs.YtpmobjgnmidolaaDoor

/- The machine's step, kind by kind. Written by genvmk.py. -/
namespace Go.Proofs.YtpmobjgnmidolaaDoor
open Go.RowKit Msk Vx

theorem spM_eq (l : List (Int × Int)) : spM l = inl l := rfl
theorem shM_eq (f : M) (x : Int) : shM f x = shf f x := rfl
set_option maxRecDepth 100000 in
set_option maxHeartbeats 4000000 in
theorem step_1 (w0 : World) (gm : Nat) (lv : Value) (day c : Int) (S : List M) (a b t : Int) (sv : Value) (sp : List (Int × Int)) (k : Nat) (W : World) (h : VSt w0 gm lv day S c W) (hr : RowV W sv sp) (hk : k ≤ 2000) (hS : S.length ≤ 900) :
    Calls Tryd.prog 60 #[.pointer (some ⟨gm, 0, none⟩), .agg #[.int .i64 1, .int .i64 a, .int .i64 b, .int .i64 t, sv], .int .i64 (k : Int)] W fun e W' => e = .returned (.int .i64 ((k + 1 : Nat) : Int)) ∧ VSt w0 gm lv day (S ++ [spM sp]) c W' := by
  have bX := (Below.refl W.heap.size W).alloc (Nat.le_refl _) (.cells #[.int .i64 1, .int .i64 a, .int .i64 b, .int .i64 t, sv] 66)
  have nX := heap_alloc_new W (.cells #[.int .i64 1, .int .i64 a, .int .i64 b, .int .i64 t, sv] 66)
  have hX := h.below bX
  have z0 := (cell_of_row _ _ 0 _ _ _ nX).trans rfl
  have z1 := (cell_of_row _ _ 1 _ _ _ nX).trans rfl
  have z3 := (cell_of_row _ _ 3 _ _ _ nX).trans rfl
  have z4 := (cell_of_row _ _ 4 _ _ _ nX).trans rfl
  have hk0 : (0 : Int) ≤ (k : Int) := by omega
  have hk1 : (k : Int) ≤ 2000 := by omega
  generalize hwX : W.alloc (.cells #[.int .i64 1, .int .i64 a, .int .i64 b, .int .i64 t, sv] 66) = wX at *
  have c1 := of_anyV sv sp wX (hr.later bX)
  rw [← spM_eq] at c1
  clear h hr bX
  go_enter Tryd.func60, Tryd.ntmps60
  go_wp2_with fail
  refine c1.mono ?_
  rintro e w1 ⟨rfl, b1⟩
  have h1 := hX.below b1
  have c2 := put_any w0 gm lv day c S (spM sp) w1 h1 (by omega)
  clear c1 hX b1 h1 z0 z1 z3 z4 nX hwX
  go_wp2_with fail
  refine c2.mono ?_
  rintro e w2 ⟨rfl, h2, _⟩
  have HN := hidv h2
  clear c2 h2
  go_wp2_with fail
  go_ret
  exact ⟨by go_num, HN.out⟩
set_option maxRecDepth 100000 in
set_option maxHeartbeats 4000000 in
theorem step_2 (w0 : World) (gm : Nat) (lv : Value) (day c : Int) (S : List M) (f g : M) (a b t : Int) (sv : Value) (k : Nat) (W : World) (h : VSt w0 gm lv day (S ++ [f, g]) c W) (hk : k ≤ 2000) (hS : S.length ≤ 900) :
    Calls Tryd.prog 60 #[.pointer (some ⟨gm, 0, none⟩), .agg #[.int .i64 2, .int .i64 a, .int .i64 b, .int .i64 t, sv], .int .i64 (k : Int)] W fun e W' => e = .returned (.int .i64 ((k + 1 : Nat) : Int)) ∧ VSt w0 gm lv day (S ++ [unM f g]) c W' := by
  have bX := (Below.refl W.heap.size W).alloc (Nat.le_refl _) (.cells #[.int .i64 2, .int .i64 a, .int .i64 b, .int .i64 t, sv] 66)
  have nX := heap_alloc_new W (.cells #[.int .i64 2, .int .i64 a, .int .i64 b, .int .i64 t, sv] 66)
  have hX := h.below bX
  have z0 := (cell_of_row _ _ 0 _ _ _ nX).trans rfl
  have z1 := (cell_of_row _ _ 1 _ _ _ nX).trans rfl
  have z3 := (cell_of_row _ _ 3 _ _ _ nX).trans rfl
  have z4 := (cell_of_row _ _ 4 _ _ _ nX).trans rfl
  have hk0 : (0 : Int) ≤ (k : Int) := by omega
  have hk1 : (k : Int) ≤ 2000 := by omega
  generalize hwX : W.alloc (.cells #[.int .i64 2, .int .i64 a, .int .i64 b, .int .i64 t, sv] 66) = wX at *
  have c1 := join_any 78 unM (fun _ _ => by simp [go_sem]) (fun f g W => union_any f g W) w0 gm lv day c S f g wX hX (by omega)
  clear h bX hX nX
  go_enter Tryd.func60, Tryd.ntmps60
  go_wp2_with fail
  refine c1.mono ?_
  rintro e w1 ⟨rfl, h1⟩
  have HN := hidv h1
  clear c1 h1 z0 z1 z3 z4 hwX
  go_wp2_with fail
  go_ret
  exact ⟨by go_num, HN.out⟩
set_option maxRecDepth 100000 in
set_option maxHeartbeats 4000000 in
theorem step_3 (w0 : World) (gm : Nat) (lv : Value) (day c : Int) (S : List M) (f g : M) (a b t : Int) (sv : Value) (k : Nat) (W : World) (h : VSt w0 gm lv day (S ++ [f, g]) c W) (hk : k ≤ 2000) (hS : S.length ≤ 900) :
    Calls Tryd.prog 60 #[.pointer (some ⟨gm, 0, none⟩), .agg #[.int .i64 3, .int .i64 a, .int .i64 b, .int .i64 t, sv], .int .i64 (k : Int)] W fun e W' => e = .returned (.int .i64 ((k + 1 : Nat) : Int)) ∧ VSt w0 gm lv day (S ++ [dfM f g]) c W' := by
  have bX := (Below.refl W.heap.size W).alloc (Nat.le_refl _) (.cells #[.int .i64 3, .int .i64 a, .int .i64 b, .int .i64 t, sv] 66)
  have nX := heap_alloc_new W (.cells #[.int .i64 3, .int .i64 a, .int .i64 b, .int .i64 t, sv] 66)
  have hX := h.below bX
  have z0 := (cell_of_row _ _ 0 _ _ _ nX).trans rfl
  have z1 := (cell_of_row _ _ 1 _ _ _ nX).trans rfl
  have z3 := (cell_of_row _ _ 3 _ _ _ nX).trans rfl
  have z4 := (cell_of_row _ _ 4 _ _ _ nX).trans rfl
  have hk0 : (0 : Int) ≤ (k : Int) := by omega
  have hk1 : (k : Int) ≤ 2000 := by omega
  generalize hwX : W.alloc (.cells #[.int .i64 3, .int .i64 a, .int .i64 b, .int .i64 t, sv] 66) = wX at *
  have c1 := join_any 79 dfM (fun _ _ => by simp [go_sem]) (fun f g W => diff_any f g W) w0 gm lv day c S f g wX hX (by omega)
  clear h bX hX nX
  go_enter Tryd.func60, Tryd.ntmps60
  go_wp2_with fail
  refine c1.mono ?_
  rintro e w1 ⟨rfl, h1⟩
  have HN := hidv h1
  clear c1 h1 z0 z1 z3 z4 hwX
  go_wp2_with fail
  go_ret
  exact ⟨by go_num, HN.out⟩
set_option maxRecDepth 100000 in
set_option maxHeartbeats 4000000 in
theorem step_4 (w0 : World) (gm : Nat) (lv : Value) (day c : Int) (S : List M) (f g : M) (a b t : Int) (sv : Value) (k : Nat) (W : World) (h : VSt w0 gm lv day (S ++ [f, g]) c W) (hk : k ≤ 2000) (hS : S.length ≤ 900) :
    Calls Tryd.prog 60 #[.pointer (some ⟨gm, 0, none⟩), .agg #[.int .i64 4, .int .i64 a, .int .i64 b, .int .i64 t, sv], .int .i64 (k : Int)] W fun e W' => e = .returned (.int .i64 ((k + 1 : Nat) : Int)) ∧ VSt w0 gm lv day (S ++ [boM f g]) c W' := by
  have bX := (Below.refl W.heap.size W).alloc (Nat.le_refl _) (.cells #[.int .i64 4, .int .i64 a, .int .i64 b, .int .i64 t, sv] 66)
  have nX := heap_alloc_new W (.cells #[.int .i64 4, .int .i64 a, .int .i64 b, .int .i64 t, sv] 66)
  have hX := h.below bX
  have z0 := (cell_of_row _ _ 0 _ _ _ nX).trans rfl
  have z1 := (cell_of_row _ _ 1 _ _ _ nX).trans rfl
  have z3 := (cell_of_row _ _ 3 _ _ _ nX).trans rfl
  have z4 := (cell_of_row _ _ 4 _ _ _ nX).trans rfl
  have hk0 : (0 : Int) ≤ (k : Int) := by omega
  have hk1 : (k : Int) ≤ 2000 := by omega
  generalize hwX : W.alloc (.cells #[.int .i64 4, .int .i64 a, .int .i64 b, .int .i64 t, sv] 66) = wX at *
  have c1 := join_any 80 boM (fun _ _ => by simp [go_sem]) (fun f g W => both_any f g W) w0 gm lv day c S f g wX hX (by omega)
  clear h bX hX nX
  go_enter Tryd.func60, Tryd.ntmps60
  go_wp2_with fail
  refine c1.mono ?_
  rintro e w1 ⟨rfl, h1⟩
  have HN := hidv h1
  clear c1 h1 z0 z1 z3 z4 hwX
  go_wp2_with fail
  go_ret
  exact ⟨by go_num, HN.out⟩
/-- What is said of the world while a mask is shifted. -/
structure ShJ (w0 : World) (gm : Nat) (lv : Value) (day c : Int) (S : List M) (g g' : M) (gx : Nat) (X : Array Value) (L : Nat → Bool) (W : World) : Prop where
  box : W.heap[gx]? = some (.cells X 66 (0, 0))
  ahead : L 2 = false → VSt w0 gm lv day (S ++ [g]) c W
  mid : L 2 = true → L 6 = false → VSt w0 gm lv day S c W
  fin : L 6 = true → VSt w0 gm lv day (S ++ [g']) c W
theorem ShJ.same {w0 : World} {gm : Nat} {lv : Value} {day c : Int} {S : List M} {g g' : M} {gx : Nat} {X : Array Value} {L : Nat → Bool} {W W' : World} (h : ShJ w0 gm lv day c S g g' gx X L W) (i : Nat) (h2 : i ≠ 2) (h6 : i ≠ 6) (hb : Below W.heap.size W W') : ShJ w0 gm lv day c S g g' gx X (fun k => decide (i = k) || L k) W' := by
  refine ⟨(hb.block _ (lt_of_block h.box)).trans h.box, fun e => ?_, fun e e' => ?_, fun e => ?_⟩
  · exact (h.ahead (Bool.or_eq_false_iff.1 e).2).below hb
  · exact (h.mid (by simpa [h2] using e) (Bool.or_eq_false_iff.1 e').2).below hb
  · exact (h.fin (by simpa [h6] using e)).below hb
set_option maxRecDepth 100000 in
set_option maxHeartbeats 4000000 in
theorem step_5 (w0 : World) (gm : Nat) (lv : Value) (day c : Int) (S : List M) (g : M) (a b t : Int) (sv : Value) (k : Nat) (W : World) (h : VSt w0 gm lv day (S ++ [g]) c W) (hk : k ≤ 2000) (hS : S.length ≤ 900) (ha0 : -1439 ≤ a) (ha1 : a ≤ 1439) :
    Calls Tryd.prog 60 #[.pointer (some ⟨gm, 0, none⟩), .agg #[.int .i64 5, .int .i64 a, .int .i64 b, .int .i64 t, sv], .int .i64 (k : Int)] W fun e W' => e = .returned (.int .i64 ((k + 1 : Nat) : Int)) ∧ VSt w0 gm lv day (S ++ [shM g a]) c W' := by
  have bX := (Below.refl W.heap.size W).alloc (Nat.le_refl _) (.cells #[.int .i64 5, .int .i64 a, .int .i64 b, .int .i64 t, sv] 66)
  have nX := heap_alloc_new W (.cells #[.int .i64 5, .int .i64 a, .int .i64 b, .int .i64 t, sv] 66)
  have hX := h.below bX
  have z0 := (cell_of_row _ _ 0 _ _ _ nX).trans rfl
  have z1 := (cell_of_row _ _ 1 _ _ _ nX).trans rfl
  have z3 := (cell_of_row _ _ 3 _ _ _ nX).trans rfl
  have z4 := (cell_of_row _ _ 4 _ _ _ nX).trans rfl
  have hk0 : (0 : Int) ≤ (k : Int) := by omega
  have hk1 : (k : Int) ≤ 2000 := by omega
  generalize hwX : W.alloc (.cells #[.int .i64 5, .int .i64 a, .int .i64 b, .int .i64 t, sv] 66) = wX at *
  have HSH : Hid (∀ W, Calls Tryd.prog 81 #[.agg (mv g), .int .i64 a] W fun e w' => e = .returned (.agg (mv (shM g a))) ∧ Below W.heap.size W w') := fun W => mshift_any g a W (by omega) (by omega)
  have hgx : W.heap.size ≠ gm := fun e => by
    obtain ⟨_, _, _, q, _⟩ := h
    have := lt_of_block q
    omega
  clear h bX z1 z3 z4
  go_enter Tryd.func60, Tryd.ntmps60
  go_wp2_with fail
  obtain ⟨gx, hgx'⟩ : ∃ b, W.heap.size = b := ⟨_, rfl⟩
  rw [hgx'] at nX hgx
  simp only [hgx']
  clear hgx' hwX z0
  refine wp_region_JL (ShJ w0 gm lv day c S g (shM g a) gx #[.int .i64 5, .int .i64 a, .int .i64 b, .int .i64 t, sv]) (fun L hL => ⟨nX, fun _ => hX.below (Below.refl _ _).drew, fun e => (by rw [hL 2 (by decide)] at e; cases e), fun e => (by rw [hL 6 (by decide)] at e; cases e)⟩) (by kernel_rfl) (by kernel_rfl) (by kernel_rfl) (by kernel_rfl) [(some 30, .pointer (some ⟨gm, 0, none⟩)), (some 31, .pointer (some ⟨gm, 0, none⟩)), (some 32, .agg (mv g)), (some 33, .pointer (some ⟨gx, 1, none⟩)), (some 34, .int .i64 a), (some 35, .agg (mv (shM g a))), (some 36, .tuple #[])] [(30, .pointer (some ⟨gm, 0, none⟩)), (31, .pointer (some ⟨gm, 0, none⟩)), (32, .agg (mv g)), (33, .pointer (some ⟨gx, 1, none⟩)), (34, .int .i64 a), (35, .agg (mv (shM g a))), (36, .tuple #[])] (by kernel_rfl) (by kernel_rfl) (by kernel_rfl) ?_ ?_
  · intro i' d v o' L A W2 ho hv hLi hdep hc hJ hkept hhas
    match i', ho, hv, hLi with
    | 0, ho, hv, hLi =>
      cases Option.some.inj ho
      cases Option.some.inj hv
      have h0 : A.tmps[0]?.getD undef = .pointer (some ⟨gm, 0, none⟩) := (gd A 0).trans (hkept 0 (by kernel_rfl))
      refine wpOp_step rfl (fun K hK => ?_)
      go_simp
      exact hK _ _ ⟨rfl, hJ.same 0 (by decide) (by decide) (Below.refl _ _)⟩
    | 1, ho, hv, hLi =>
      cases Option.some.inj ho
      cases Option.some.inj hv
      have h0 : A.tmps[0]?.getD undef = .pointer (some ⟨gm, 0, none⟩) := (gd A 0).trans (hkept 0 (by kernel_rfl))
      refine wpOp_step rfl (fun K hK => ?_)
      go_simp
      exact hK _ _ ⟨rfl, hJ.same 1 (by decide) (by decide) (Below.refl _ _)⟩
    | 2, ho, hv, hLi =>
      cases Option.some.inj ho
      cases Option.some.inj hv
      have h31 : A.tmps[31]?.getD undef = .pointer (some ⟨gm, 0, none⟩) := (gd A 31).trans (hhas 1 31 _ rfl (hdep ⟨1, .data⟩ (by simp) rfl))
      refine wpOp_step rfl (fun K hK => ?_)
      go_simp
      refine (take_any w0 gm lv day c S g W2 (hJ.ahead hLi) (by omega)).mono ?_
      rintro e' W' ⟨rfl, hM, hfr⟩
      have hbx := (hfr _ (lt_of_block hJ.box) hgx).trans hJ.box
      have n6 : L 6 = false := by
        cases h : L 6 with
        | false => rfl
        | true =>
          have q5 := hc 6 _ rfl h ⟨5, .data⟩ (by simp) rfl
          have q2 := hc 5 _ rfl q5 ⟨2, .data⟩ (by simp) rfl
          rw [hLi] at q2; cases q2
      exact hK _ _ ⟨rfl, hbx, fun e => by simp at e, fun _ _ => hM, fun e => by simp [n6] at e⟩
    | 3, ho, hv, hLi =>
      cases Option.some.inj ho
      cases Option.some.inj hv
      have h4 : A.tmps[4]?.getD undef = .pointer (some ⟨gx, 0, none⟩) := (gd A 4).trans (hkept 4 (by kernel_rfl))
      have zz := (cell_of_row _ _ 1 _ _ _ hJ.box).trans rfl
      refine wpOp_step rfl (fun K hK => ?_)
      go_simp
      exact hK _ _ ⟨rfl, hJ.same 3 (by decide) (by decide) (Below.refl _ _)⟩
    | 4, ho, hv, hLi =>
      cases Option.some.inj ho
      cases Option.some.inj hv
      have h33 : A.tmps[33]?.getD undef = .pointer (some ⟨gx, 1, none⟩) := (gd A 33).trans (hhas 3 33 _ rfl (hdep ⟨3, .data⟩ (by simp) rfl))
      have zz := (cell_of_row _ _ 1 _ _ _ hJ.box).trans rfl
      refine wpOp_step rfl (fun K hK => ?_)
      go_simp
      exact hK _ _ ⟨rfl, hJ.same 4 (by decide) (by decide) (Below.refl _ _)⟩
    | 5, ho, hv, hLi =>
      cases Option.some.inj ho
      cases Option.some.inj hv
      have h32 : A.tmps[32]?.getD undef = .agg (mv g) := (gd A 32).trans (hhas 2 32 _ rfl (hdep ⟨2, .data⟩ (by simp) rfl))
      have h34 : A.tmps[34]?.getD undef = .int .i64 a := (gd A 34).trans (hhas 4 34 _ rfl (hdep ⟨4, .data⟩ (by simp) rfl))
      refine wpOp_step rfl (fun K hK => ?_)
      go_simp
      refine (HSH.out W2).mono ?_
      rintro e' W' ⟨rfl, hb'⟩
      exact hK _ _ ⟨rfl, hJ.same 5 (by decide) (by decide) hb'⟩
    | 6, ho, hv, hLi =>
      cases Option.some.inj ho
      cases Option.some.inj hv
      have h30 : A.tmps[30]?.getD undef = .pointer (some ⟨gm, 0, none⟩) := (gd A 30).trans (hhas 0 30 _ rfl (hdep ⟨0, .data⟩ (by simp) rfl))
      have h35 : A.tmps[35]?.getD undef = .agg (mv (shM g a)) := (gd A 35).trans (hhas 5 35 _ rfl (hdep ⟨5, .data⟩ (by simp) rfl))
      refine wpOp_step rfl (fun K hK => ?_)
      go_simp
      have q5 : L 5 = true := hdep ⟨5, .data⟩ (by simp) rfl
      have q2 : L 2 = true := hc 5 _ rfl q5 ⟨2, .data⟩ (by simp) rfl
      refine (put_any w0 gm lv day c S (shM g a) W2 (hJ.mid q2 hLi) (by omega)).mono ?_
      rintro e' W' ⟨rfl, hM, hfr⟩
      have hbx := hfr _ _ _ hJ.box (by decide) hgx
      exact hK _ _ ⟨rfl, hbx, fun e => by simp [q2] at e, fun _ e => by simp at e, fun _ => hM⟩
    | kk + 7, ho, hv, hLi => simp at hv
  · intro L W5 hL hJ
    have HN := hidv (hJ.fin (hL 6 (by decide)))
    simp only [putAll_cons, putAll_nil, Act.put, List.setIfInBounds_toArray, List.set_cons_succ, List.set_cons_zero]
    clear hL hJ HSH hX nX
    go_wp2_with fail
    go_ret
    exact ⟨by go_num, HN.out⟩
set_option maxRecDepth 100000 in
set_option maxHeartbeats 4000000 in
theorem step_8 (w0 : World) (gm : Nat) (lv : Value) (day c : Int) (S S' : List M) (c' : Int) (a b t : Int) (sv : Value) (k : Nat) (W : World) (h : VSt w0 gm lv day S c W) (hk : k ≤ 2000)
    (hrun : ∀ W, VSt w0 gm lv day S c W → Calls Tryd.prog 27 #[.pointer (some ⟨gm, 0, none⟩), .int .i64 a] W fun e W' => e = .returned (.tuple #[]) ∧ VSt w0 gm lv day S' c' W') :
    Calls Tryd.prog 60 #[.pointer (some ⟨gm, 0, none⟩), .agg #[.int .i64 8, .int .i64 a, .int .i64 b, .int .i64 t, sv], .int .i64 (k : Int)] W fun e W' => e = .returned (.int .i64 ((k + 1 : Nat) : Int)) ∧ VSt w0 gm lv day S' c' W' := by
  have bX := (Below.refl W.heap.size W).alloc (Nat.le_refl _) (.cells #[.int .i64 8, .int .i64 a, .int .i64 b, .int .i64 t, sv] 66)
  have nX := heap_alloc_new W (.cells #[.int .i64 8, .int .i64 a, .int .i64 b, .int .i64 t, sv] 66)
  have hX := h.below bX
  have z0 := (cell_of_row _ _ 0 _ _ _ nX).trans rfl
  have z1 := (cell_of_row _ _ 1 _ _ _ nX).trans rfl
  have z3 := (cell_of_row _ _ 3 _ _ _ nX).trans rfl
  have z4 := (cell_of_row _ _ 4 _ _ _ nX).trans rfl
  have hk0 : (0 : Int) ≤ (k : Int) := by omega
  have hk1 : (k : Int) ≤ 2000 := by omega
  generalize hwX : W.alloc (.cells #[.int .i64 8, .int .i64 a, .int .i64 b, .int .i64 t, sv] 66) = wX at *
  have c1 := hrun wX hX
  clear h bX hX nX hrun
  go_enter Tryd.func60, Tryd.ntmps60
  go_wp2_with fail
  refine c1.mono ?_
  rintro e w1 ⟨rfl, h1⟩
  have HN := hidv h1
  clear c1 h1 z0 z1 z3 z4 hwX
  go_wp2_with fail
  go_ret
  exact ⟨by go_num, HN.out⟩
set_option maxRecDepth 100000 in
set_option maxHeartbeats 4000000 in
theorem step_6 (w0 : World) (gm : Nat) (lv : Value) (day c : Int) (S : List M) (a b t : Int) (ps : Option Addr) (ls cs : Nat) (k : Nat) (W : World) (h : VSt w0 gm lv day S c W) (hk : k ≤ 2000) (hS : S.length ≤ 900) (d0 : 0 ≤ day) (d1 : day < 146097) :
    Calls Tryd.prog 60 #[.pointer (some ⟨gm, 0, none⟩), .agg #[.int .i64 6, .int .i64 a, .int .i64 b, .int .i64 t, .slice ps ls cs], .int .i64 (k : Int)] W fun e W' => e = .returned (.int .i64 (if wkB9 day a = true then ((k + 1 : Nat) : Int) else t)) ∧ VSt w0 gm lv day (if wkB9 day a = true then S else S ++ [noM]) c W' := by
  obtain ⟨sv, hsv⟩ : ∃ v, Value.slice ps ls cs = v := ⟨_, rfl⟩
  have bX := (Below.refl W.heap.size W).alloc (Nat.le_refl _) (.cells #[.int .i64 6, .int .i64 a, .int .i64 b, .int .i64 t, .slice ps ls cs] 66)
  have nX := heap_alloc_new W (.cells #[.int .i64 6, .int .i64 a, .int .i64 b, .int .i64 t, .slice ps ls cs] 66)
  have hX := h.below bX
  have z0 := (cell_of_row _ _ 0 _ _ _ nX).trans rfl
  have z1 := (cell_of_row _ _ 1 _ _ _ nX).trans rfl
  have z3 := (cell_of_row _ _ 3 _ _ _ nX).trans rfl
  have z4 := (cell_of_row _ _ 4 _ _ _ nX).trans rfl
  have hk0 : (0 : Int) ≤ (k : Int) := by omega
  have hk1 : (k : Int) ≤ 2000 := by omega
  generalize hwX : W.alloc (.cells #[.int .i64 6, .int .i64 a, .int .i64 b, .int .i64 t, .slice ps ls cs] 66) = wX at *
  have c1 := isDayOf6 w0 gm lv day c S a b t (.slice ps ls cs) wX hX d0 d1
  have hgx : W.heap.size ≠ gm := fun e => by
    obtain ⟨_, _, _, q, _⟩ := h
    have := lt_of_block q
    omega
  have hz := mv_lit
  clear h bX d0 d1 hsv
  generalize wkB9 day a = q at *
  cases q with
  | true =>
    simp only [if_true]
    go_enter Tryd.func60, Tryd.ntmps60
    go_wp2_with (refine wpList_load_row rfl 66 _ rfl _ rfl _ _ _ _ nX insType rfl (by kernel_rfl) ?_)
    refine c1.mono ?_
    rintro e w1 ⟨rfl, b1⟩
    have HN := hidv (hX.below b1)
    clear c1 hX b1 z0 z1 z3 z4 hwX nX
    go_wp2_with fail
    go_ret
    exact ⟨by go_num, HN.out⟩
  | false =>
    simp only [Bool.false_eq_true, if_false]
    go_enter Tryd.func60, Tryd.ntmps60
    go_wp2_with (refine wpList_load_row rfl 66 _ rfl _ rfl _ _ _ _ nX insType rfl (by kernel_rfl) ?_)
    refine c1.mono ?_
    rintro e w1 ⟨rfl, b1⟩
    have h1 := hX.below b1
    have nX1 := (b1.block _ (lt_of_block nX)).trans nX
    have c2 := put_any w0 gm lv day c S noM w1 h1 (by omega)
    unfold noM at c2
    clear c1 hX b1 h1 z0 z1 z3 z4 hwX nX
    go_wp2_with fail
    refine c2.mono ?_
    rintro e w2 ⟨rfl, h2, hfr⟩
    have nX2 := hfr _ _ _ nX1 (by decide) hgx
    have z3 := (cell_of_row _ _ 3 _ _ _ nX2).trans rfl
    have HN := hidv h2
    clear c2 h2 hfr nX1 nX2
    go_wp2_with fail
    go_ret
    exact ⟨rfl, HN.out⟩
set_option maxRecDepth 100000 in
set_option maxHeartbeats 4000000 in
theorem step_7 (w0 : World) (gm : Nat) (lv : Value) (day c : Int) (S : List M) (a b t : Int) (ps : Option Addr) (ls cs : Nat) (k : Nat) (W : World) (h : VSt w0 gm lv day S c W) (hk : k ≤ 2000) (hS : S.length ≤ 900) :
    Calls Tryd.prog 60 #[.pointer (some ⟨gm, 0, none⟩), .agg #[.int .i64 7, .int .i64 a, .int .i64 b, .int .i64 t, .slice ps ls cs], .int .i64 (k : Int)] W fun e W' => e = .returned (.int .i64 (if (decide (a ≤ day) && decide (day ≤ b)) = true then ((k + 1 : Nat) : Int) else t)) ∧ VSt w0 gm lv day (if (decide (a ≤ day) && decide (day ≤ b)) = true then S else S ++ [noM]) c W' := by
  obtain ⟨sv, hsv⟩ : ∃ v, Value.slice ps ls cs = v := ⟨_, rfl⟩
  have bX := (Below.refl W.heap.size W).alloc (Nat.le_refl _) (.cells #[.int .i64 7, .int .i64 a, .int .i64 b, .int .i64 t, .slice ps ls cs] 66)
  have nX := heap_alloc_new W (.cells #[.int .i64 7, .int .i64 a, .int .i64 b, .int .i64 t, .slice ps ls cs] 66)
  have hX := h.below bX
  have z0 := (cell_of_row _ _ 0 _ _ _ nX).trans rfl
  have z1 := (cell_of_row _ _ 1 _ _ _ nX).trans rfl
  have z3 := (cell_of_row _ _ 3 _ _ _ nX).trans rfl
  have z4 := (cell_of_row _ _ 4 _ _ _ nX).trans rfl
  have hk0 : (0 : Int) ≤ (k : Int) := by omega
  have hk1 : (k : Int) ≤ 2000 := by omega
  generalize hwX : W.alloc (.cells #[.int .i64 7, .int .i64 a, .int .i64 b, .int .i64 t, .slice ps ls cs] 66) = wX at *
  have c1 := isDayOf7 w0 gm lv day c S a b t (.slice ps ls cs) wX hX
  have hgx : W.heap.size ≠ gm := fun e => by
    obtain ⟨_, _, _, q, _⟩ := h
    have := lt_of_block q
    omega
  have hz := mv_lit
  clear h bX hsv
  generalize (decide (a ≤ day) && decide (day ≤ b)) = q at *
  cases q with
  | true =>
    simp only [if_true]
    go_enter Tryd.func60, Tryd.ntmps60
    go_wp2_with (refine wpList_load_row rfl 66 _ rfl _ rfl _ _ _ _ nX insType rfl (by kernel_rfl) ?_)
    refine c1.mono ?_
    rintro e w1 ⟨rfl, b1⟩
    have HN := hidv (hX.below b1)
    clear c1 hX b1 z0 z1 z3 z4 hwX nX
    go_wp2_with fail
    go_ret
    exact ⟨by go_num, HN.out⟩
  | false =>
    simp only [Bool.false_eq_true, if_false]
    go_enter Tryd.func60, Tryd.ntmps60
    go_wp2_with (refine wpList_load_row rfl 66 _ rfl _ rfl _ _ _ _ nX insType rfl (by kernel_rfl) ?_)
    refine c1.mono ?_
    rintro e w1 ⟨rfl, b1⟩
    have h1 := hX.below b1
    have nX1 := (b1.block _ (lt_of_block nX)).trans nX
    have c2 := put_any w0 gm lv day c S noM w1 h1 (by omega)
    unfold noM at c2
    clear c1 hX b1 h1 z0 z1 z3 z4 hwX nX
    go_wp2_with fail
    refine c2.mono ?_
    rintro e w2 ⟨rfl, h2, hfr⟩
    have nX2 := hfr _ _ _ nX1 (by decide) hgx
    have z3 := (cell_of_row _ _ 3 _ _ _ nX2).trans rfl
    have HN := hidv h2
    clear c2 h2 hfr nX1 nX2
    go_wp2_with fail
    go_ret
    exact ⟨rfl, HN.out⟩
end Go.Proofs.YtpmobjgnmidolaaDoor
