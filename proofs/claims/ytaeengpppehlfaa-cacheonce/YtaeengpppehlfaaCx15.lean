/- What is asked first of caches: slotlaw9.alive. Written by gencai.py. -/
import Derived.Test.YtaeengpppehlfaaCx14
import Derived.Test.YtaeengpppehlfaaCx05
import Derived.Laws.StructEq
namespace Go.Proofs.Ytaeengpppehlfaa
open Go.RowKit Msk Vx

theorem put_other {A : Act} {s s' : Nat} {v : Value} (h : s ≠ s') : (A.put (some s) v).tmps.getD s' undef = A.tmps.getD s' undef := getD_set_other _ _ _ _ h
theorem put_same {A : Act} {s : Nat} {v : Value} (h : s < A.tmps.size) : (A.put (some s) v).tmps.getD s undef = v := getD_set_same _ _ _ h
theorem put_size {A : Act} {s : Nat} {v : Value} : (A.put (some s) v).tmps.size = A.tmps.size := by simp [Act.put]
theorem type_ne {W : World} {g g' : Nat} {c c' : Array Value} {T T' : TypeId} (h : W.heap[g]? = some (.cells c T (0, 0))) (h' : W.heap[g']? = some (.cells c' T' (0, 0))) (hT : T ≠ T') : g ≠ g' := fun e => by
  subst e
  rw [h] at h'
  injection h' with h'
  injection h' with _ h2 _
  exact hT h2
/-- What is so while the second answer is laid. -/
structure AJ (w1 : World) (L : Nat → Bool) (A : Act) (W : World) : Prop where
  bel : Below w1.heap.size w1 W
  sz : A.tmps.size = 50
  inv : L 1 = true → L 2 = false → InV W (A.tmps.getD 16 undef) al9
  a4 : L 7 = true → ∃ g, A.tmps.getD 4 undef = .pointer (some ⟨g, 0, none⟩) ∧ w1.heap.size ≤ g ∧ ∃ f : M, W.heap[g]? = some (.cells (mv f) 25 (0, 0))
  a5 : L 8 = true → ∃ g, A.tmps.getD 5 undef = .pointer (some ⟨g, 0, none⟩) ∧ w1.heap.size ≤ g ∧ ∃ (p : Option Addr) (n c : Nat) (r : Int), W.heap[g]? = some (.cells #[.slice p n c, .int .i64 r] 40 (0, 0)) ∧ (L 11 = true → n = 1 ∧ r = 1)
  a6 : L 9 = true → ∃ g, A.tmps.getD 6 undef = .pointer (some ⟨g, 0, none⟩) ∧ w1.heap.size ≤ g ∧ W.heap[g]? = some (.cells #[.int .i64 0, .int .i64 0] 28 (0, 0))
section
variable {w1 W W' : World} {L : Nat → Bool} {A : Act}
theorem AJ.on (h : AJ w1 L A W) (i s : Nat) (v : Value) (hi : i ≠ 1 ∧ i ≠ 7 ∧ i ≠ 8 ∧ i ≠ 9 ∧ i ≠ 11) (hs : s ≠ 16 ∧ s ≠ 4 ∧ s ≠ 5 ∧ s ≠ 6) (hb : Below W.heap.size W W') : AJ w1 (fun k => decide (i = k) || L k) (A.put (some s) v) W' := by
  refine ⟨h.bel.trans (hb.mono h.bel.size), by rw [put_size]; exact h.sz, fun e e' => ?_, fun e => ?_, fun e => ?_, fun e => ?_⟩
  · rw [put_other hs.1]
    exact (h.inv (or_t hi.1 e) (or_f e')).below hb
  · obtain ⟨g, e1, e2, f, e3⟩ := h.a4 (or_t hi.2.1 e)
    exact ⟨g, (put_other hs.2.1).trans e1, e2, f, (hb.block _ (lt_of_block e3)).trans e3⟩
  · obtain ⟨g, e1, e2, p, n, c, r, e3, e4⟩ := h.a5 (or_t hi.2.2.1 e)
    exact ⟨g, (put_other hs.2.2.1).trans e1, e2, p, n, c, r, (hb.block _ (lt_of_block e3)).trans e3, fun q => e4 (or_t hi.2.2.2.2 q)⟩
  · obtain ⟨g, e1, e2, e3⟩ := h.a6 (or_t hi.2.2.2.1 e)
    exact ⟨g, (put_other hs.2.2.2).trans e1, e2, (hb.block _ (lt_of_block e3)).trans e3⟩
theorem AJ.code (h : AJ w1 L A W) (v : Value) (hb : Below W.heap.size W W') (hv : InV W' v al9) : AJ w1 (fun k => decide (1 = k) || L k) (A.put (some 16) v) W' := by
  refine ⟨h.bel.trans (hb.mono h.bel.size), by rw [put_size]; exact h.sz, fun _ _ => ?_, fun e => ?_, fun e => ?_, fun e => ?_⟩
  · rw [put_same (by rw [h.sz]; decide)]
    exact hv
  · obtain ⟨g, e1, e2, f, e3⟩ := h.a4 (or_t (by decide) e)
    exact ⟨g, (put_other (by decide)).trans e1, e2, f, (hb.block _ (lt_of_block e3)).trans e3⟩
  · obtain ⟨g, e1, e2, p, n, c, r, e3, e4⟩ := h.a5 (or_t (by decide) e)
    exact ⟨g, (put_other (by decide)).trans e1, e2, p, n, c, r, (hb.block _ (lt_of_block e3)).trans e3, fun q => e4 (or_t (by decide) q)⟩
  · obtain ⟨g, e1, e2, e3⟩ := h.a6 (or_t (by decide) e)
    exact ⟨g, (put_other (by decide)).trans e1, e2, (hb.block _ (lt_of_block e3)).trans e3⟩
theorem AJ.made4 (h : AJ w1 L A W) : AJ w1 (fun k => decide (7 = k) || L k) (A.put (some 4) (.pointer (some ⟨W.heap.size, 0, none⟩))) (W.alloc (.cells (mv fun _ => false) 25)) := by
  have hb := (Below.refl W.heap.size W).alloc (Nat.le_refl _) (.cells (mv fun _ => false) 25)
  have hn := heap_alloc_new W (.cells (mv fun _ => false) 25)
  have hz := h.bel.size
  refine ⟨h.bel.trans (hb.mono h.bel.size), by rw [put_size]; exact h.sz, fun e e' => ?_, fun e => ?_, fun e => ?_, fun e => ?_⟩
  · rw [put_other (by decide)]
    exact (h.inv (or_t (by decide) e) (or_f e')).below hb
  · exact ⟨_, put_same (by rw [h.sz]; decide), hz, _, hn⟩
  · obtain ⟨g, e1, e2, p, n, c, r, e3, e4⟩ := h.a5 (or_t (by decide) e)
    exact ⟨g, (put_other (by decide)).trans e1, e2, p, n, c, r, (hb.block _ (lt_of_block e3)).trans e3, fun q => e4 (or_t (by decide) q)⟩
  · obtain ⟨g, e1, e2, e3⟩ := h.a6 (or_t (by decide) e)
    exact ⟨g, (put_other (by decide)).trans e1, e2, (hb.block _ (lt_of_block e3)).trans e3⟩
theorem AJ.made5 (h : AJ w1 L A W) (h11 : L 11 = false) : AJ w1 (fun k => decide (8 = k) || L k) (A.put (some 5) (.pointer (some ⟨W.heap.size, 0, none⟩))) (W.alloc (.cells #[.slice none 0 0, .int .i64 0] 40)) := by
  have hb := (Below.refl W.heap.size W).alloc (Nat.le_refl _) (.cells #[.slice none 0 0, .int .i64 0] 40)
  have hn := heap_alloc_new W (.cells #[.slice none 0 0, .int .i64 0] 40)
  have hz := h.bel.size
  refine ⟨h.bel.trans (hb.mono h.bel.size), by rw [put_size]; exact h.sz, fun e e' => ?_, fun e => ?_, fun e => ?_, fun e => ?_⟩
  · rw [put_other (by decide)]
    exact (h.inv (or_t (by decide) e) (or_f e')).below hb
  · obtain ⟨g, e1, e2, f, e3⟩ := h.a4 (or_t (by decide) e)
    exact ⟨g, (put_other (by decide)).trans e1, e2, f, (hb.block _ (lt_of_block e3)).trans e3⟩
  · exact ⟨_, put_same (by rw [h.sz]; decide), hz, _, _, _, _, hn, fun q => absurd (or_t (by decide) q) (by rw [h11]; decide)⟩
  · obtain ⟨g, e1, e2, e3⟩ := h.a6 (or_t (by decide) e)
    exact ⟨g, (put_other (by decide)).trans e1, e2, (hb.block _ (lt_of_block e3)).trans e3⟩
theorem AJ.made6 (h : AJ w1 L A W) : AJ w1 (fun k => decide (9 = k) || L k) (A.put (some 6) (.pointer (some ⟨W.heap.size, 0, none⟩))) (W.alloc (.cells #[.int .i64 0, .int .i64 0] 28)) := by
  have hb := (Below.refl W.heap.size W).alloc (Nat.le_refl _) (.cells #[.int .i64 0, .int .i64 0] 28)
  have hn := heap_alloc_new W (.cells #[.int .i64 0, .int .i64 0] 28)
  have hz := h.bel.size
  refine ⟨h.bel.trans (hb.mono h.bel.size), by rw [put_size]; exact h.sz, fun e e' => ?_, fun e => ?_, fun e => ?_, fun e => ?_⟩
  · rw [put_other (by decide)]
    exact (h.inv (or_t (by decide) e) (or_f e')).below hb
  · obtain ⟨g, e1, e2, f, e3⟩ := h.a4 (or_t (by decide) e)
    exact ⟨g, (put_other (by decide)).trans e1, e2, f, (hb.block _ (lt_of_block e3)).trans e3⟩
  · obtain ⟨g, e1, e2, p, n, c, r, e3, e4⟩ := h.a5 (or_t (by decide) e)
    exact ⟨g, (put_other (by decide)).trans e1, e2, p, n, c, r, (hb.block _ (lt_of_block e3)).trans e3, fun q => e4 (or_t (by decide) q)⟩
  · exact ⟨_, put_same (by rw [h.sz]; decide), hz, hn⟩
theorem AJ.sto4 (h : AJ w1 L A W) {g : Nat} (m : M) (hg : A.tmps.getD 4 undef = .pointer (some ⟨g, 0, none⟩)) (hL : L 7 = true) (h2 : L 2 = true) : AJ w1 (fun k => decide (10 = k) || L k) (A.put none undef) (W.setRow g (mv m)) := by
  have ot : ∀ q, q ≠ g → (W.setRow g (mv m)).heap[q]? = W.heap[q]? := fun q hq => setRow_other W g q _ hq
  obtain ⟨_, e1, e2, f, e3⟩ := h.a4 hL
  have e0 := e1
  rw [hg] at e0
  injection e0 with e0
  injection e0 with e0
  injection e0 with e0
  subst e0
  refine ⟨below_setRow h.bel e2 _, h.sz, fun e e' => ?_, fun e => ?_, fun e => ?_, fun e => ?_⟩
  · have := or_f e'
    rw [h2] at this
    cases this
  · exact ⟨_, hg, e2, m, setRow_heap _ _ _ _ _ _ e3⟩
  · obtain ⟨g', f1, f2, p', n', c', r', f3, f4⟩ := h.a5 (or_t (by decide) e)
    exact ⟨g', f1, f2, p', n', c', r', (ot _ (type_ne f3 e3 (by decide))).trans f3, fun q => f4 (or_t (by decide) q)⟩
  · obtain ⟨g', f1, f2, f3⟩ := h.a6 (or_t (by decide) e)
    exact ⟨g', f1, f2, (ot _ (type_ne f3 e3 (by decide))).trans f3⟩
theorem AJ.sto5 (h : AJ w1 L A W) {g : Nat} (p : Option Addr) (c : Nat) (hg : A.tmps.getD 5 undef = .pointer (some ⟨g, 0, none⟩)) (hL : L 8 = true) (h2 : L 2 = true) : AJ w1 (fun k => decide (11 = k) || L k) (A.put none undef) (W.setRow g #[.slice p 1 c, .int .i64 1]) := by
  have ot : ∀ q, q ≠ g → (W.setRow g #[.slice p 1 c, .int .i64 1]).heap[q]? = W.heap[q]? := fun q hq => setRow_other W g q _ hq
  obtain ⟨_, e1, e2, p0, n0, c0, r0, e3, _⟩ := h.a5 hL
  have e0 := e1
  rw [hg] at e0
  injection e0 with e0
  injection e0 with e0
  injection e0 with e0
  subst e0
  refine ⟨below_setRow h.bel e2 _, h.sz, fun e e' => ?_, fun e => ?_, fun e => ?_, fun e => ?_⟩
  · have := or_f e'
    rw [h2] at this
    cases this
  · obtain ⟨g', f1, f2, f, f3⟩ := h.a4 (or_t (by decide) e)
    exact ⟨g', f1, f2, f, (ot _ (type_ne f3 e3 (by decide))).trans f3⟩
  · exact ⟨_, hg, e2, p, 1, c, 1, setRow_heap _ _ _ _ _ _ e3, fun _ => ⟨rfl, rfl⟩⟩
  · obtain ⟨g', f1, f2, f3⟩ := h.a6 (or_t (by decide) e)
    exact ⟨g', f1, f2, (ot _ (type_ne f3 e3 (by decide))).trans f3⟩
theorem AJ.sto6 (h : AJ w1 L A W) {g : Nat} (hg : A.tmps.getD 6 undef = .pointer (some ⟨g, 0, none⟩)) (hL : L 9 = true) (h2 : L 2 = true) : AJ w1 (fun k => decide (12 = k) || L k) (A.put none undef) (W.setRow g #[.int .i64 0, .int .i64 0]) := by
  have ot : ∀ q, q ≠ g → (W.setRow g #[.int .i64 0, .int .i64 0]).heap[q]? = W.heap[q]? := fun q hq => setRow_other W g q _ hq
  obtain ⟨_, e1, e2, e3⟩ := h.a6 hL
  have e0 := e1
  rw [hg] at e0
  injection e0 with e0
  injection e0 with e0
  injection e0 with e0
  subst e0
  refine ⟨below_setRow h.bel e2 _, h.sz, fun e e' => ?_, fun e => ?_, fun e => ?_, fun e => ?_⟩
  · have := or_f e'
    rw [h2] at this
    cases this
  · obtain ⟨g', f1, f2, f, f3⟩ := h.a4 (or_t (by decide) e)
    exact ⟨g', f1, f2, f, (ot _ (type_ne f3 e3 (by decide))).trans f3⟩
  · obtain ⟨g', f1, f2, p', n', c', r', f3, f4⟩ := h.a5 (or_t (by decide) e)
    exact ⟨g', f1, f2, p', n', c', r', (ot _ (type_ne f3 e3 (by decide))).trans f3, fun q => f4 (or_t (by decide) q)⟩
  · exact ⟨_, hg, e2, setRow_heap _ _ _ _ _ _ e3⟩
end
theorem ClosL.add {ops : Array Oper} {L : Nat → Bool} {i : Nat} {o : Oper} (hc : ClosL ops L) (ho : ops[i]? = some o) (hdep : ∀ e ∈ o.after, Region.binds .any e = true → L e.on = true) : ClosL ops (fun k => decide (i = k) || L k) := by
  intro j p hp hj e he hb
  show (decide (i = e.on) || L e.on) = true
  by_cases hij : i = j
  · subst hij
    rw [ho] at hp
    cases hp
    rw [hdep e he hb]; simp
  · rw [hc j p hp (by simpa [hij] using hj) e he hb]; simp
section
variable {P : Program} {ops : Array Oper} {Q : Exit → Act → World → Prop}
/-- FlowX's law, where it is known besides that what has been done was ready. -/
theorem wp_region_flowC {id : Nat} {a0 : Act} {w : World} (hm : P.follows .mixedOrders = true) (hback : backB ops = true) (hdst : dstB ops = true) (hin : inB ops a0.tmps.size = true)
    (J : (Nat → Bool) → Act → World → Prop) (sp : Nat → Value → World → Prop)
    (hJ : ∀ L : Nat → Bool, (∀ i, i < ops.size → L i = false) → J L a0 { w with drawn := w.drawn + 1 })
    (hstep : ∀ (i : Nat) (o : Oper) (L : Nat → Bool) (a : Act) (W : World), ops[i]? = some o → L i = false → (∀ e ∈ o.after, Region.binds .any e = true → L e.on = true) → ClosL ops L → J L a W →
      (∀ s, (∀ (j : Nat) (p : Oper), ops[j]? = some p → L j = true → p.dst ≠ some s) → a.tmps.getD s undef = a0.tmps.getD s undef) → (∀ (j : Nat) (p : Oper), ops[j]? = some p → L j = true → ∀ s, p.dst = some s → sp j (a.tmps.getD s undef) W) →
      wpOp P ops Q i (fun a' W' => ∃ v, a' = a.put o.dst v ∧ (o.dst ≠ none → sp i v W') ∧ (∀ j u, L j = true → sp j u W → sp j u W') ∧ J (fun k => decide (i = k) || L k) a' W') a W)
    (hend : ∀ (L : Nat → Bool) (a : Act) (W : World), (∀ i, i < ops.size → L i = true) → J L a W → a.defers = a0.defers → a.tmps.size = a0.tmps.size → (∀ s, (∀ (j : Nat) (p : Oper), ops[j]? = some p → p.dst ≠ some s) → a.tmps.getD s undef = a0.tmps.getD s undef) →
      (∀ (j : Nat) (p : Oper), ops[j]? = some p → ∀ s, p.dst = some s → sp j (a.tmps.getD s undef) W) → Q .normal a W) : (Code.region id ops true).wp P Q a0 w := by
  refine wp_region_flow hm hback hdst hin (fun L a W => ClosL ops L ∧ J L a W) sp ?_ ?_ ?_
  · intro L hL
    exact ⟨fun j p hp hj => (by rw [hL j (Array.getElem?_eq_some_iff.1 hp).1] at hj; cases hj), hJ L hL⟩
  · intro i o L a W ho hLi hdep hCJ _ hkept hhas
    have hc' := ClosL.add hCJ.1 ho hdep
    refine wpOp_mono ?_ (hstep i o L a W ho hLi hdep hCJ.1 hCJ.2 hkept hhas)
    rintro a' W' ⟨v, e1, e2, e3, e4⟩
    exact ⟨v, e1, e2, e3, hc', e4⟩
  · intro L a W hL hCJ h1 h2 h3 h4
    exact hend L a W hL hCJ.2 h1 h2 h3 h4
end
/-- What the operations yield. -/
def asp (cvv : Value) (m : M) (i : Nat) (v : Value) (_ : World) : Prop := match i with
  | 0 => v = .agg #[cvv, .int .i64 1]
  | 1 => ∃ g : Nat, v = .slice (some ⟨g, 0, none⟩) 1 1
  | 2 => ∃ p c, v = .tuple #[.agg (mv m), .agg #[.slice p 1 c, .int .i64 1], .agg #[.int .i64 0, .int .i64 0]]
  | 3 => ∃ p c, v = .tuple #[.agg (mv m), .agg #[.slice p 1 c, .int .i64 1], .agg #[.int .i64 0, .int .i64 0]]
  | 4 => v = .agg (mv m)
  | 5 => ∃ p c, v = .agg #[.slice p 1 c, .int .i64 1]
  | 6 => v = .agg #[.int .i64 0, .int .i64 0]
  | _ => True
section
variable {c : Value} {m : M} {v : Value} {W : World}
theorem asp_1 (h : asp c m 1 v W) : ∃ g : Nat, v = .slice (some ⟨g, 0, none⟩) 1 1 := h
theorem asp_2 (h : asp c m 2 v W) : ∃ p c, v = .tuple #[.agg (mv m), .agg #[.slice p 1 c, .int .i64 1], .agg #[.int .i64 0, .int .i64 0]] := h
theorem asp_3 (h : asp c m 3 v W) : ∃ p c, v = .tuple #[.agg (mv m), .agg #[.slice p 1 c, .int .i64 1], .agg #[.int .i64 0, .int .i64 0]] := h
theorem asp_5 (h : asp c m 5 v W) : ∃ p c, v = .agg #[.slice p 1 c, .int .i64 1] := h
end
theorem get9b (m : M) (hm : spM [(5, 9)] = m) (cv lv : Value) (w : World) (h : KRow 0 w cv [⟨0, 7, 1, m⟩]) (hin : InV w lv al9) :
    Calls Try.prog 15 #[.agg #[cv, .int .i64 1], lv, .int .i64 1, .int .i64 0, .int .i64 7] w fun e w' => ∃ p c, e = .returned (.tuple #[.agg (mv m), .agg #[.slice p 1 c, .int .i64 1], .agg #[.int .i64 0, .int .i64 0]]) ∧ Below w.heap.size w w' := by
  have c2 := get_any al9 [⟨0, 7, 1, m⟩] cv lv 1 1 0 7 w h (by simp) hin
  subst hm
  rw [get9'] at c2
  refine c2.mono ?_
  rintro e w' ⟨v', e1, hk, hb⟩
  obtain ⟨p, c, hv, _⟩ := hk
  refine ⟨p, c, ?_, hb⟩
  rw [e1, hv]
  rfl
set_option maxRecDepth 100000 in
set_option maxHeartbeats 4000000 in
theorem alive9_any (w : World) : Calls Try.prog 18 #[] w fun e w' => e = .returned (.bool true) ∧ Below w.heap.size w w' := by
  have c1 := code9_any w
  have hz := mv_lit
  have hcn := al9_cnt
  obtain ⟨m, hm9⟩ : ∃ m, spM [(5, 9)] = m := ⟨_, rfl⟩
  go_enter Try.func18, Try.ntmps18
  go_wp2_with fail
  refine c1.mono ?_
  rintro e w1 ⟨g1, rfl, hin1, b1⟩
  have c2 := get_any al9 [] (.slice none 0 0) (.slice (some ⟨g1, 0, none⟩) 1 1) 0 1 0 7 w1 (KRow.none _ _ _ _ (Nat.zero_le _)) (by simp) hin1
  rw [get9, hm9] at c2
  dsimp only at c2
  clear c1 hin1
  go_wp2_with fail
  refine c2.mono ?_
  rintro e w2 ⟨cvv, rfl, hk2, b2⟩
  obtain ⟨pc, cc, hcv, _⟩ := id hk2
  subst hcv
  have bA : Below w2.heap.size w2 (((w2.alloc (.cells (mv fun _ => false) 25)).alloc (.cells #[.slice none 0 0, .int .i64 0] 40)).alloc (.cells #[.int .i64 0, .int .i64 0] 28)) := (((Below.refl _ _).alloc (Nat.le_refl _) _).alloc (by simp) _).alloc (by simp; omega) _
  have n1 : (((w2.alloc (.cells (mv fun _ => false) 25)).alloc (.cells #[.slice none 0 0, .int .i64 0] 40)).alloc (.cells #[.int .i64 0, .int .i64 0] 28)).heap[w2.heap.size]? = some (.cells (mv fun _ => false) 25 (0, 0)) := by (repeat (first | refine blk_old _ _ _ (by simp only [size_alloc]; omega) ?_ | exact blk_new _ _ _ (by first | rfl | simp only [size_alloc])))
  have n2 : (((w2.alloc (.cells (mv fun _ => false) 25)).alloc (.cells #[.slice none 0 0, .int .i64 0] 40)).alloc (.cells #[.int .i64 0, .int .i64 0] 28)).heap[w2.heap.size + 1]? = some (.cells #[.slice none 0 0, .int .i64 0] 40 (0, 0)) := by (repeat (first | refine blk_old _ _ _ (by simp only [size_alloc]; omega) ?_ | exact blk_new _ _ _ (by first | rfl | simp only [size_alloc])))
  have n3 : (((w2.alloc (.cells (mv fun _ => false) 25)).alloc (.cells #[.slice none 0 0, .int .i64 0] 40)).alloc (.cells #[.int .i64 0, .int .i64 0] 28)).heap[w2.heap.size + 2]? = some (.cells #[.int .i64 0, .int .i64 0] 28 (0, 0)) := by (repeat (first | refine blk_old _ _ _ (by simp only [size_alloc]; omega) ?_ | exact blk_new _ _ _ (by first | rfl | simp only [size_alloc])))
  generalize hwA : ((w2.alloc (.cells (mv fun _ => false) 25)).alloc (.cells #[.slice none 0 0, .int .i64 0] 40)).alloc (.cells #[.int .i64 0, .int .i64 0] 28) = wA at *
  have p1 := setRow_heap _ _ _ (mv m) _ _ n1
  have p2 := (setRow_other wA w2.heap.size (w2.heap.size + 1) (mv m) (by omega)).trans n2
  have p3 := (setRow_other wA w2.heap.size (w2.heap.size + 2) (mv m) (by omega)).trans n3
  have bB := below_setRow bA (Nat.le_refl _) (mv m)
  generalize hwB : wA.setRow w2.heap.size (mv m) = wB at *
  have q1 := (setRow_other wB (w2.heap.size + 1) w2.heap.size #[.slice pc 1 cc, .int .i64 1] (by omega)).trans p1
  have q2 := setRow_heap _ _ _ #[.slice pc 1 cc, .int .i64 1] _ _ p2
  have q3 := (setRow_other wB (w2.heap.size + 1) (w2.heap.size + 2) #[.slice pc 1 cc, .int .i64 1] (by omega)).trans p3
  have bC := below_setRow bB (by omega : w2.heap.size ≤ w2.heap.size + 1) #[.slice pc 1 cc, .int .i64 1]
  generalize hwC : wB.setRow (w2.heap.size + 1) #[.slice pc 1 cc, .int .i64 1] = wC at *
  have r1 := (setRow_other wC (w2.heap.size + 2) w2.heap.size #[.int .i64 0, .int .i64 0] (by omega)).trans q1
  have m2 := (setRow_other wC (w2.heap.size + 2) (w2.heap.size + 1) #[.int .i64 0, .int .i64 0] (by omega)).trans q2
  have r3 := setRow_heap _ _ _ #[.int .i64 0, .int .i64 0] _ _ q3
  have bD := below_setRow bC (by omega : w2.heap.size ≤ w2.heap.size + 2) #[.int .i64 0, .int .i64 0]
  generalize hwD : wC.setRow (w2.heap.size + 2) #[.int .i64 0, .int .i64 0] = w3 at *
  have HK := hidv ((hk2.low (Nat.zero_le _)).later bD)
  have HB := hidv ((b1.trans (b2.mono b1.size)).trans (bD.mono (b1.trans (b2.mono b1.size)).size))
  clear c2 hk2 b1 b2 bA bB bC bD
  go_wp2_with (refine wpList_store_row rfl 25 _ _ rfl _ _ rfl rfl _ _ n1 (maskSize _) (by simp [mv_size]) (mv_all _) ?_
               rw [hwB]
               refine wpList_store_row rfl 40 _ _ rfl _ _ rfl rfl _ _ p2 (by kernel_rfl) (by simp) (by simp [Value.oneCell']) ?_
               rw [hwC]
               refine wpList_store_row rfl 28 _ _ rfl _ _ rfl rfl _ _ q3 (by kernel_rfl) (by simp) (by simp [Value.oneCell']) ?_
               rw [hwD])
  obtain ⟨gz, hgz⟩ : ∃ q, w2.heap.size = q := ⟨_, rfl⟩
  rw [hgz] at m2 r3 r1
  simp only [hgz, Act.put]
  clear n1 n2 n3 p1 p2 p3 q1 q2 q3 hwA hwB hwC hwD hgz hz
  refine wp_region_flowC (by kernel_rfl) (by kernel_rfl) (by kernel_rfl) (by kernel_rfl) (fun L A W => AJ w3 L A W) (asp (.slice pc 1 cc) m) ?_ ?_ ?_
  · intro L hL
    exact ⟨(Below.refl w3.heap.size w3).drew, rfl, fun e => (by rw [hL 1 (by decide)] at e; cases e), fun e => (by rw [hL 7 (by decide)] at e; cases e), fun e => (by rw [hL 8 (by decide)] at e; cases e), fun e => (by rw [hL 9 (by decide)] at e; cases e)⟩
  · intro i' o' L A W2 ho hLi hdep hc hJ hkept hhas
    match i', ho, hLi with
    | 0, ho, hLi =>
      cases Option.some.inj ho
      have h2 : A.eval (.tmp 2) = .pointer (some ⟨gz + 1, 0, none⟩) := hkept 2 (fun j p hp _ => nd (by kernel_rfl) j p hp)
      have b2 := (hJ.bel.block _ (lt_of_block m2)).trans m2
      refine wpOp_step rfl (fun K hK => ?_)
      show Oper.wp _ _ _ _ _ _
      refine wp_load_row 40 _ rfl (gz + 1) h2 _ _ _ _ b2 cacheType rfl cacheSize ?_
      exact hK _ _ ⟨_, rfl, fun _ => rfl, fun _ _ _ h => h, hJ.on 0 15 _ (by decide) (by decide) (Below.refl _ _)⟩
    | 1, ho, hLi =>
      cases Option.some.inj ho
      refine wpOp_step rfl (fun K hK => ?_)
      go_simp
      refine (code9_any W2).mono ?_
      rintro r' W' ⟨g9, rfl, hin, hb'⟩
      exact hK _ _ ⟨_, rfl, fun _ => ⟨g9, rfl⟩, fun _ _ _ h => h, hJ.code _ hb' hin⟩
    | 2, ho, hLi =>
      cases Option.some.inj ho
      have h15 : A.tmps[15]?.getD undef = .agg #[.slice pc 1 cc, .int .i64 1] := (gd A 15).trans (hhas 0 _ rfl (hdep ⟨0, .data⟩ (by simp) rfl) 15 rfl)
      obtain ⟨g9, e9⟩ := asp_1 (hhas 1 _ rfl (hdep ⟨1, .data⟩ (by simp) rfl) 16 rfl)
      have h16 : A.tmps[16]?.getD undef = .slice (some ⟨g9, 0, none⟩) 1 1 := (gd A 16).trans e9
      have hin := hJ.inv (hdep ⟨1, .data⟩ (by simp) rfl) hLi
      rw [e9] at hin
      have c2 := get9b m hm9 (.slice pc 1 cc) (.slice (some ⟨g9, 0, none⟩) 1 1) W2 (HK.out.later hJ.bel) hin
      refine wpOp_step rfl (fun K hK => ?_)
      go_simp
      refine c2.mono ?_
      rintro r' W' ⟨p9, c9, rfl, hb'⟩
      exact hK _ _ ⟨_, rfl, fun _ => ⟨p9, c9, rfl⟩, fun _ _ _ h => h, hJ.on 2 17 _ (by decide) (by decide) hb'⟩
    | 3, ho, hLi =>
      cases Option.some.inj ho
      obtain ⟨p9, c9, e9⟩ := asp_2 (hhas 2 _ rfl (hdep ⟨2, .data⟩ (by simp) rfl) 17 rfl)
      have h17 : A.tmps[17]?.getD undef = _ := (gd A 17).trans e9
      refine wpOp_step rfl (fun K hK => ?_)
      go_simp
      exact hK _ _ ⟨_, rfl, fun _ => ⟨p9, c9, rfl⟩, fun _ _ _ h => h, hJ.on 3 14 _ (by decide) (by decide) (Below.refl _ _)⟩
    | 4, ho, hLi =>
      cases Option.some.inj ho
      obtain ⟨p9, c9, e9⟩ := asp_3 (hhas 3 _ rfl (hdep ⟨3, .data⟩ (by simp) rfl) 14 rfl)
      have h14 : A.tmps[14]?.getD undef = _ := (gd A 14).trans e9
      refine wpOp_step rfl (fun K hK => ?_)
      go_simp
      exact hK _ _ ⟨_, rfl, fun _ => rfl, fun _ _ _ h => h, hJ.on 4 18 _ (by decide) (by decide) (Below.refl _ _)⟩
    | 5, ho, hLi =>
      cases Option.some.inj ho
      obtain ⟨p9, c9, e9⟩ := asp_3 (hhas 3 _ rfl (hdep ⟨3, .data⟩ (by simp) rfl) 14 rfl)
      have h14 : A.tmps[14]?.getD undef = _ := (gd A 14).trans e9
      refine wpOp_step rfl (fun K hK => ?_)
      go_simp
      exact hK _ _ ⟨_, rfl, fun _ => ⟨p9, c9, rfl⟩, fun _ _ _ h => h, hJ.on 5 19 _ (by decide) (by decide) (Below.refl _ _)⟩
    | 6, ho, hLi =>
      cases Option.some.inj ho
      obtain ⟨p9, c9, e9⟩ := asp_3 (hhas 3 _ rfl (hdep ⟨3, .data⟩ (by simp) rfl) 14 rfl)
      have h14 : A.tmps[14]?.getD undef = _ := (gd A 14).trans e9
      refine wpOp_step rfl (fun K hK => ?_)
      go_simp
      exact hK _ _ ⟨_, rfl, fun _ => rfl, fun _ _ _ h => h, hJ.on 6 20 _ (by decide) (by decide) (Below.refl _ _)⟩
    | 7, ho, hLi =>
      cases Option.some.inj ho
      have hz := mv_lit
      refine wpOp_step rfl (fun K hK => ?_)
      go_simp
      exact hK _ _ ⟨_, rfl, fun _ => trivial, fun _ _ _ h => h, hJ.made4⟩
    | 8, ho, hLi =>
      cases Option.some.inj ho
      have n11 : L 11 = false := by
        cases h : L 11 with
        | false => rfl
        | true =>
          have q := hc 11 _ rfl h ⟨8, .data⟩ (by simp) rfl
          rw [hLi] at q; cases q
      refine wpOp_step rfl (fun K hK => ?_)
      go_simp
      exact hK _ _ ⟨_, rfl, fun _ => trivial, fun _ _ _ h => h, hJ.made5 n11⟩
    | 9, ho, hLi =>
      cases Option.some.inj ho
      refine wpOp_step rfl (fun K hK => ?_)
      go_simp
      exact hK _ _ ⟨_, rfl, fun _ => trivial, fun _ _ _ h => h, hJ.made6⟩
    | 10, ho, hLi =>
      cases Option.some.inj ho
      have d7 := hdep ⟨7, .data⟩ (by simp) rfl
      have q3 := hc 4 _ rfl (hdep ⟨4, .data⟩ (by simp) rfl) ⟨3, .data⟩ (by simp) rfl
      have q2 := hc 3 _ rfl q3 ⟨2, .data⟩ (by simp) rfl
      obtain ⟨g4, e4, _, f4, n4⟩ := hJ.a4 d7
      have h4 : A.eval (.tmp 4) = .pointer (some ⟨g4, 0, none⟩) := e4
      have h18 : A.eval (.tmp 18) = .agg (mv m) := hhas 4 _ rfl (hdep ⟨4, .data⟩ (by simp) rfl) 18 rfl
      refine wpOp_step rfl (fun K hK => ?_)
      show Oper.wp _ _ _ _ _ _
      refine wp_store_row 25 _ _ rfl _ _ h4 h18 _ _ n4 (maskSize _) (by simp [mv_size]) (mv_all _) ?_
      exact hK _ _ ⟨undef, rfl, fun e => absurd rfl e, fun _ _ _ h => h, hJ.sto4 m e4 d7 q2⟩
    | 11, ho, hLi =>
      cases Option.some.inj ho
      have d8 := hdep ⟨8, .data⟩ (by simp) rfl
      have q3 := hc 5 _ rfl (hdep ⟨5, .data⟩ (by simp) rfl) ⟨3, .data⟩ (by simp) rfl
      have q2 := hc 3 _ rfl q3 ⟨2, .data⟩ (by simp) rfl
      obtain ⟨g5, e5, _, p5, n5, c5, r5, n5b, _⟩ := hJ.a5 d8
      have h5 : A.eval (.tmp 5) = .pointer (some ⟨g5, 0, none⟩) := e5
      obtain ⟨p9, c9, e9⟩ := asp_5 (hhas 5 _ rfl (hdep ⟨5, .data⟩ (by simp) rfl) 19 rfl)
      have h19 : A.eval (.tmp 19) = .agg #[.slice p9 1 c9, .int .i64 1] := e9
      refine wpOp_step rfl (fun K hK => ?_)
      show Oper.wp _ _ _ _ _ _
      refine wp_store_row 40 _ _ rfl _ _ h5 h19 _ _ n5b cacheSize (by simp) (by simp [Value.oneCell']) ?_
      exact hK _ _ ⟨undef, rfl, fun e => absurd rfl e, fun _ _ _ h => h, hJ.sto5 p9 c9 e5 d8 q2⟩
    | 12, ho, hLi =>
      cases Option.some.inj ho
      have d9 := hdep ⟨9, .data⟩ (by simp) rfl
      have q3 := hc 6 _ rfl (hdep ⟨6, .data⟩ (by simp) rfl) ⟨3, .data⟩ (by simp) rfl
      have q2 := hc 3 _ rfl q3 ⟨2, .data⟩ (by simp) rfl
      obtain ⟨g6, e6, _, n6⟩ := hJ.a6 d9
      have h6 : A.eval (.tmp 6) = .pointer (some ⟨g6, 0, none⟩) := e6
      have h20 : A.eval (.tmp 20) = .agg #[.int .i64 0, .int .i64 0] := hhas 6 _ rfl (hdep ⟨6, .data⟩ (by simp) rfl) 20 rfl
      refine wpOp_step rfl (fun K hK => ?_)
      show Oper.wp _ _ _ _ _ _
      refine wp_store_row 28 _ _ rfl _ _ h6 h20 _ _ n6 faultSize9 (by simp) (by simp [Value.oneCell']) ?_
      exact hK _ _ ⟨undef, rfl, fun e => absurd rfl e, fun _ _ _ h => h, hJ.sto6 e6 d9 q2⟩
    | kk + 13, ho, hLi => simp at ho
  · intro L A W2 hL hJ hdef hsz hkept hhas
    obtain ⟨g4, e4, _, f4, n4⟩ := hJ.a4 (hL 7 (by decide))
    obtain ⟨g5, e5, _, p5, n5, c5, r5, n5b, hn5⟩ := hJ.a5 (hL 8 (by decide))
    obtain ⟨g6, e6, _, n6⟩ := hJ.a6 (hL 9 (by decide))
    obtain ⟨hn51, hr51⟩ := hn5 (hL 11 (by decide))
    subst hn51 hr51
    obtain ⟨x15, y15⟩ : ∃ x, A.tmps.getD 15 undef = x := ⟨_, rfl⟩
    obtain ⟨x16, y16⟩ : ∃ x, A.tmps.getD 16 undef = x := ⟨_, rfl⟩
    obtain ⟨x17, y17⟩ : ∃ x, A.tmps.getD 17 undef = x := ⟨_, rfl⟩
    obtain ⟨x14, y14⟩ : ∃ x, A.tmps.getD 14 undef = x := ⟨_, rfl⟩
    obtain ⟨x18, y18⟩ : ∃ x, A.tmps.getD 18 undef = x := ⟨_, rfl⟩
    obtain ⟨x19, y19⟩ : ∃ x, A.tmps.getD 19 undef = x := ⟨_, rfl⟩
    obtain ⟨x20, y20⟩ : ∃ x, A.tmps.getD 20 undef = x := ⟨_, rfl⟩
    have hA : A = putAll [(15, x15), (16, x16), (17, x17), (14, x14), (18, x18), (19, x19), (20, x20), (4, .pointer (some ⟨g4, 0, none⟩)), (5, .pointer (some ⟨g5, 0, none⟩)), (6, .pointer (some ⟨g6, 0, none⟩))] _ := act_is _ hdef hsz (show ([some 15, some 16, some 17, some 14, some 18, some 19, some 20, some 4, some 5, some 6] : List (Option Nat)).Nodup by decide) (fun s h => hkept s fun j p hp e => match j, hp with
      | 0, hp => by cases Option.some.inj hp; cases e; exact h (15, x15) (by simp) rfl
      | 1, hp => by cases Option.some.inj hp; cases e; exact h (16, x16) (by simp) rfl
      | 2, hp => by cases Option.some.inj hp; cases e; exact h (17, x17) (by simp) rfl
      | 3, hp => by cases Option.some.inj hp; cases e; exact h (14, x14) (by simp) rfl
      | 4, hp => by cases Option.some.inj hp; cases e; exact h (18, x18) (by simp) rfl
      | 5, hp => by cases Option.some.inj hp; cases e; exact h (19, x19) (by simp) rfl
      | 6, hp => by cases Option.some.inj hp; cases e; exact h (20, x20) (by simp) rfl
      | 7, hp => by cases Option.some.inj hp; cases e; exact h (4, .pointer (some ⟨g4, 0, none⟩)) (by simp) rfl
      | 8, hp => by cases Option.some.inj hp; cases e; exact h (5, .pointer (some ⟨g5, 0, none⟩)) (by simp) rfl
      | 9, hp => by cases Option.some.inj hp; cases e; exact h (6, .pointer (some ⟨g6, 0, none⟩)) (by simp) rfl
      | 10, hp => by cases Option.some.inj hp; cases e
      | 11, hp => by cases Option.some.inj hp; cases e
      | 12, hp => by cases Option.some.inj hp; cases e
      | kk + 13, hp => by simp at hp) (fun j s v hj => match j, hj with
      | 0, hj => by cases Option.some.inj hj; exact y15
      | 1, hj => by cases Option.some.inj hj; exact y16
      | 2, hj => by cases Option.some.inj hj; exact y17
      | 3, hj => by cases Option.some.inj hj; exact y14
      | 4, hj => by cases Option.some.inj hj; exact y18
      | 5, hj => by cases Option.some.inj hj; exact y19
      | 6, hj => by cases Option.some.inj hj; exact y20
      | 7, hj => by cases Option.some.inj hj; exact e4
      | 8, hj => by cases Option.some.inj hj; exact e5
      | 9, hj => by cases Option.some.inj hj; exact e6
      | kk + 10, hj => by simp at hj)
    have m1 := (hJ.bel.block _ (lt_of_block r1)).trans r1
    have m2' := (hJ.bel.block _ (lt_of_block m2)).trans m2
    have m3 := (hJ.bel.block _ (lt_of_block r3)).trans r3
    have HB2 := hidv (HB.out.trans (hJ.bel.mono HB.out.size))
    have z3 := (cell_of_row _ _ 0 _ _ _ m3).trans rfl
    have z6 := (cell_of_row _ _ 0 _ _ _ n6).trans rfl
    have z21 := (cell_of_row _ _ 1 _ _ _ m2').trans rfl
    have z51 := (cell_of_row _ _ 1 _ _ _ n5b).trans rfl
    have z50 := (cell_of_row _ _ 0 _ _ _ n5b).trans rfl
    have c4 := count_any m W2
    rw [← hm9, hcn, hm9] at c4
    subst hA
    simp only [putAll_cons, putAll_nil, Act.put, List.setIfInBounds_toArray, List.set_cons_succ, List.set_cons_zero]
    clear hL hJ hdef hsz hkept hhas e4 e5 e6
    go_wp2_with (refine load_g (by rfl) _ (by rfl) gz (by rfl) m m1 ?_)
    refine c4.mono ?_
    rintro e w5 ⟨rfl, b5⟩
    have HB5 := hidv (HB2.out.trans (b5.mono HB2.out.size))
    have z21' := (b5.cell (block_lt_of_cell z21)).trans z21
    have z51' := (b5.cell (block_lt_of_cell z51)).trans z51
    have z50' := (b5.cell (block_lt_of_cell z50)).trans z50
    clear c4 z21 z51 z50 z3 z6 b5 HB2 m1 m2' m3 n4 n5b n6 r1 m2 r3 HB HK
    go_wp2_with fail
    go_ret
    exact ⟨rfl, HB5.out⟩
end Go.Proofs.Ytaeengpppehlfaa

/- What is kept is what is, plainly; asks in memory. -/
namespace Go.Proofs.Ytaeengpppehlfaa
open Go.RowKit Msk Vx

/-- What is kept is the machine's. -/
structure KInv (cs : List Cd) (l : List Kp) : Prop where
  ok : ∀ k ∈ l, (runE cs k.r k.d).1 = 0 ∧ k.m = runM cs k.r k.d
  len : l.length ≤ 64
theorem KInv.nil (cs : List Cd) : KInv cs [] := ⟨fun k hk => (by cases hk), by simp⟩
theorem idxK_at {r d : Int} : ∀ (l : List Kp) (j : Nat), 0 ≤ idxK r d l j → ∃ (n : Nat) (k : Kp), idxK r d l j = (j : Int) + n ∧ l[n]? = some k ∧ k.r = r ∧ k.d = d
  | [], j, h => by
    have : idxK r d [] j = -1 := rfl
    omega
  | k :: l, j, h => by
    by_cases hk : k.r = r ∧ k.d = d
    · refine ⟨0, k, ?_, rfl, hk.1, hk.2⟩
      rw [idxK, if_pos hk]
      omega
    · rw [idxK, if_neg hk] at h ⊢
      obtain ⟨n, k', e, h1, h2, h3⟩ := idxK_at l (j + 1) h
      exact ⟨n + 1, k', by rw [e]; omega, h1, h2, h3⟩
theorem idxK_none {r d : Int} : ∀ (l : List Kp) (j : Nat), idxK r d l j = -1 → ∀ k ∈ l, ¬ (k.r = r ∧ k.d = d)
  | [], _, _, k, hk => by cases hk
  | k0 :: l, j, h, k, hk => by
    by_cases hk0 : k0.r = r ∧ k0.d = d
    · rw [idxK, if_pos hk0] at h
      omega
    · rw [idxK, if_neg hk0] at h
      rcases List.mem_cons.1 hk with rfl | hk
      · exact hk0
      · exact idxK_none l (j + 1) h k hk
theorem hit_at {l : List Kp} {v r d : Int} (h : hitK l v r d = true) : ∃ (n : Nat) (k : Kp), idxK r d l 0 = (n : Int) ∧ l[n]? = some k ∧ k.r = r ∧ k.d = d ∧ k.v = v ∧ l.getD (idxK r d l 0).toNat Vx.k0 = k := by
  unfold hitK at h
  rw [Bool.and_eq_true, decide_eq_true_eq, decide_eq_true_eq] at h
  obtain ⟨n, k, e, h1, h2, h3⟩ := idxK_at l 0 h.1
  have e' : idxK r d l 0 = (n : Int) := by rw [e]; omega
  have e2 : l.getD (idxK r d l 0).toNat Vx.k0 = k := by rw [e', Int.toNat_natCast]; simp [List.getD, h1]
  exact ⟨n, k, e', h1, h2, h3, by rw [← e2]; exact h.2, e2⟩
theorem dropAt_mem {l : List Kp} {i : Int} {k : Kp} (h : k ∈ dropAt l i) : k ∈ l := by
  unfold dropAt at h
  split at h
  · rcases List.mem_append.1 h with h | h
    · exact List.mem_of_mem_take h
    · exact List.mem_of_mem_drop h
  · exact h
theorem lastN_len (l : List Kp) : (lastN l).length ≤ 64 := by unfold lastN; rw [List.length_drop]; omega
theorem KInv.get {cs : List Cd} {l : List Kp} (h : KInv cs l) (runs v r d : Int) :
    (getP cs l runs v r d).er = (runE cs r d).1 ∧ (getP cs l runs v r d).at_ = (runE cs r d).2 ∧ ((runE cs r d).1 = 0 → (getP cs l runs v r d).m = runM cs r d ∧ KInv cs (getP cs l runs v r d).l ∧ ((getP cs l runs v r d).n = runs ∨ (getP cs l runs v r d).n = IntKind.i64.wrap (runs + 1))) := by
  unfold getP
  by_cases hh : hitK l v r d = true
  · rw [if_pos hh]
    obtain ⟨n, k, e, h1, h2, h3, h4, h5⟩ := hit_at hh
    have hk : k ∈ l := List.mem_of_getElem? h1
    obtain ⟨q1, q2⟩ := h.ok k hk
    rw [h2, h3] at q1 q2
    rw [h5]
    refine ⟨q1.symm, (runE_at0 q1).symm, fun _ => ⟨q2, ⟨fun k' hk' => ?_, ?_⟩, .inl rfl⟩⟩
    · rcases List.mem_append.1 hk' with hk' | hk'
      · exact h.ok k' (dropAt_mem hk')
      · rw [List.mem_singleton.1 hk']
        exact h.ok k hk
    · have hn := (List.getElem?_eq_some_iff.1 h1).1
      have := dropAt_len1 (l := l) (i := idxK r d l 0) (by omega) (by omega)
      have h64 := h.len
      show (dropAt l (idxK r d l 0) ++ [k]).length ≤ 64
      rw [List.length_append, List.length_singleton]
      omega
  · rw [if_neg hh]
    by_cases he : (runE cs r d).1 ≠ 0
    · rw [if_pos he]
      exact ⟨rfl, rfl, fun e => absurd e he⟩
    · rw [if_neg he]
      have he := Classical.not_not.1 he
      refine ⟨he.symm, (runE_at0 he).symm, fun _ => ⟨rfl, ⟨fun k' hk' => ?_, lastN_len _⟩, .inr rfl⟩⟩
      rcases List.mem_append.1 (List.mem_of_mem_drop hk') with hk' | hk'
      · exact h.ok k' (dropAt_mem hk')
      · rw [List.mem_singleton.1 hk']
        exact ⟨he, rfl⟩
/-- What is asked: a rule, a day, a version. -/
structure Aq where
  r : Int
  d : Int
  v : Int
/-- Asks in memory. -/
def ARow (w : World) (v : Value) (l : List Aq) : Prop := ∃ p c, v = .slice p l.length c ∧ l.length < 9223372036854775808 ∧ ∀ (j : Nat) (a : Aq), l[j]? = some a → ∃ g o : Nat, p = some ⟨g, o, none⟩ ∧ w.cell? ⟨g, o + j * 3, none⟩ = some (.int .i64 a.r) ∧ w.cell? ⟨g, o + j * 3 + 1, none⟩ = some (.int .i64 a.d) ∧ w.cell? ⟨g, o + j * 3 + 2, none⟩ = some (.int .i64 a.v)
end Go.Proofs.Ytaeengpppehlfaa

/- A map whose keys are pairs of numbers. -/
namespace Go.Proofs.Ytaeengpppehlfaa
open Go.RowKit Msk Vx

theorem arr2T : Try.prog.underlying 52 = some (.array 2 3) := by kernel_rfl
theorem hadT : Try.prog.underlying 49 = some (.map 52 4) := by kernel_rfl
theorem chk2 (z : Bool) (a b : Int) (w : World) : (Instr.checkKey z 10000 52 (.agg #[.int .i64 a, .int .i64 b])).run Try.prog w = .ok () w := by
  cases z <;> kernel_rfl
set_option maxRecDepth 100000 in
theorem i64info : ∃ i, Try.prog.info? 3 = some i ∧ Try.prog.cellsOf 3 = 1 := ⟨_, rfl, by kernel_rfl⟩
theorem i64type : Try.prog.underlying 3 = some (.int .i64) := by kernel_rfl
theorem eq2 (a b c d : Int) (w : World) : (Op.equal 52 (.agg #[.int .i64 a, .int .i64 b]) (.agg #[.int .i64 c, .int .i64 d])).run Try.prog w = .ok ((a == c) && (b == d)) w := by
  obtain ⟨i, hi, hc⟩ := i64info
  unfold Op.equal
  rw [show Op.maxDepth = 10000 from rfl, run_equalIn_array w 9999 _ _ arr2T hi, hc]
  have p0 : ∀ x y : Int, (Go.part 3 #[.int .i64 x, .int .i64 y] (0 * 1)).run Try.prog w = .ok (.int .i64 x) w := fun x y => by simp [Go.part, isAgg, run_underlying i64type]
  have p1 : ∀ x y : Int, (Go.part 3 #[.int .i64 x, .int .i64 y] (1 * 1)).run Try.prog w = .ok (.int .i64 y) w := fun x y => by simp [Go.part, isAgg, run_underlying i64type]
  have q1 := run_equalIn_int w 9998 3 .i64 .i64 a c i64type
  have q2 := run_equalIn_int w 9998 3 .i64 .i64 b d i64type
  show (Op.eqItems 9999 3 1 _ _ [0, 1]).run Try.prog w = _
  rw [Op.eqItems]
  simp only [Sem.run_bind, p0, Result.andThen_ok]
  rw [q1]
  simp only [Result.andThen_ok]
  cases (a == c)
  · rfl
  · show (Op.eqItems 9999 3 1 _ _ [1]).run Try.prog w = _
    rw [Op.eqItems]
    simp only [Sem.run_bind, p1, Result.andThen_ok]
    rw [q2]
    simp only [Result.andThen_ok]
    cases (b == d) <;> rfl
/-- Pairs as keys. -/
def keyQ (p : Int × Int) : Value := .agg #[.int .i64 p.1, .int .i64 p.2]
/-- The pairs that are there. -/
def MapQ (w : World) (b : Nat) (S : List (Int × Int)) : Prop := ∃ es c, w.heap[b]? = some (.map es c) ∧ es.toList.map (fun e => e.key) = S.map keyQ
theorem MapQ.later {w w' : World} {b : Nat} {S : List (Int × Int)} (h : MapQ w b S) (hk : w'.heap[b]? = w.heap[b]?) : MapQ w' b S := by
  obtain ⟨es, c, h1, h2⟩ := h
  exact ⟨es, c, hk.trans h1, h2⟩
theorem lt_of_mapQ {w : World} {b : Nat} {S : List (Int × Int)} (h : MapQ w b S) : b < w.heap.size := by
  obtain ⟨es, c, h1, _⟩ := h
  exact (Array.getElem?_eq_some_iff.1 h1).1
theorem askQ (p : Int × Int) (w : World) : ∀ (es : List MapEntry) (S : List (Int × Int)) (i : Nat), es.map (fun e => e.key) = S.map keyQ → p ∉ S → (Instr.findAsking 52 (keyQ p) es i).run Try.prog w = .ok none w
  | [], [], i, _, _ => by simp [Instr.findAsking]
  | [], _ :: _, i, h, _ => by simp at h
  | _ :: _, [], i, h, _ => by simp at h
  | e :: es, q :: S, i, h, hn => by
    simp only [List.map_cons, List.cons.injEq] at h
    have hq := eq2 p.1 p.2 q.1 q.2 w
    have hne : ((p.1 == q.1) && (p.2 == q.2)) = false := by
      rw [Bool.and_eq_false_iff]
      by_cases h1 : p.1 = q.1
      · refine .inr (beq_eq_false_iff_ne.2 fun h2 => hn ?_)
        rw [show p = q from Prod.ext h1 h2]
        exact List.mem_cons_self
      · exact .inl (beq_eq_false_iff_ne.2 h1)
    rw [hne] at hq
    have ih := askQ p w es S (i + 1) h.2 fun hm => hn (List.mem_cons_of_mem _ hm)
    unfold Instr.findAsking
    rw [h.1]
    simp only [Sem.run_bind, keyQ, hq, Result.andThen_ok]
    exact ih
theorem findQ {p : Int × Int} {w : World} {es : List MapEntry} {S : List (Int × Int)} (h : es.map (fun e => e.key) = S.map keyQ) (hn : p ∉ S) : (Instr.findKey 52 (keyQ p) es).run Try.prog w = .ok none w := by
  unfold Instr.findKey
  simp only [Sem.run_bind, run_underlying arr2T, Result.andThen_ok]
  cases es with
  | nil => rfl
  | cons e es => exact askQ p w _ S 0 h hn
theorem lookQ {w : World} {b : Nat} {S : List (Int × Int)} (h : MapQ w b S) (x y : Int) (hn : (x, y) ∉ S) : (Instr.lookup 49 (.map (some b)) (.agg #[.int .i64 x, .int .i64 y]) false).run Try.prog w = .ok (.bool false) w := by
  obtain ⟨es, c, hb, hE⟩ := h
  have hz : (zeroValue 4).run Try.prog w = .ok (.bool false) w := by kernel_rfl
  have hf := findQ (w := w) hE hn
  have hc := chk2 es.isEmpty x y w
  unfold keyQ at hf
  simp [Instr.lookup, run_underlying hadT, MapKept.run_getObj_map hb, hc, hf, hz, Result.andThen]
theorem insQ {w : World} {b : Nat} {S : List (Int × Int)} (h : MapQ w b S) (x y : Int) (hn : (x, y) ∉ S) : ∃ o, (Instr.mapUpdate 49 (.map (some b)) (.agg #[.int .i64 x, .int .i64 y]) (.bool true)).run Try.prog w = .ok () (putI w b o) ∧ MapQ (putI w b o) b (S ++ [(x, y)]) := by
  obtain ⟨es, c, hb, hE⟩ := h
  have hf := findQ (w := w) hE hn
  have hc := chk2 false x y w
  unfold keyQ at hf
  refine ⟨.map (es.push ⟨.agg #[.int .i64 x, .int .i64 y], .bool true, c⟩) (c + 1), ?_, _, c + 1, (MapKept.heap_set hb).1, ?_⟩
  · simp [Instr.mapUpdate, run_underlying hadT, MapKept.run_getObj_map hb, hc, hf, MapKept.run_setObj_map _ hb, Result.andThen, putI]
  · rw [Array.toList_push, List.map_append, hE, List.map_append]
    rfl
theorem makeQ (w : World) : (Instr.makeMap 49 none).run Try.prog w = .ok (.map (some w.heap.size)) (w.alloc (.map #[] 0)) := by
  unfold Instr.makeMap
  simp [go_sem]
/-- Each rule's day once. -/
def kd (k : Kp) : Int × Int := (k.r, k.d)
structure KOnce (l : List Kp) : Prop where
  nd : (l.map kd).Nodup
  len : l.length ≤ 64
theorem KOnce.nil : KOnce [] := ⟨by simp, by simp⟩
theorem dropAt_sub (l : List Kp) (i : Int) : (dropAt l i).Sublist l := by
  unfold dropAt
  split
  · conv => rhs; rw [← List.take_append_drop i.toNat l]
    refine List.Sublist.append (List.Sublist.refl _) ?_
    rw [show l.drop (i.toNat + 1) = (l.drop i.toNat).drop 1 by rw [List.drop_drop]]
    exact List.drop_sublist _ _
  · exact List.Sublist.refl _
theorem dropAt_not {l : List Kp} (h : (l.map kd).Nodup) (r d : Int) : (r, d) ∉ (dropAt l (idxK r d l 0)).map kd := by
  rcases idxK_ge r d l 0 with hm | ⟨h0, h1⟩
  · rw [hm]
    have e : dropAt l (-1) = l := by unfold dropAt; rw [if_neg (by omega)]
    rw [e]
    intro hk
    obtain ⟨k, hk1, hk2⟩ := List.mem_map.1 hk
    have := idxK_none l 0 hm k hk1
    exact this ⟨congrArg Prod.fst hk2, congrArg Prod.snd hk2⟩
  · obtain ⟨n, k, e, h2, h3, h4⟩ := idxK_at (r := r) (d := d) l 0 (by omega)
    have hn := (List.getElem?_eq_some_iff.1 h2).1
    have el : l = l.take n ++ (k :: l.drop (n + 1)) := by
      conv => lhs; rw [← List.take_append_drop n l]
      congr 1
      rw [List.drop_eq_getElem_cons hn, (List.getElem?_eq_some_iff.1 h2).2]
    have ed : dropAt l (idxK r d l 0) = l.take n ++ l.drop (n + 1) := by
      unfold dropAt
      rw [if_pos (by omega), e]
      simp
    rw [ed]
    rw [el, List.map_append, List.map_cons] at h
    rw [List.map_append]
    have hkd : kd k = (r, d) := by unfold kd; rw [h3, h4]
    rw [hkd] at h
    rw [List.nodup_append] at h
    obtain ⟨_, h6, h7⟩ := h
    intro hm
    rcases List.mem_append.1 hm with hm | hm
    · exact h7 _ hm _ List.mem_cons_self rfl
    · exact (List.nodup_cons.1 h6).1 hm
theorem KOnce.get {cs : List Cd} {l : List Kp} (h : KOnce l) (runs v r d : Int) (he : (getP cs l runs v r d).er = 0) : KOnce (getP cs l runs v r d).l ∧ ∃ l0 m, (getP cs l runs v r d).l = l0 ++ [⟨r, d, v, m⟩] := by
  have nd2 : ∀ k : Kp, kd k = (r, d) → ((dropAt l (idxK r d l 0) ++ [k]).map kd).Nodup := fun k hk => by
    rw [List.map_append, List.map_cons, List.map_nil, hk, List.nodup_append]
    refine ⟨((dropAt_sub l _).map kd).nodup h.nd, by simp, fun a ha b hb => ?_⟩
    rw [List.mem_singleton.1 hb]
    rintro rfl
    exact dropAt_not h.nd r d ha
  unfold getP at he ⊢
  by_cases hh : hitK l v r d = true
  · rw [if_pos hh]
    obtain ⟨n, k, e, h1, h2, h3, h4, h5⟩ := hit_at hh
    rw [h5]
    refine ⟨⟨nd2 k (by unfold kd; rw [h2, h3]), ?_⟩, dropAt l (idxK r d l 0), k.m, ?_⟩
    · have hn := (List.getElem?_eq_some_iff.1 h1).1
      have := dropAt_len1 (l := l) (i := idxK r d l 0) (by omega) (by omega)
      have h64 := h.len
      show (dropAt l (idxK r d l 0) ++ [k]).length ≤ 64
      rw [List.length_append, List.length_singleton]
      omega
    · show dropAt l (idxK r d l 0) ++ [k] = _
      rw [← h2, ← h3, ← h4]
  · rw [if_neg hh] at he ⊢
    by_cases h0 : (runE cs r d).1 ≠ 0
    · rw [if_pos h0] at he
      exact absurd he h0
    · rw [if_neg h0]
      refine ⟨⟨?_, lastN_len _⟩, ?_⟩
      · exact ((List.drop_sublist _ _).map kd).nodup (nd2 ⟨r, d, v, runM cs r d⟩ rfl)
      · dsimp only
        have hlen : (dropAt l (idxK r d l 0) ++ [(⟨r, d, v, runM cs r d⟩ : Kp)]).length - 64 ≤ (dropAt l (idxK r d l 0)).length := by rw [List.length_append, List.length_singleton]; omega
        have e9 : lastN (dropAt l (idxK r d l 0) ++ [(⟨r, d, v, runM cs r d⟩ : Kp)]) = (dropAt l (idxK r d l 0)).drop ((dropAt l (idxK r d l 0) ++ [(⟨r, d, v, runM cs r d⟩ : Kp)]).length - 64) ++ [(⟨r, d, v, runM cs r d⟩ : Kp)] := by
          unfold lastN
          rw [List.drop_append_of_le_length hlen]
        exact ⟨_, _, e9⟩
end Go.Proofs.Ytaeengpppehlfaa
