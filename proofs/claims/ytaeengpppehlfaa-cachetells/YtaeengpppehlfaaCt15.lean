/- The document's Get puts one behind what it has: what is so then. -/
import Derived.Test.YtaeengpppehlfaaCt14
import Derived.Test.YtaeengpppehlfaaCt11
import Derived.Test.YtaeengpppehlfaaCt05
import Derived.Test.YtaeengpppehlfaaCt06
namespace Go.Proofs.Ytaeengpppehlfaa
open Go.RowKit Msk Vx

theorem put_out {wA wG w9 : World} {g13 : Nat} {runs : Int} {pr : Option Addr} {nr cr : Nat} {S l : List Kp} {v9 : Value} (hsG : g13 + 1 ≤ wG.heap.size) (oG : wG.ownsRow (g13 + 1) 51 26 (.slice pr nr cr) S.length (flatK S)) (c13G : wG.heap[g13]? = some (.cells #[.slice pr nr cr, .int .i64 runs] 40 (0, 0))) (bG : Below g13 wA wG)
    (hv9 : w9.ownsRow (g13 + 1) 51 26 v9 l.length (flatK l)) (hg9 : wG.grownBy w9 (Value.slice pr nr cr).ownBlock) :
    ∃ p9 q9, v9 = .slice p9 l.length q9 ∧ w9.cell? ⟨g13, 0, none⟩ = some (.slice pr nr cr) ∧ w9.frozen? ⟨g13, 0, none⟩ = false ∧ (w9.setCell ⟨g13, 0, none⟩ v9).heap[g13]? = some (.cells #[v9, .int .i64 runs] 40 (0, 0)) ∧ (w9.setCell ⟨g13, 0, none⟩ v9).ownsRow (g13 + 1) 51 26 v9 l.length (flatK l) ∧ Below g13 wA (w9.setCell ⟨g13, 0, none⟩ v9) := by
  obtain ⟨p9, q9, hv9e, _⟩ := ownK_slice hv9
  have ho9 : ∀ q, q < g13 + 1 → w9.heap[q]? = wG.heap[q]? := fun q hq => hg9.block q (Nat.lt_of_lt_of_le hq hsG) fun e => by have := (oG.lt q e.symm).1; omega
  have c9 := (ho9 g13 (Nat.lt_succ_self _)).trans c13G
  refine ⟨p9, q9, hv9e, (cell_of_row _ _ 0 _ _ _ c9).trans rfl, frozen_of_row _ _ 0 _ _ c9, heap_setCell_same w9 g13 0 _ _ _ c9, ?_, ?_⟩
  · exact hv9.kept (row := some g13) ⟨rfl, rfl, rfl, by simp, fun q hq hr => heap_setCell_other w9 ⟨g13, 0, none⟩ q _ fun e => hr (congrArg some e)⟩ (.inr fun e => by have := (hv9.lt g13 e).1; omega)
  · exact ⟨hg9.os.trans bG.os, hg9.tape.trans bG.tape, hg9.output.trans bG.output, Nat.le_trans bG.size (by simpa using hg9.size), fun q hq => (heap_setCell_other w9 ⟨g13, 0, none⟩ q _ (by show q ≠ g13; omega)).trans ((ho9 q (by omega)).trans (bG.block q hq))⟩
end Go.Proofs.Ytaeengpppehlfaa

/- One is put behind what is kept: what is said meanwhile. -/
namespace Go.Proofs.Ytaeengpppehlfaa
open Go.RowKit Msk Vx

/-- What is said of the world while one is put behind. -/
structure OneJ (W1 : World) (row : Option Nat) (L : Nat → Bool) (W : World) : Prop where
  grown : W1.grownBy W row
  bel : L 6 = false → Below W1.heap.size W1 W
/-- What the operations yield. -/
def osp (vals : List Value) (base n : Nat) (xs : List Value) (f : Kp) (L : Nat → Bool) (i : Nat) (v : Value) (W : World) : Prop :=
  if i = 5 then ∃ g, v = .slice (some ⟨g, 0, none⟩) 1 1 ∧ (L 6 = false → W.heap[g]? = some (.cells (kv f) 51 (0, 0)))
  else if i = 6 then W.ownsRow base 51 26 v (n + 1) (xs ++ (kv f).toList)
  else v = vals.getD i undef
section
variable {vals : List Value} {base n : Nat} {xs : List Value} {f : Kp} {L L' : Nat → Bool} {W W' W1 : World} {row : Option Nat}
theorem osp_at {i : Nat} {v : Value} (h : osp vals base n xs f L i v W) (h1 : i ≠ 5) (h2 : i ≠ 6) : v = vals.getD i undef := by
  unfold osp at h
  rw [if_neg h1, if_neg h2] at h
  exact h
theorem osp_5 {v : Value} (h : osp vals base n xs f L 5 v W) : ∃ g, v = .slice (some ⟨g, 0, none⟩) 1 1 ∧ (L 6 = false → W.heap[g]? = some (.cells (kv f) 51 (0, 0))) := by
  unfold osp at h
  rw [if_pos rfl] at h
  exact h
theorem osp_6 {v : Value} (h : osp vals base n xs f L 6 v W) : W.ownsRow base 51 26 v (n + 1) (xs ++ (kv f).toList) := by
  unfold osp at h
  rw [if_neg (by decide), if_pos rfl] at h
  exact h
theorem osp_keep (hL : L' 6 = false → L 6 = false) (hb : Below W.heap.size W W') (j : Nat) (u : Value) (h : osp vals base n xs f L j u W) : osp vals base n xs f L' j u W' := by
  unfold osp at h ⊢
  by_cases h1 : j = 5
  · rw [if_pos h1] at h ⊢
    obtain ⟨g, e, hg⟩ := h
    exact ⟨g, e, fun q => (hb.block _ (lt_of_block (hg (hL q)))).trans (hg (hL q))⟩
  · rw [if_neg h1] at h ⊢
    by_cases h2 : j = 6
    · rw [if_pos h2] at h ⊢
      exact own_below h hb
    · rw [if_neg h2] at h ⊢
      exact h
theorem osp_app {j : Nat} (hj : j ≠ 6) (u : Value) (h : osp vals base n xs f L j u W) : osp vals base n xs f (fun k => decide (6 = k) || L k) j u W' := by
  unfold osp at h ⊢
  by_cases h1 : j = 5
  · rw [if_pos h1] at h ⊢
    obtain ⟨g, e, hg⟩ := h
    exact ⟨g, e, fun q => (by simp at q)⟩
  · rw [if_neg h1] at h ⊢
    rw [if_neg hj] at h ⊢
    exact h
theorem osp_mk {i : Nat} (h1 : i ≠ 5) (h2 : i ≠ 6) : osp vals base n xs f L i (vals.getD i undef) W := by
  unfold osp
  rw [if_neg h1, if_neg h2]
theorem osp_mk5 {g : Nat} (hg : L 6 = false → W.heap[g]? = some (.cells (kv f) 51 (0, 0))) : osp vals base n xs f L 5 (.slice (some ⟨g, 0, none⟩) 1 1) W := by
  unfold osp
  rw [if_pos rfl]
  exact ⟨g, rfl, hg⟩
theorem osp_mk6 {v : Value} (h : W.ownsRow base 51 26 v (n + 1) (xs ++ (kv f).toList)) : osp vals base n xs f L 6 v W := by
  unfold osp
  rw [if_neg (by decide), if_pos rfl]
  exact h
theorem OneJ.same (h : OneJ W1 row L W) (i : Nat) (hi : i ≠ 6) : OneJ W1 row (fun k => decide (i = k) || L k) W :=
  ⟨h.grown, fun e => h.bel (by simpa [hi] using e)⟩
theorem OneJ.on (h : OneJ W1 row L W) (i : Nat) (hi : i ≠ 6) (hb : Below W.heap.size W W') : OneJ W1 row (fun k => decide (i = k) || L k) W' :=
  ⟨grown_below h.grown hb, fun e => (h.bel (by simpa [hi] using e)).trans (hb.mono (h.bel (by simpa [hi] using e)).size)⟩
theorem OneJ.app (h : OneJ W1 row L W) (hg : W.grownBy W' row) : OneJ W1 row (fun k => decide (6 = k) || L k) W' :=
  ⟨grown_trans h.grown hg, fun e => (by simp at e)⟩
theorem OneJ.start (hL : W = W1.drew) : OneJ W1 row L W := by
  subst hL
  exact ⟨⟨rfl, rfl, rfl, Nat.le_refl _, fun _ _ _ => rfl⟩, fun _ => (Below.refl _ _).drew⟩
end
theorem wp_buildK {op : Oper} {a : Act} {w : World} {K : Act → World → Prop} {Q : Exit → Act → World → Prop} (x : Operand) (ho : op.op = .buildSlice 38 1 #[(0, x)]) (k : Kp) (hx : a.eval x = .agg (kv k)) (h : K (a.put op.dst (.slice (some ⟨w.heap.size, 0, none⟩) 1 1)) (w.alloc (.cells (kv k) 51))) : op.wp Try.prog a w K Q := by
  unfold Oper.wp execOp
  have hb := buildK k w
  simp only [ho, hx, List.map_toArray, List.map_cons, List.map_nil, Sem.run_bind, Sem.run_pure, Result.andThen_ok, hb]
  exact h
theorem wp_appendK1 {op : Oper} {a : Act} {w : World} {K : Act → World → Prop} {Q : Exit → Act → World → Prop} (s x : Operand) (ho : op.op = .call { callee := .builtin .append, args := #[s, x], argTypes := #[38, 38] }) (base : Nat) (S : List Kp) (k : Kp) (v : Value) (hs : a.eval s = v) (hown : w.ownsRow base 51 26 v S.length (flatK S)) (g : Nat) (hx : a.eval x = .slice (some ⟨g, 0, none⟩) 1 1) (hg : w.heap[g]? = some (.cells (kv k) 51 (0, 0))) (hS : S.length ≤ 676622540150) (hb : base ≤ w.heap.size)
    (h : ∀ v' w', w'.ownsRow base 51 26 v' (S.length + 1) (flatK S ++ (kv k).toList) → w.grownBy w' v.ownBlock → K (a.put op.dst v') w') : op.wp Try.prog a w K Q := by
  obtain ⟨i0, hi, hz0, hz1, hz2⟩ := info_parts keptInfo
  refine wp_append_own w s x 38 ho base 51 i0 _ 26 208 keptsType hi hz0 hz1 hz2 (by exact kv_size _) (by decide) v S.length (flatK S) hs hown ⟨g, 0, none⟩ 1 1 (kv k).toList hx (kvl_len k) ?_ (kvl_one k) (by unfold maxLen; omega) (by omega) hb fun v' w' h1 h2 _ => h v' w' h1 h2
  intro q u hq
  rw [in_add9]
  exact (cell_of_row _ _ _ _ _ _ hg).trans (by rw [Nat.zero_add, ← Array.getElem?_toList]; exact hq)
/-- What the document's Get answers. -/
theorem rget_post {a : Act} {w0 w : World} (g : Nat) (m : M) (R : List Kp) (runs er at_ : Int) (v' : Value) (hd : a.defers = []) (h10 : a.tmps.getD 10 undef = .pointer (some ⟨g, 0, none⟩)) (h11 : a.tmps.getD 11 undef = .pointer (some ⟨g + 1, 0, none⟩)) (h12 : a.tmps.getD 12 undef = .pointer (some ⟨g + 2, 0, none⟩))
    (hg : w.heap[g]? = some (.cells (mv m) 25 (0, 0))) (hg1 : w.heap[g + 1]? = some (.cells #[v', .int .i64 runs] 40 (0, 0))) (hg2 : w.heap[g + 2]? = some (.cells #[.int .i64 er, .int .i64 at_] 28 (0, 0))) (hk : KRow w0.heap.size w v' R) (hb : Below w0.heap.size w0 w) : bodyPost Try.prog Try.f16 (OutG m R runs er at_ w0) .ret a w := by
  refine bodyPost_ret (v := .tuple #[.agg (mv m), .agg #[v', .int .i64 runs], .agg #[.int .i64 er, .int .i64 at_]]) ?_ hd ⟨v', rfl, hk, hb⟩
  have h10' : a.tmps[10]?.getD undef = .pointer (some ⟨g, 0, none⟩) := by simpa using h10
  have h11' : a.tmps[11]?.getD undef = .pointer (some ⟨g + 1, 0, none⟩) := by simpa using h11
  have h12' : a.tmps[12]?.getD undef = .pointer (some ⟨g + 2, 0, none⟩) := by simpa using h12
  have hv := run_loadVar_row (P := Try.prog) w g 25 25 _ _ _ hg maskType rfl (maskSize _)
  have hv1 := run_loadVar_row (P := Try.prog) w (g + 1) 40 40 _ _ _ hg1 cacheType rfl cacheSize
  have hv2 := run_loadVar_row (P := Try.prog) w (g + 2) 28 28 _ _ _ hg2 faultTypeV rfl faultSize9
  simp [results, Try.results16, h10', h11', h12', asAddr, hv, hv1, hv2]
end Go.Proofs.Ytaeengpppehlfaa

/- Rows of marks in memory, as the document's Calls makes them. -/
namespace Go.Proofs.Ytaeengpppehlfaa
open Go.RowKit Msk Vx

/-- Marks as cells. -/
def bcells (n : Nat) (m : Nat → Bool) : Array Value := ((List.range n).map fun i => Value.bool (m i)).toArray
theorem bcells_at {n : Nat} {m : Nat → Bool} {i : Nat} (h : i < n) : (bcells n m)[i]? = some (.bool (m i)) := by
  simp [bcells, h]
theorem bcells_none (n : Nat) : madeCells #[Value.bool false] n = bcells n (fun _ => false) := by
  apply Array.ext
  · simp [bcells, madeCells]
  · intro k h1 h2
    simp [bcells, madeCells, Nat.mod_one]
theorem bcells_setb {n : Nat} {m : Nat → Bool} {i : Nat} {b : Bool} : (bcells n m).setIfInBounds i (.bool b) = bcells n (fun k => if k = i then b else m k) := by
  apply Array.ext
  · simp [bcells]
  · intro k h1 h2
    have hk : k < n := by simpa [bcells] using h2
    rw [Array.getElem_setIfInBounds (by simpa [bcells] using hk)]
    by_cases e : i = k
    · subst e
      simp [bcells]
    · rw [if_neg e]
      simp [bcells, show k ≠ i from fun h => e h.symm]
/-- Rows as cells: the first so many are made. -/
def ocells (n p : Nat) (rs : Nat → Nat) : Array Value := ((List.range n).map fun j => if j < p then Value.slice (some ⟨rs j, 0, none⟩) n n else .slice none 0 0).toArray
theorem ocells_at {n p : Nat} {rs : Nat → Nat} {j : Nat} (h : j < p) (hn : j < n) : (ocells n p rs)[j]? = some (.slice (some ⟨rs j, 0, none⟩) n n) := by
  simp [ocells, hn, h]
theorem ocells_not {n p : Nat} {rs : Nat → Nat} {j : Nat} (h : p ≤ j) (hn : j < n) : (ocells n p rs)[j]? = some (.slice none 0 0) := by
  simp [ocells, hn]; omega
theorem ocells_none (n : Nat) (rs : Nat → Nat) : madeCells #[Value.slice none 0 0] n = ocells n 0 rs := by
  apply Array.ext
  · simp [ocells, madeCells]
  · intro k h1 h2
    simp [ocells, madeCells, Nat.mod_one]
theorem ocells_set {n p q : Nat} {rs : Nat → Nat} : (ocells n p rs).setIfInBounds p (.slice (some ⟨q, 0, none⟩) n n) = ocells n (p + 1) (fun j => if j = p then q else rs j) := by
  apply Array.ext
  · simp [ocells]
  · intro k h1 h2
    have hk : k < n := by simpa [ocells] using h2
    rw [Array.getElem_setIfInBounds (by simpa [ocells] using hk)]
    by_cases e : p = k
    · subst e
      simp [ocells]
    · rw [if_neg e]
      have e2 : k ≠ p := fun h => e h.symm
      by_cases h : k < p
      · simp [ocells, e2, h, show k < p + 1 by omega]
      · simp [ocells, h, show ¬ k < p + 1 by omega]
def upd2 (M : Nat → Nat → Bool) (i k : Nat) (b : Bool) : Nat → Nat → Bool := fun i' k' => if i' = i ∧ k' = k then b else M i' k'
/-- Rows of marks in memory, made since; the first so many of them. -/
structure RcM (w : World) (n p : Nat) (rs : Nat → Nat) (M : Nat → Nat → Bool) (W : World) : Prop where
  bel : Below w.heap.size w W
  outer : W.heap[w.heap.size]? = some (.cells (ocells n p rs) 80 (0, 0))
  rows : ∀ j, j < p → W.heap[rs j]? = some (.cells (bcells n (M j)) 4 (0, 0))
  inj : ∀ j k, j < p → k < p → rs j = rs k → j = k
  gt : ∀ j, j < p → w.heap.size < rs j
  le : p ≤ n
theorem RcM.below {w W W' : World} {n p : Nat} {rs : Nat → Nat} {M : Nat → Nat → Bool} (h : RcM w n p rs M W) (hb : Below W.heap.size W W') : RcM w n p rs M W' :=
  ⟨h.bel.trans (hb.mono h.bel.size), (hb.block _ (lt_of_block h.outer)).trans h.outer, fun j hj => (hb.block _ (lt_of_block (h.rows j hj))).trans (h.rows j hj), h.inj, h.gt, h.le⟩
theorem RcM.same {w W : World} {n p : Nat} {rs : Nat → Nat} {M M' : Nat → Nat → Bool} (h : RcM w n p rs M W) (he : ∀ j k, j < p → k < n → M j k = M' j k) : RcM w n p rs M' W := by
  refine ⟨h.bel, h.outer, fun j hj => ?_, h.inj, h.gt, h.le⟩
  rw [h.rows j hj]
  have : bcells n (M j) = bcells n (M' j) := by
    unfold bcells
    congr 1
    apply List.map_congr_left
    intro k hk
    rw [he j k hj (List.mem_range.1 hk)]
  rw [this]
theorem RcM.out {w W : World} {n p : Nat} {rs : Nat → Nat} {M : Nat → Nat → Bool} (h : RcM w n p rs M W) {i : Nat} (hi : i < p) : W.cell? ⟨w.heap.size, i, none⟩ = some (.slice (some ⟨rs i, 0, none⟩) n n) :=
  (cell_of_row _ _ i _ _ _ h.outer).trans (ocells_at hi (by have := h.le; omega))
theorem RcM.cell {w W : World} {n p : Nat} {rs : Nat → Nat} {M : Nat → Nat → Bool} (h : RcM w n p rs M W) {i k : Nat} (hi : i < p) (hk : k < n) : W.cell? ⟨rs i, k, none⟩ = some (.bool (M i k)) :=
  (cell_of_row _ _ k _ _ _ (h.rows i hi)).trans (bcells_at hk)
theorem RcM.frz {w W : World} {n p : Nat} {rs : Nat → Nat} {M : Nat → Nat → Bool} (h : RcM w n p rs M W) {i : Nat} (hi : i < p) (k : Nat) : W.frozen? ⟨rs i, k, none⟩ = false := frozen_of_row _ _ k _ _ (h.rows i hi)
theorem RcM.set {w W : World} {n p : Nat} {rs : Nat → Nat} {M : Nat → Nat → Bool} (h : RcM w n p rs M W) {i k : Nat} {b : Bool} (hi : i < p) : RcM w n p rs (upd2 M i k b) (W.setCell ⟨rs i, k, none⟩ (.bool b)) := by
  have ho : ∀ q, q ≠ rs i → (W.setCell ⟨rs i, k, none⟩ (.bool b)).heap[q]? = W.heap[q]? := fun q hq => heap_setCell_other W ⟨rs i, k, none⟩ q _ hq
  have hg := h.gt i hi
  refine ⟨h.bel.setCell (by show w.heap.size ≤ rs i; omega) _, (ho _ (by omega)).trans h.outer, fun j hj => ?_, h.inj, h.gt, h.le⟩
  by_cases e : j = i
  · subst e
    have := heap_setCell_same W (rs j) k _ _ (.bool b) (h.rows j hj)
    rw [bcells_setb] at this
    rw [this]
    have e2 : upd2 M j k b j = fun k' => if k' = k then b else M j k' := by
      funext k'
      simp [upd2]
    rw [e2]
  · rw [ho _ (fun h' => e (h.inj j i hj hi h'))]
    have e2 : upd2 M i k b j = M j := by
      funext k'
      simp [upd2, e]
    rw [e2]
    exact h.rows j hj
theorem RcM.add {w W : World} {n p : Nat} {rs : Nat → Nat} {M : Nat → Nat → Bool} (h : RcM w n p rs M W) (hp : p < n) : RcM w n (p + 1) (fun j => if j = p then W.heap.size else rs j) (fun j k => if j = p then false else M j k) ((W.alloc (.cells (bcells n (fun _ => false)) 4)).setCell ⟨w.heap.size, p, none⟩ (.slice (some ⟨W.heap.size, 0, none⟩) n n)) := by
  have hsz := h.bel.size
  have hlo := lt_of_block h.outer
  have bA := (Below.refl W.heap.size W).alloc (Nat.le_refl _) (.cells (bcells n (fun _ => false)) 4)
  have ho : ∀ q, q ≠ w.heap.size → ((W.alloc (.cells (bcells n (fun _ => false)) 4)).setCell ⟨w.heap.size, p, none⟩ (.slice (some ⟨W.heap.size, 0, none⟩) n n)).heap[q]? = (W.alloc (.cells (bcells n (fun _ => false)) 4)).heap[q]? := fun q hq => heap_setCell_other _ ⟨w.heap.size, p, none⟩ q _ hq
  have hA := h.below bA
  refine ⟨hA.bel.setCell (by show w.heap.size ≤ w.heap.size; omega) _, ?_, fun j hj => ?_, fun j k hj hk => ?_, fun j hj => ?_, by omega⟩
  · have := heap_setCell_same _ w.heap.size p _ _ (.slice (some ⟨W.heap.size, 0, none⟩) n n) hA.outer
    rw [ocells_set] at this
    exact this
  · by_cases e : j = p
    · subst e
      simp only [if_pos]
      rw [ho _ (by omega)]
      exact heap_alloc_new W _
    · simp only [if_neg e]
      have hj' : j < p := by omega
      have := h.gt j hj'
      rw [ho _ (by omega)]
      exact hA.rows j hj'
  · have hl1 : ∀ q, q < p → rs q < W.heap.size := fun q hq => lt_of_block (h.rows q hq)
    by_cases e : j = p
    · by_cases e' : k = p
      · intro _; omega
      · rw [if_pos e, if_neg e']
        have := hl1 k (by omega)
        intro h'; omega
    · by_cases e' : k = p
      · rw [if_neg e, if_pos e']
        have := hl1 j (by omega)
        intro h'; omega
      · rw [if_neg e, if_neg e']
        exact h.inj j k (by omega) (by omega)
  · split
    · omega
    · exact h.gt j (by omega)
theorem boolInfo9 : (Try.prog.info? 4).map (fun i => (i.zero, i.size, i.bytes)) = some (some (.bool false), 1, 1) := by kernel_rfl
theorem boolsType9 : Try.prog.underlying 80 = some (.slice 4) := by kernel_rfl
theorem slInfo9 : (Try.prog.info? 80).map (fun i => (i.zero, i.size, i.bytes)) = some (some (.slice none 0 0), 1, 24) := by kernel_rfl
theorem boolssType9 : Try.prog.underlying 78 = some (.slice 80) := by kernel_rfl
/-- All ways at once, so far: this round's so many rows, and so many of a row. -/
def sW (E : Nat → Nat → Bool) (m i k : Nat) : Nat → Nat → Bool := fun i' k' => if i' < i ∨ (i' = i ∧ k' < k) then wars E (m + 1) i' k' else wars E m i' k'
theorem wars_colV (E : Nat → Nat → Bool) (m i : Nat) : wars E (m + 1) i m = wars E m i m := by
  simp only [wars]
  cases wars E m i m <;> simp
theorem sW_col (E : Nat → Nat → Bool) (m i k i' : Nat) : sW E m i k i' m = wars E m i' m := by
  unfold sW
  split
  · exact wars_colV E m i'
  · rfl
theorem sW_row (E : Nat → Nat → Bool) (m i k k' : Nat) : sW E m i k m k' = wars E m m k' := by
  unfold sW
  split
  · exact wars_self E m k'
  · rfl
theorem sW_cur (E : Nat → Nat → Bool) (m i k : Nat) : sW E m i k i k = wars E m i k := if_neg (by omega)
theorem sW_next (E : Nat → Nat → Bool) (m i k : Nat) : upd2 (sW E m i k) i k (sW E m i k i k || (sW E m i k i m && sW E m i k m k)) = sW E m i (k + 1) := by
  funext i' k'
  unfold upd2
  by_cases h : i' = i ∧ k' = k
  · obtain ⟨rfl, rfl⟩ := h
    rw [if_pos ⟨rfl, rfl⟩, sW_cur, sW_col, sW_row]
    unfold sW
    rw [if_pos (by omega)]
    rfl
  · rw [if_neg h]
    unfold sW
    by_cases h2 : i' < i ∨ (i' = i ∧ k' < k)
    · rw [if_pos h2, if_pos (by omega)]
    · rw [if_neg h2, if_neg (by omega)]
end Go.Proofs.Ytaeengpppehlfaa

/- A region in the text's order, whose values are known beforehand: said as of one that draws its order. It speaks of no program. -/
namespace Go.Proofs.Ytaeengpppehlfaa
open Go Go.RowKit
section
variable {P : Program} {ops : Array Oper} {Q : Exit → Act → World → Prop} {id : Nat} {a0 : Act} {w : World}
theorem back_of (hB : backB ops = true) {i : Nat} {o : Oper} (ho : ops[i]? = some o) : ∀ e ∈ o.after, Region.binds .any e = true → e.on < i := fun e he hb => by
  have hi : i < ops.size := (Array.getElem?_eq_some_iff.1 ho).1
  have h1 := List.all_eq_true.1 hB i (by simpa using hi)
  rw [ho] at h1
  have h2 := Array.all_eq_true'.1 h1 e he
  rw [hb] at h2
  simpa using h2
theorem dst_ne (hD : dstB ops = true) {i j s t : Nat} {p q : Oper} (hp : ops[i]? = some p) (hq : ops[j]? = some q) (hs : p.dst = some s) (ht : q.dst = some t) (hij : i ≠ j) : s ≠ t := by
  have hi : i < ops.size := (Array.getElem?_eq_some_iff.1 hp).1
  have hj : j < ops.size := (Array.getElem?_eq_some_iff.1 hq).1
  have h1 := List.all_eq_true.1 hD i (by simpa using hi)
  have h2 := List.all_eq_true.1 h1 j (by simpa using hj)
  rw [hp, hq] at h2
  simp only [Option.bind_some, hs, ht] at h2
  have h3 : (i == j) = false := by simpa using hij
  rw [h3] at h2
  simpa using h2
theorem wp_plain_JL (J : (Nat → Bool) → World → Prop) (hJ0 : ∀ L : Nat → Bool, (∀ i, i < ops.size → L i = false) → J L w) (hJe : ∀ (L L' : Nat → Bool) (W : World), (∀ k, k < ops.size → L k = L' k) → J L W → J L' W) (hback : backB ops = true) (hdst : dstB ops = true) (hin : inB ops a0.tmps.size = true) (ds : List (Option Nat × Value)) (es : List (Nat × Value))
    (hds : ops.toList.map (fun o => o.dst) = ds.map (fun p => p.1)) (hes : ds.filterMap (fun p => p.1.map fun s => (s, p.2)) = es) (hnd : decide ((es.map (fun p => p.1)).Nodup) = true)
    (hstep : StepL P ops Q ds a0 J) (hend : ∀ (L : Nat → Bool) (W : World), (∀ i, i < ops.size → L i = true) → J L W → Q .normal (putAll es a0) W) : (Code.region id ops false).wp P Q a0 w := by
  have hl : ds.length = ops.size := by
    have h := congrArg List.length hds
    simpa using h.symm
  have atD : ∀ {j : Nat} {p : Oper}, ops[j]? = some p → ∃ v, ds[j]? = some (p.dst, v) := fun {j p} hp => by
    have h1 : (ops.toList.map (fun o => o.dst))[j]? = some p.dst := by
      rw [List.getElem?_map, Array.getElem?_toList, hp]
      rfl
    rw [hds, List.getElem?_map] at h1
    cases hs : ds[j]? with
    | none => rw [hs] at h1; cases h1
    | some q =>
      rw [hs] at h1
      exact ⟨q.2, by rw [← Option.some.inj h1]⟩
  have atO : ∀ {j : Nat} {d : Option Nat} {v : Value}, ds[j]? = some (d, v) → ∃ p, ops[j]? = some p ∧ p.dst = d := fun {j d v} hj => by
    have hj' := (List.getElem?_eq_some_iff.1 hj).1
    obtain ⟨p, hp⟩ : ∃ p, ops[j]? = some p := ⟨ops[j]'(by omega), Array.getElem?_eq_getElem _⟩
    obtain ⟨v', hv'⟩ := atD hp
    rw [hj] at hv'
    exact ⟨p, hp, (congrArg Prod.fst (Option.some.inj hv')).symm⟩
  have main : ∀ (m k : Nat) (A : Act) (W : World), k + m = ops.size → A.defers = a0.defers → A.tmps.size = a0.tmps.size →
      (∀ s, (∀ (j : Nat) (p : Oper), ops[j]? = some p → j < k → p.dst ≠ some s) → A.tmps.getD s undef = a0.tmps.getD s undef) →
      (∀ (j s : Nat) (u : Value), ds[j]? = some (some s, u) → j < k → A.tmps.getD s undef = u) → J (fun j => decide (j < k)) W → wpOps P ops Q (List.range' k m) A W := by
    intro m
    induction m with
    | zero =>
      intro k A W hk hdef hsize hkept hhas hJ
      show Q .normal A W
      have e : A = putAll es a0 := by
        refine act_is es hdef hsize (by
          have := of_decide_eq_true hnd
          rw [show es.map (fun p => some p.1) = (es.map (fun p => p.1)).map some by rw [List.map_map]; rfl]
          rw [List.nodup_iff_pairwise_ne] at this ⊢
          rw [List.pairwise_map]
          exact this.imp fun hab e => hab (Option.some.inj e)) (fun s h => hkept s fun j p hp _ e => ?_) (fun j s v hj => ?_)
        · obtain ⟨v, hv⟩ := atD hp
          refine h (s, v) ?_ rfl
          rw [← hes, List.mem_filterMap]
          exact ⟨_, List.mem_of_getElem? hv, by rw [e]; rfl⟩
        · have hm' := List.mem_of_getElem? hj
          rw [← hes, List.mem_filterMap] at hm'
          obtain ⟨q, hq, hqe⟩ := hm'
          obtain ⟨i, hi⟩ := List.getElem?_of_mem hq
          obtain ⟨d, v'⟩ := q
          cases d with
          | none => cases hqe
          | some t =>
            have h2 := Option.some.inj hqe
            have h3 : t = s := congrArg Prod.fst h2
            have h4 : v' = v := congrArg Prod.snd h2
            subst h3 h4
            exact hhas i t _ hi (by have := (List.getElem?_eq_some_iff.1 hi).1; omega)
      rw [e]
      exact hend _ W (fun i hi => by simp; omega) hJ
    | succ m ih =>
      intro k A W hk hdef hsize hkept hhas hJ
      rw [List.range'_succ, wpOps_cons]
      have hkl : k < ops.size := by omega
      obtain ⟨o, ho⟩ : ∃ o, ops[k]? = some o := ⟨ops[k], Array.getElem?_eq_getElem hkl⟩
      obtain ⟨v, hv⟩ := atD ho
      have hc : ClosL ops (fun j => decide (j < k)) := fun j p hp hj e he hb => by
        have := back_of hback hp e he hb
        simp at hj ⊢
        omega
      refine wpOp_mono ?_ (hstep k o.dst v o (fun j => decide (j < k)) A W ho hv (by simp) (fun e he hb => by
        have := back_of hback ho e he hb
        simpa using this) hc hJ (fun s h => hkept s fun j p hp _ => nd h j p hp) fun j s u hj hL => hhas j s u hj (by simpa using hL))
      rintro a' W' ⟨rfl, hJ'⟩
      refine ih (k + 1) _ W' (by omega) (by
        cases hd : o.dst with
        | none => exact hdef
        | some s => exact hdef) (by
        cases hd : o.dst with
        | none => exact hsize
        | some s => simpa [Act.put] using hsize) (fun s h => ?_) (fun j s u hj hjk => ?_) (hJe _ _ _ (fun q _ => by
          by_cases e : k = q
          · subst e; simp
          · by_cases e2 : q < k
            · simp [e, e2, show q < k + 1 by omega]
            · simp [e, e2, show ¬ q < k + 1 by omega]) hJ')
      · have h0 := hkept s fun j p hp hj => h j p hp (by omega)
        cases hd : o.dst with
        | none => exact h0
        | some t =>
          have hne : t ≠ s := fun e => h k o ho (by omega) (by rw [hd, e])
          exact (getD_set_other _ _ _ _ hne).trans h0
      · by_cases e : j = k
        · subst e
          rw [hv] at hj
          have h2 := Option.some.inj hj
          have h3 : o.dst = some s := congrArg Prod.fst h2
          have h4 : v = u := congrArg Prod.snd h2
          subst h4
          rw [h3]
          have hsl : s < A.tmps.size := by
            have q1 := List.all_eq_true.1 hin j (by simpa using hkl)
            rw [ho] at q1
            simp only [Option.bind_some, h3] at q1
            rw [hsize]
            simpa using q1
          exact getD_set_same _ _ _ hsl
        · have h0 := hhas j s u hj (by omega)
          obtain ⟨p, hp, hd'⟩ := atO hj
          cases hd : o.dst with
          | none => exact h0
          | some t =>
            have hne : t ≠ s := dst_ne hdst ho hp hd hd' (fun e' => e e'.symm)
            exact (getD_set_other _ _ _ _ hne).trans h0
  refine wp_region ?_
  rw [List.range_eq_range']
  refine main ops.size 0 a0 w (by omega) rfl rfl (fun _ _ => rfl) (fun _ _ _ _ h => by omega) (hJ0 _ fun i _ => by simp)
end
end Go.Proofs.Ytaeengpppehlfaa
