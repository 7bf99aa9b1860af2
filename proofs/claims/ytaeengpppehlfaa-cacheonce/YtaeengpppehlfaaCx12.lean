/- What is said of the world while cache.Get answers. Written by gencad.py. -/
import Derived.Test.YtaeengpppehlfaaCx11
import Derived.Test.YtaeengpppehlfaaCx09
namespace Go.Proofs.Ytaeengpppehlfaa
open Go.RowKit Msk Vx

theorem KRow.set {B : Nat} {w : World} {v : Value} {l : List Kp} (h : KRow B w v l) {g : Nat} (hg : g < B) (X : Array Value) : KRow B (w.setRow g X) v l := by
  obtain ⟨p, c, e, h1, h2, h3⟩ := h
  refine ⟨p, c, e, h1, h2, fun hn => ?_⟩
  obtain ⟨b, o, hp, hB, hr⟩ := h3 hn
  refine ⟨b, o, hp, hB, fun j u hj => ?_⟩
  have hc := hr j u hj
  have he := setRow_other w g b X (by omega)
  unfold World.cell? at hc ⊢
  rw [he]
  exact hc
/-- What the operations yield: values known beforehand, rows of what is kept, a cache. -/
def gsp (vals : List Value) (B : Nat) (R0 R : List Kp) (runs : Int) (i0 i1 i2 : Nat) (i : Nat) (v : Value) (W : World) : Prop :=
  if i = i0 then KRow B W v R0 else if i = i1 then KRow B W v R else if i = i2 then ∃ v', v = .agg #[v', .int .i64 runs] ∧ KRow B W v' R else v = vals.getD i undef
section
variable {vals : List Value} {B : Nat} {R0 R : List Kp} {runs : Int} {i0 i1 i2 : Nat} {W W' : World}
theorem gsp_mono (hK : ∀ v l, KRow B W v l → KRow B W' v l) {i : Nat} {v : Value} (h : gsp vals B R0 R runs i0 i1 i2 i v W) : gsp vals B R0 R runs i0 i1 i2 i v W' := by
  unfold gsp at h ⊢
  by_cases h0 : i = i0
  · rw [if_pos h0] at h ⊢
    exact hK _ _ h
  · rw [if_neg h0] at h ⊢
    by_cases h1 : i = i1
    · rw [if_pos h1] at h ⊢
      exact hK _ _ h
    · rw [if_neg h1] at h ⊢
      by_cases h2 : i = i2
      · rw [if_pos h2] at h ⊢
        obtain ⟨v', e, hk⟩ := h
        exact ⟨v', e, hK _ _ hk⟩
      · rw [if_neg h2] at h ⊢
        exact h
theorem gsp_at {i : Nat} {v : Value} (h : gsp vals B R0 R runs i0 i1 i2 i v W) (h0 : i ≠ i0) (h1 : i ≠ i1) (h2 : i ≠ i2) : v = vals.getD i undef := by
  unfold gsp at h
  rw [if_neg h0, if_neg h1, if_neg h2] at h
  exact h
theorem gsp_mk {i : Nat} (h0 : i ≠ i0) (h1 : i ≠ i1) (h2 : i ≠ i2) : gsp vals B R0 R runs i0 i1 i2 i (vals.getD i undef) W := by
  unfold gsp
  rw [if_neg h0, if_neg h1, if_neg h2]
theorem gsp_0 {v : Value} : gsp vals B R0 R runs i0 i1 i2 i0 v W ↔ KRow B W v R0 := by
  unfold gsp
  rw [if_pos rfl]
theorem gsp_1 {v : Value} (h : i1 ≠ i0) : gsp vals B R0 R runs i0 i1 i2 i1 v W ↔ KRow B W v R := by
  unfold gsp
  rw [if_neg h, if_pos rfl]
theorem gsp_2 {v : Value} (h : i2 ≠ i0) (h' : i2 ≠ i1) : gsp vals B R0 R runs i0 i1 i2 i2 v W ↔ ∃ v', v = .agg #[v', .int .i64 runs] ∧ KRow B W v' R := by
  unfold gsp
  rw [if_neg h, if_neg h', if_pos rfl]
end
/-- What is so while the answer is laid: ga the mask, ga + 1 the cache, ga + 2 the fault; im, ic, if their stores. -/
structure GJ (w0 w1 : World) (ga B : Nat) (m : M) (R : List Kp) (runs er at_ : Int) (im ic iF : Nat) (L : Nat → Bool) (W : World) : Prop where
  bel : Below w0.heap.size w0 W
  low : ∀ q, q < B → q ≠ ga → q ≠ ga + 1 → q ≠ ga + 2 → W.heap[q]? = w1.heap[q]?
  size : B ≤ W.heap.size
  b0 : w0.heap.size ≤ ga
  b1 : ga + 2 < B
  m0 : L im = false → W.heap[ga]? = some (.cells (mv fun _ => false) 25 (0, 0))
  m1 : L im = true → W.heap[ga]? = some (.cells (mv m) 25 (0, 0))
  c0 : L ic = false → W.heap[ga + 1]? = some (.cells #[.slice none 0 0, .int .i64 0] 40 (0, 0))
  c1 : L ic = true → ∃ v', W.heap[ga + 1]? = some (.cells #[v', .int .i64 runs] 40 (0, 0)) ∧ KRow B W v' R
  f0 : L iF = false → W.heap[ga + 2]? = some (.cells #[.int .i64 0, .int .i64 0] 28 (0, 0))
  f1 : L iF = true → W.heap[ga + 2]? = some (.cells #[.int .i64 er, .int .i64 at_] 28 (0, 0))
section
variable {w0 w1 : World} {ga B : Nat} {m : M} {R : List Kp} {runs er at_ : Int} {im ic iF : Nat} {L : Nat → Bool} {W W' : World}
theorem or_f {i k : Nat} {b : Bool} (h : (decide (i = k) || b) = false) : b = false := (Bool.or_eq_false_iff.1 h).2
theorem or_t {i k : Nat} {b : Bool} (hne : i ≠ k) (h : (decide (i = k) || b) = true) : b = true := by simpa [hne] using h
/-- Something else was done; new memory perhaps. -/
theorem GJ.on (h : GJ w0 w1 ga B m R runs er at_ im ic iF L W) (i : Nat) (h1 : i ≠ im) (h2 : i ≠ ic) (h3 : i ≠ iF) (hb : Below W.heap.size W W') : GJ w0 w1 ga B m R runs er at_ im ic iF (fun k => decide (i = k) || L k) W' := by
  have lt : ∀ q, q < B → W'.heap[q]? = W.heap[q]? := fun q hq => hb.block q (Nat.lt_of_lt_of_le hq h.size)
  have hb1 := h.b1
  refine ⟨h.bel.trans (hb.mono h.bel.size), fun q a b c d => (lt q a).trans (h.low q a b c d), Nat.le_trans h.size hb.size, h.b0, h.b1, fun e => (lt _ (by omega)).trans (h.m0 (or_f e)), fun e => (lt _ (by omega)).trans (h.m1 (or_t h1 e)), fun e => (lt _ (by omega)).trans (h.c0 (or_f e)), fun e => ?_, fun e => (lt _ (by omega)).trans (h.f0 (or_f e)), fun e => (lt _ (by omega)).trans (h.f1 (or_t h3 e))⟩
  obtain ⟨v', e1, e2⟩ := h.c1 (or_t h2 e)
  exact ⟨v', (lt _ (by omega)).trans e1, e2.later hb⟩
theorem GJ.same (h : GJ w0 w1 ga B m R runs er at_ im ic iF L W) (i : Nat) (h1 : i ≠ im) (h2 : i ≠ ic) (h3 : i ≠ iF) : GJ w0 w1 ga B m R runs er at_ im ic iF (fun k => decide (i = k) || L k) W := h.on i h1 h2 h3 (Below.refl _ _)
theorem GJ.mask (h : GJ w0 w1 ga B m R runs er at_ im ic iF L W) (hL : L im = false) (h2 : im ≠ ic) (h3 : im ≠ iF) : GJ w0 w1 ga B m R runs er at_ im ic iF (fun k => decide (im = k) || L k) (W.setRow ga (mv m)) := by
  have ot : ∀ q, q ≠ ga → (W.setRow ga (mv m)).heap[q]? = W.heap[q]? := fun q hq => setRow_other W ga q (mv m) hq
  have hb1 := h.b1
  refine ⟨below_setRow h.bel h.b0 _, fun q a b c d => (ot q b).trans (h.low q a b c d), by simpa using h.size, h.b0, h.b1, fun e => (by simp at e), fun _ => setRow_heap _ _ _ _ _ _ (h.m0 hL), fun e => (ot _ (by omega)).trans (h.c0 (or_f e)), fun e => ?_, fun e => (ot _ (by omega)).trans (h.f0 (or_f e)), fun e => (ot _ (by omega)).trans (h.f1 (or_t h3 e))⟩
  obtain ⟨v', e1, e2⟩ := h.c1 (or_t h2 e)
  exact ⟨v', (ot _ (by omega)).trans e1, e2.set (by omega) _⟩
theorem GJ.cache (h : GJ w0 w1 ga B m R runs er at_ im ic iF L W) (hL : L ic = false) (h1 : ic ≠ im) (h3 : ic ≠ iF) {v' : Value} (hv : KRow B W v' R) : GJ w0 w1 ga B m R runs er at_ im ic iF (fun k => decide (ic = k) || L k) (W.setRow (ga + 1) #[v', .int .i64 runs]) := by
  have ot : ∀ q, q ≠ ga + 1 → (W.setRow (ga + 1) #[v', .int .i64 runs]).heap[q]? = W.heap[q]? := fun q hq => setRow_other W (ga + 1) q _ hq
  have hb1 := h.b1
  have hb0 := h.b0
  exact ⟨below_setRow h.bel (by omega) _, fun q a b c d => (ot q c).trans (h.low q a b c d), by simpa using h.size, h.b0, h.b1, fun e => (ot _ (by omega)).trans (h.m0 (or_f e)), fun e => (ot _ (by omega)).trans (h.m1 (or_t h1 e)), fun e => (by simp at e), fun _ => ⟨v', setRow_heap _ _ _ _ _ _ (h.c0 hL), hv.set (by omega) _⟩, fun e => (ot _ (by omega)).trans (h.f0 (or_f e)), fun e => (ot _ (by omega)).trans (h.f1 (or_t h3 e))⟩
theorem GJ.fault (h : GJ w0 w1 ga B m R runs er at_ im ic iF L W) (hL : L iF = false) (h1 : iF ≠ im) (h2 : iF ≠ ic) : GJ w0 w1 ga B m R runs er at_ im ic iF (fun k => decide (iF = k) || L k) (W.setRow (ga + 2) #[.int .i64 er, .int .i64 at_]) := by
  have ot : ∀ q, q ≠ ga + 2 → (W.setRow (ga + 2) #[.int .i64 er, .int .i64 at_]).heap[q]? = W.heap[q]? := fun q hq => setRow_other W (ga + 2) q _ hq
  have hb1 := h.b1
  have hb0 := h.b0
  refine ⟨below_setRow h.bel (by omega) _, fun q a b c d => (ot q d).trans (h.low q a b c d), by simpa using h.size, h.b0, h.b1, fun e => (ot _ (by omega)).trans (h.m0 (or_f e)), fun e => (ot _ (by omega)).trans (h.m1 (or_t h1 e)), fun e => (ot _ (by omega)).trans (h.c0 (or_f e)), fun e => ?_, fun e => (by simp at e), fun _ => setRow_heap _ _ _ _ _ _ (h.f0 hL)⟩
  obtain ⟨v', e1, e2⟩ := h.c1 (or_t h2 e)
  exact ⟨v', (ot _ (by omega)).trans e1, e2.set (by omega) _⟩
end
theorem kv_mask (k : Kp) (j : Nat) (_ : j < 23) : (kv k)[3 + j]? = (mv k.m)[j]? := by
  unfold kv
  rw [Array.getElem?_append_right (by simp)]
  simp
theorem range_kv {w : World} {g : Nat} {k : Kp} (h : w.heap[g]? = some (.cells (kv k) 51 (0, 0))) : w.rangeAt g 3 (mv k.m).toList := fun j u hj => by
  have hjl : j < 23 := by
    have := (List.getElem?_eq_some_iff.1 hj).1
    rwa [mvl_len] at this
  refine (cell_of_row _ _ _ _ _ _ h).trans ?_
  rw [kv_mask k j hjl, ← Array.getElem?_toList]
  exact hj
theorem cacheType : Try.prog.underlying 40 = some (.struct (Try.prog.fieldsOf 40)) := by kernel_rfl
theorem cacheSize : (Try.prog.info? 40).map (·.size) = some 2 := by kernel_rfl
theorem faultSize9 : (Try.prog.info? 28).map (·.size) = some 2 := by kernel_rfl
/-- What cache.Get answers. -/
def OutG (m : M) (R : List Kp) (runs er at_ : Int) (w : World) (e : Ending) (w' : World) : Prop := ∃ v', e = .returned (.tuple #[.agg (mv m), .agg #[v', .int .i64 runs], .agg #[.int .i64 er, .int .i64 at_]]) ∧ KRow w.heap.size w' v' R ∧ Below w.heap.size w w'
theorem get_post {a : Act} {w0 w : World} (g : Nat) (m : M) (R : List Kp) (runs er at_ : Int) (v' : Value) (hd : a.defers = []) (h10 : a.tmps.getD 10 undef = .pointer (some ⟨g, 0, none⟩)) (h11 : a.tmps.getD 11 undef = .pointer (some ⟨g + 1, 0, none⟩)) (h12 : a.tmps.getD 12 undef = .pointer (some ⟨g + 2, 0, none⟩))
    (hg : w.heap[g]? = some (.cells (mv m) 25 (0, 0))) (hg1 : w.heap[g + 1]? = some (.cells #[v', .int .i64 runs] 40 (0, 0))) (hg2 : w.heap[g + 2]? = some (.cells #[.int .i64 er, .int .i64 at_] 28 (0, 0))) (hk : KRow w0.heap.size w v' R) (hb : Below w0.heap.size w0 w) : bodyPost Try.prog Try.f15 (OutG m R runs er at_ w0) .ret a w := by
  refine bodyPost_ret (v := .tuple #[.agg (mv m), .agg #[v', .int .i64 runs], .agg #[.int .i64 er, .int .i64 at_]]) ?_ hd ⟨v', rfl, hk, hb⟩
  have h10' : a.tmps[10]?.getD undef = .pointer (some ⟨g, 0, none⟩) := by simpa using h10
  have h11' : a.tmps[11]?.getD undef = .pointer (some ⟨g + 1, 0, none⟩) := by simpa using h11
  have h12' : a.tmps[12]?.getD undef = .pointer (some ⟨g + 2, 0, none⟩) := by simpa using h12
  have hv := run_loadVar_row (P := Try.prog) w g 25 25 _ _ _ hg maskType rfl (maskSize _)
  have hv1 := run_loadVar_row (P := Try.prog) w (g + 1) 40 40 _ _ _ hg1 cacheType rfl cacheSize
  have hv2 := run_loadVar_row (P := Try.prog) w (g + 2) 28 28 _ _ _ hg2 faultTypeV rfl faultSize9
  simp [results, Try.results15, h10', h11', h12', asAddr, hv, hv1, hv2]
end Go.Proofs.Ytaeengpppehlfaa

/- cache.Get. Written by gencae.py. -/
namespace Go.Proofs.Ytaeengpppehlfaa
open Go.RowKit Msk Vx

theorem renewed_any (l : List Kp) (v : Value) (i : Int) (k : Kp) (w : World) (h : KRow 0 w v l) (hl : l.length ≤ 676622540150) (hi : i < l.length) :
    Calls Try.prog 45 #[v, .int .i64 i, .agg (kv k)] w fun e w' => ∃ v', e = .returned v' ∧ KRow w.heap.size w' v' (dropAt l i ++ [k]) ∧ Below w.heap.size w w' := by
  by_cases h0 : 0 ≤ i
  · obtain ⟨n, rfl⟩ : ∃ n : Nat, i = (n : Int) := ⟨i.toNat, by omega⟩
    refine (renewed_at l v n (by omega) k w h hl).mono ?_
    rintro e w' ⟨v', rfl, own, hb⟩
    have e1 : dropAt l (n : Int) = l.take n ++ l.drop (n + 1) := by
      unfold dropAt
      rw [if_pos h0, Int.toNat_natCast]
    rw [e1]
    exact ⟨v', rfl, KRow.of_own own, hb⟩
  · refine (renewed_none l v i (by omega) k w h hl).mono ?_
    rintro e w' ⟨v', rfl, own, hb⟩
    have e1 : dropAt l i = l := by
      unfold dropAt
      rw [if_neg h0]
    rw [e1]
    exact ⟨v', rfl, KRow.of_own own, hb⟩
theorem kv_lit : (#[.int .i64 0, .int .i64 0, .int .i64 0, .int .u64 0, .int .u64 0, .int .u64 0, .int .u64 0, .int .u64 0, .int .u64 0, .int .u64 0, .int .u64 0, .int .u64 0, .int .u64 0, .int .u64 0, .int .u64 0, .int .u64 0, .int .u64 0, .int .u64 0, .int .u64 0, .int .u64 0, .int .u64 0, .int .u64 0, .int .u64 0, .int .u64 0, .int .u64 0, .int .u64 0] : Array Value) = kv ⟨0, 0, 0, fun _ => false⟩ := by
  unfold kv
  rw [← mv_lit]
  rfl
theorem buildKept (r d v : Int) (m : M) (W : World) : (Instr.build 51 #[(0, .int .i64 r), (1, .int .i64 d), (2, .int .i64 v), (3, .agg (mv m))]).run Try.prog W = .ok (.agg (kv ⟨r, d, v, m⟩)) W := by
  kernel_rfl
theorem wpList_buildKept {ops : Array Oper} {rest : List Oper} {op : Oper} {a : Act} {w : World} {Q : Exit → Act → World → Prop} (hgd : op.guard = none) (x0 x1 x2 x3 : Operand) (ho : op.op = .build 51 #[(0, x0), (1, x1), (2, x2), (3, x3)]) (r d v : Int) (m : M) (h0 : a.eval x0 = .int .i64 r) (h1 : a.eval x1 = .int .i64 d) (h2 : a.eval x2 = .int .i64 v) (h3 : a.eval x3 = .agg (mv m))
    (h : wpList Try.prog ops Q rest (a.put op.dst (.agg (kv ⟨r, d, v, m⟩))) w) : wpList Try.prog ops Q (op :: rest) a w :=
  wpList_plain hgd fun _ hK => by
    unfold Oper.wp execOp
    have hb := buildKept r d v m w
    simp only [ho, h0, h1, h2, h3, List.map_toArray, List.map_cons, List.map_nil, Sem.run_bind, Sem.run_pure, Result.andThen_ok, hb]
    exact hK _ _ h
set_option maxRecDepth 100000 in
set_option maxHeartbeats 4000000 in
theorem get_hit (l : List Kp) (cv lv : Value) (runs ver rule day : Int) (w : World) (h : KRow 0 w cv l) (hl : l.length ≤ 676622540150) (hhit : hitK l ver rule day = true) :
    Calls Try.prog 15 #[.agg #[cv, .int .i64 runs], lv, .int .i64 ver, .int .i64 rule, .int .i64 day] w (OutG (l.getD (idxK rule day l 0).toNat k0).m (dropAt l (idxK rule day l 0) ++ [l.getD (idxK rule day l 0).toNat k0]) runs 0 0 w) := by
  obtain ⟨i, hii⟩ : ∃ i, idxK rule day l 0 = i := ⟨_, rfl⟩
  have hiL := idxK_ge rule day l 0
  rw [hii] at hiL
  have hil : i < l.length := by omega
  have hil2 : i ≤ 676622540150 := by omega
  have hil3 : -1 ≤ i := by omega
  have hz := mv_lit
  have bA : Below w.heap.size w ((((((w.alloc (.cells #[cv, .int .i64 runs] 40)).alloc (.cells #[.int .i64 rule] 3)).alloc (.cells #[.int .i64 day] 3)).alloc (.cells (mv fun _ => false) 25)).alloc (.cells #[.slice none 0 0, .int .i64 0] 40)).alloc (.cells #[.int .i64 0, .int .i64 0] 28)) := ((((((Below.refl _ _).alloc (Nat.le_refl _) _).alloc (by simp) _).alloc (by simp; omega) _).alloc (by simp; omega) _).alloc (by simp; omega) _).alloc (by simp; omega) _
  have n5 : ((((((w.alloc (.cells #[cv, .int .i64 runs] 40)).alloc (.cells #[.int .i64 rule] 3)).alloc (.cells #[.int .i64 day] 3)).alloc (.cells (mv fun _ => false) 25)).alloc (.cells #[.slice none 0 0, .int .i64 0] 40)).alloc (.cells #[.int .i64 0, .int .i64 0] 28)).heap[w.heap.size]? = some (.cells #[cv, .int .i64 runs] 40 (0, 0)) := by (repeat (first | refine blk_old _ _ _ (by simp only [size_alloc]; omega) ?_ | exact blk_new _ _ _ (by first | rfl | simp only [size_alloc])))
  have n8 : ((((((w.alloc (.cells #[cv, .int .i64 runs] 40)).alloc (.cells #[.int .i64 rule] 3)).alloc (.cells #[.int .i64 day] 3)).alloc (.cells (mv fun _ => false) 25)).alloc (.cells #[.slice none 0 0, .int .i64 0] 40)).alloc (.cells #[.int .i64 0, .int .i64 0] 28)).heap[w.heap.size + 1]? = some (.cells #[.int .i64 rule] 3 (0, 0)) := by (repeat (first | refine blk_old _ _ _ (by simp only [size_alloc]; omega) ?_ | exact blk_new _ _ _ (by first | rfl | simp only [size_alloc])))
  have n9 : ((((((w.alloc (.cells #[cv, .int .i64 runs] 40)).alloc (.cells #[.int .i64 rule] 3)).alloc (.cells #[.int .i64 day] 3)).alloc (.cells (mv fun _ => false) 25)).alloc (.cells #[.slice none 0 0, .int .i64 0] 40)).alloc (.cells #[.int .i64 0, .int .i64 0] 28)).heap[w.heap.size + 2]? = some (.cells #[.int .i64 day] 3 (0, 0)) := by (repeat (first | refine blk_old _ _ _ (by simp only [size_alloc]; omega) ?_ | exact blk_new _ _ _ (by first | rfl | simp only [size_alloc])))
  have n10 : ((((((w.alloc (.cells #[cv, .int .i64 runs] 40)).alloc (.cells #[.int .i64 rule] 3)).alloc (.cells #[.int .i64 day] 3)).alloc (.cells (mv fun _ => false) 25)).alloc (.cells #[.slice none 0 0, .int .i64 0] 40)).alloc (.cells #[.int .i64 0, .int .i64 0] 28)).heap[w.heap.size + 3]? = some (.cells (mv fun _ => false) 25 (0, 0)) := by (repeat (first | refine blk_old _ _ _ (by simp only [size_alloc]; omega) ?_ | exact blk_new _ _ _ (by first | rfl | simp only [size_alloc])))
  have n11 : ((((((w.alloc (.cells #[cv, .int .i64 runs] 40)).alloc (.cells #[.int .i64 rule] 3)).alloc (.cells #[.int .i64 day] 3)).alloc (.cells (mv fun _ => false) 25)).alloc (.cells #[.slice none 0 0, .int .i64 0] 40)).alloc (.cells #[.int .i64 0, .int .i64 0] 28)).heap[w.heap.size + 4]? = some (.cells #[.slice none 0 0, .int .i64 0] 40 (0, 0)) := by (repeat (first | refine blk_old _ _ _ (by simp only [size_alloc]; omega) ?_ | exact blk_new _ _ _ (by first | rfl | simp only [size_alloc])))
  have n12 : ((((((w.alloc (.cells #[cv, .int .i64 runs] 40)).alloc (.cells #[.int .i64 rule] 3)).alloc (.cells #[.int .i64 day] 3)).alloc (.cells (mv fun _ => false) 25)).alloc (.cells #[.slice none 0 0, .int .i64 0] 40)).alloc (.cells #[.int .i64 0, .int .i64 0] 28)).heap[w.heap.size + 5]? = some (.cells #[.int .i64 0, .int .i64 0] 28 (0, 0)) := by (repeat (first | refine blk_old _ _ _ (by simp only [size_alloc]; omega) ?_ | exact blk_new _ _ _ (by first | rfl | simp only [size_alloc])))
  generalize hwA : (((((w.alloc (.cells #[cv, .int .i64 runs] 40)).alloc (.cells #[.int .i64 rule] 3)).alloc (.cells #[.int .i64 day] 3)).alloc (.cells (mv fun _ => false) 25)).alloc (.cells #[.slice none 0 0, .int .i64 0] 40)).alloc (.cells #[.int .i64 0, .int .i64 0] 28) = wA at *
  have c1 := find_any l cv (w.heap.size + 1) (w.heap.size + 2) rule day wA (h.later bA) n8 n9
  rw [hii] at c1
  have z5 := (cell_of_row _ _ 0 _ _ _ n5).trans rfl
  have hh : 0 ≤ i ∧ (l.getD i.toNat k0).v = ver := by
    unfold hitK at hhit
    rw [hii, Bool.and_eq_true, decide_eq_true_eq, decide_eq_true_eq] at hhit
    exact hhit
  obtain ⟨hi0, hver⟩ := hh
  rw [hii]
  obtain ⟨n, rfl⟩ : ∃ n : Nat, i = (n : Int) := ⟨i.toNat, by omega⟩
  rw [Int.toNat_natCast] at hver ⊢
  obtain ⟨k, hk⟩ : ∃ k, l[n]? = some k := ⟨l[n]'(by omega), List.getElem?_eq_getElem (by omega)⟩
  have hkd : l.getD n k0 = k := by simp [List.getD, hk]
  rw [hkd] at hver ⊢
  have HK := hidv h
  obtain ⟨p, c, rfl, hlc, hcm, _⟩ := h
  obtain ⟨g, o, hpe, hrg⟩ := HK.out.at hk
  subst hpe
  have HB := hidv bA
  clear hii hiL hhit hkd hcm bA
  go_enter Try.func15, Try.ntmps15
  go_wp2_with fail
  refine c1.mono ?_
  rintro e w1 ⟨rfl, b1⟩
  have HB1 := hidv (HB.out.trans (b1.mono HB.out.size))
  have rg1 := rangeAt_below hrg HB1.out
  have y2 : w1.cell? ⟨g, o + n * 26 + 2, none⟩ = some (.int .i64 ver) := by
    rw [← hver]
    exact rg1 2 _ (by rw [Array.getElem?_toList]; exact kv_2 k)
  have m5 := (b1.block _ (lt_of_block n5)).trans n5
  have m10 := (b1.block _ (lt_of_block n10)).trans n10
  have m11 := (b1.block _ (lt_of_block n11)).trans n11
  have m12 := (b1.block _ (lt_of_block n12)).trans n12
  have z51 := (cell_of_row _ _ 0 _ _ _ m5).trans rfl
  have hni : (n : Int) < (l.length : Int) := by omega
  -- the one that is kept, in a cell of its own
  have bE := (Below.refl w1.heap.size w1).alloc (Nat.le_refl _) (.cells (kv ⟨0, 0, 0, fun _ => false⟩) 51)
  have nE := heap_alloc_new w1 (.cells (kv ⟨0, 0, 0, fun _ => false⟩) 51)
  generalize hwE : w1.alloc (.cells (kv ⟨0, 0, 0, fun _ => false⟩) 51) = wE at *
  have bF := below_setRow bE (Nat.le_refl _) (kv k)
  have nF := setRow_heap _ _ _ (kv k) _ _ nE
  generalize hwF : wE.setRow w1.heap.size (kv k) = w2 at *
  clear c1 hver n5 n8 n9 n10 n11 n12 b1 hwA z5 hrg HB
  have hzk := kv_lit
  go_wp2_with (first
    | (refine wpList_loadK rfl _ rfl g (o + n * 26) rfl k rg1 ?_)
    | (refine wpList_store_row rfl 51 _ _ rfl _ _ rfl rfl _ _ nE (keptSize _) (by simp [kv_size]) (kv_all _) ?_))
  obtain ⟨g14, hg14e⟩ : ∃ q, w1.heap.size = q := ⟨_, rfl⟩
  have HBW := hidv (HB1.out.trans (bF.mono HB1.out.size))
  have hg14 : g14 < w2.heap.size := by rw [← hg14e]; exact lt_of_block nF
  have hgw : w.heap.size + 5 < g14 := by rw [← hg14e]; exact lt_of_block m12
  have n14 : w2.heap[g14]? = some (.cells (kv k) 51 (0, 0)) := by rw [← hg14e]; exact nF
  replace m5 := (bF.block _ (lt_of_block m5)).trans m5
  replace m10 := (bF.block _ (lt_of_block m10)).trans m10
  replace m11 := (bF.block _ (lt_of_block m11)).trans m11
  replace m12 := (bF.block _ (lt_of_block m12)).trans m12
  rw [hwF, hg14e]
  clear nF bF bE nE hwE hwF rg1 y2 z51 hg14e hz HB1 hzk
  refine wp_region_flow (by kernel_rfl) (by kernel_rfl) (by kernel_rfl) (by kernel_rfl) (fun L _ W => GJ w w2 (w.heap.size + 3) w2.heap.size k.m (dropAt l (n : Int) ++ [k]) runs 0 0 11 12 13 L W) (gsp [.pointer (some ⟨g14, 3, none⟩), .agg (mv k.m), .pointer (some ⟨w.heap.size, 0, none⟩), .slice (some ⟨g, o, none⟩) l.length c, .int .i64 (n : Int), .agg (kv k), undef, .pointer (some ⟨w.heap.size, 1, none⟩), .int .i64 runs, undef, .agg #[.int .i64 0, .int .i64 0]] w2.heap.size (dropAt l (n : Int) ++ [k]) (dropAt l (n : Int) ++ [k]) runs 6 1000 9) ?_ ?_ ?_
  · intro L hL
    exact ⟨(HBW.out).trans ((Below.refl w2.heap.size w2).drew.mono HBW.out.size), fun _ _ _ _ _ => rfl, Nat.le_refl _, by omega, by omega, fun _ => m10, fun e => (by rw [hL 11 (by decide)] at e; cases e), fun _ => m11, fun e => (by rw [hL 12 (by decide)] at e; cases e), fun _ => m12, fun e => (by rw [hL 13 (by decide)] at e; cases e)⟩
  · intro i' o' L A W2 ho hLi hdep hJ hdef hkept hhas
    clear hdef
    match i', ho, hLi with
    | 0, ho, hLi =>
      cases Option.some.inj ho
      have h14 : A.tmps[14]?.getD undef = .pointer (some ⟨g14, 0, none⟩) := (gd A 14).trans (hkept 14 (fun j p hp _ => nd (by kernel_rfl) j p hp))
      refine wpOp_step rfl (fun K hK => ?_)
      go_simp
      exact hK _ _ ⟨_, rfl, fun _ => gsp_mk (by decide) (by decide) (by decide), fun _ _ _ h => h, hJ.same 0 (by decide) (by decide) (by decide)⟩
    | 1, ho, hLi =>
      cases Option.some.inj ho
      have h40 : A.eval (.tmp 40) = .pointer (some ⟨g14, 3, none⟩) := gsp_at (hhas 0 _ rfl (hdep ⟨0, .data⟩ (by simp) rfl) 40 rfl) (by decide) (by decide) (by decide)
      have b14 := (hJ.low g14 hg14 (by omega) (by omega) (by omega)).trans n14
      refine wpOp_step rfl (fun K hK => ?_)
      show Oper.wp _ _ _ _ _ _
      refine wp_loadM _ rfl g14 3 h40 k.m (range_kv b14) ?_
      exact hK _ _ ⟨_, rfl, fun _ => gsp_mk (by decide) (by decide) (by decide), fun _ _ _ h => h, hJ.same 1 (by decide) (by decide) (by decide)⟩
    | 2, ho, hLi =>
      cases Option.some.inj ho
      have h5 : A.tmps[5]?.getD undef = .pointer (some ⟨w.heap.size, 0, none⟩) := (gd A 5).trans (hkept 5 (fun j p hp _ => nd (by kernel_rfl) j p hp))
      refine wpOp_step rfl (fun K hK => ?_)
      go_simp
      exact hK _ _ ⟨_, rfl, fun _ => gsp_mk (by decide) (by decide) (by decide), fun _ _ _ h => h, hJ.same 2 (by decide) (by decide) (by decide)⟩
    | 3, ho, hLi =>
      cases Option.some.inj ho
      have h42 : A.tmps[42]?.getD undef = .pointer (some ⟨w.heap.size, 0, none⟩) := (gd A 42).trans (gsp_at (hhas 2 _ rfl (hdep ⟨2, .data⟩ (by simp) rfl) 42 rfl) (by decide) (by decide) (by decide))
      have b5 := (hJ.low w.heap.size (by omega) (by omega) (by omega) (by omega)).trans m5
      have y5 := (cell_of_row _ _ 0 _ _ _ b5).trans rfl
      clear b5
      refine wpOp_step rfl (fun K hK => ?_)
      go_simp
      exact hK _ _ ⟨_, rfl, fun _ => gsp_mk (by decide) (by decide) (by decide), fun _ _ _ h => h, hJ.same 3 (by decide) (by decide) (by decide)⟩
    | 4, ho, hLi =>
      cases Option.some.inj ho
      have h13 : A.tmps[13]?.getD undef = .int .i64 (n : Int) := (gd A 13).trans (hkept 13 (fun j p hp _ => nd (by kernel_rfl) j p hp))
      refine wpOp_step rfl (fun K hK => ?_)
      go_simp
      exact hK _ _ ⟨_, rfl, fun _ => gsp_mk (by decide) (by decide) (by decide), fun _ _ _ h => h, hJ.same 4 (by decide) (by decide) (by decide)⟩
    | 5, ho, hLi =>
      cases Option.some.inj ho
      have h14 : A.eval (.tmp 14) = .pointer (some ⟨g14, 0, none⟩) := hkept 14 (fun j p hp _ => nd (by kernel_rfl) j p hp)
      have b14 := (hJ.low g14 hg14 (by omega) (by omega) (by omega)).trans n14
      refine wpOp_step rfl (fun K hK => ?_)
      show Oper.wp _ _ _ _ _ _
      refine wp_load_row 51 _ rfl g14 h14 _ _ _ _ b14 keptType rfl (keptSize k) ?_
      exact hK _ _ ⟨_, rfl, fun _ => gsp_mk (by decide) (by decide) (by decide), fun _ _ _ h => h, hJ.same 5 (by decide) (by decide) (by decide)⟩
    | 6, ho, hLi =>
      cases Option.some.inj ho
      have h43 : A.tmps[43]?.getD undef = .slice (some ⟨g, o, none⟩) l.length c := (gd A 43).trans (gsp_at (hhas 3 _ rfl (hdep ⟨3, .data⟩ (by simp) rfl) 43 rfl) (by decide) (by decide) (by decide))
      have h44 : A.tmps[44]?.getD undef = .int .i64 (n : Int) := (gd A 44).trans (gsp_at (hhas 4 _ rfl (hdep ⟨4, .data⟩ (by simp) rfl) 44 rfl) (by decide) (by decide) (by decide))
      have h45 : A.tmps[45]?.getD undef = .agg (kv k) := (gd A 45).trans (gsp_at (hhas 5 _ rfl (hdep ⟨5, .data⟩ (by simp) rfl) 45 rfl) (by decide) (by decide) (by decide))
      have hk2 := HK.out.later hJ.bel
      refine wpOp_step rfl (fun K hK => ?_)
      go_simp
      refine (renewed_any l _ (n : Int) k W2 hk2 hl hil).mono ?_
      rintro r' W' ⟨v', rfl, hk3, hb'⟩
      exact hK _ _ ⟨_, rfl, fun _ => gsp_0.2 (hk3.low hJ.size), fun j u _ h => gsp_mono (fun v l hv => hv.later hb') h, hJ.on 6 (by decide) (by decide) (by decide) hb'⟩
    | 7, ho, hLi =>
      cases Option.some.inj ho
      have h5 : A.tmps[5]?.getD undef = .pointer (some ⟨w.heap.size, 0, none⟩) := (gd A 5).trans (hkept 5 (fun j p hp _ => nd (by kernel_rfl) j p hp))
      refine wpOp_step rfl (fun K hK => ?_)
      go_simp
      exact hK _ _ ⟨_, rfl, fun _ => gsp_mk (by decide) (by decide) (by decide), fun _ _ _ h => h, hJ.same 7 (by decide) (by decide) (by decide)⟩
    | 8, ho, hLi =>
      cases Option.some.inj ho
      have h47 : A.tmps[47]?.getD undef = .pointer (some ⟨w.heap.size, 1, none⟩) := (gd A 47).trans (gsp_at (hhas 7 _ rfl (hdep ⟨7, .data⟩ (by simp) rfl) 47 rfl) (by decide) (by decide) (by decide))
      have b5 := (hJ.low w.heap.size (by omega) (by omega) (by omega) (by omega)).trans m5
      have y5 := (cell_of_row _ _ 1 _ _ _ b5).trans rfl
      clear b5
      refine wpOp_step rfl (fun K hK => ?_)
      go_simp
      exact hK _ _ ⟨_, rfl, fun _ => gsp_mk (by decide) (by decide) (by decide), fun _ _ _ h => h, hJ.same 8 (by decide) (by decide) (by decide)⟩
    | 9, ho, hLi =>
      cases Option.some.inj ho
      have k46 := gsp_0.1 (hhas 6 _ rfl (hdep ⟨6, .data⟩ (by simp) rfl) 46 rfl)
      obtain ⟨v6, e6⟩ : ∃ v, A.tmps.getD 46 undef = v := ⟨_, rfl⟩
      rw [e6] at k46
      have h46 : A.tmps[46]?.getD undef = v6 := (gd A 46).trans e6
      have h48 : A.tmps[48]?.getD undef = .int .i64 runs := (gd A 48).trans (gsp_at (hhas 8 _ rfl (hdep ⟨8, .data⟩ (by simp) rfl) 48 rfl) (by decide) (by decide) (by decide))
      obtain ⟨p6, c6, hv6, _⟩ := id k46
      obtain ⟨nn, hnn⟩ : ∃ nn, (dropAt l (n : Int) ++ [k]).length = nn := ⟨_, rfl⟩
      rw [hnn] at hv6
      subst hv6
      refine wpOp_step rfl (fun K hK => ?_)
      go_simp
      exact hK _ _ ⟨_, rfl, fun _ => (gsp_2 (by decide) (by decide)).2 ⟨_, rfl, k46⟩, fun _ _ _ h => h, hJ.same 9 (by decide) (by decide) (by decide)⟩
    | 10, ho, hLi =>
      cases Option.some.inj ho
      refine wpOp_step rfl (fun K hK => ?_)
      go_simp
      exact hK _ _ ⟨_, rfl, fun _ => gsp_mk (by decide) (by decide) (by decide), fun _ _ _ h => h, hJ.same 10 (by decide) (by decide) (by decide)⟩
    | 11, ho, hLi =>
      cases Option.some.inj ho
      have h10 : A.eval (.tmp 10) = .pointer (some ⟨w.heap.size + 3, 0, none⟩) := hkept 10 (fun j p hp _ => nd (by kernel_rfl) j p hp)
      have h41 : A.eval (.tmp 41) = .agg (mv k.m) := gsp_at (hhas 1 _ rfl (hdep ⟨1, .data⟩ (by simp) rfl) 41 rfl) (by decide) (by decide) (by decide)
      refine wpOp_step rfl (fun K hK => ?_)
      show Oper.wp _ _ _ _ _ _
      refine wp_store_row 25 _ _ rfl _ _ h10 h41 _ _ (hJ.m0 hLi) (maskSize _) (by simp [mv_size]) (mv_all _) ?_
      exact hK _ _ ⟨undef, rfl, fun e => absurd rfl e, fun j u _ h => gsp_mono (fun v l hv => hv.set (by omega) _) h, hJ.mask hLi (by decide) (by decide)⟩
    | 12, ho, hLi =>
      cases Option.some.inj ho
      have h11 : A.eval (.tmp 11) = .pointer (some ⟨w.heap.size + 3 + 1, 0, none⟩) := hkept 11 (fun j p hp _ => nd (by kernel_rfl) j p hp)
      obtain ⟨v9, e9, k9⟩ := (gsp_2 (by decide) (by decide)).1 (hhas 9 _ rfl (hdep ⟨9, .data⟩ (by simp) rfl) 49 rfl)
      have h49 : A.eval (.tmp 49) = .agg #[v9, .int .i64 runs] := e9
      obtain ⟨p9, c9, hv9, _⟩ := id k9
      subst hv9
      refine wpOp_step rfl (fun K hK => ?_)
      show Oper.wp _ _ _ _ _ _
      refine wp_store_row 40 _ _ rfl _ _ h11 h49 _ _ (hJ.c0 hLi) cacheSize (by simp) (by simp [Value.oneCell']) ?_
      exact hK _ _ ⟨undef, rfl, fun e => absurd rfl e, fun j u _ h => gsp_mono (fun v l hv => hv.set (by omega) _) h, hJ.cache hLi (by decide) (by decide) k9⟩
    | 13, ho, hLi =>
      cases Option.some.inj ho
      have h12 : A.eval (.tmp 12) = .pointer (some ⟨w.heap.size + 3 + 2, 0, none⟩) := hkept 12 (fun j p hp _ => nd (by kernel_rfl) j p hp)
      have h50 : A.eval (.tmp 50) = .agg #[.int .i64 0, .int .i64 0] := gsp_at (hhas 10 _ rfl (hdep ⟨10, .data⟩ (by simp) rfl) 50 rfl) (by decide) (by decide) (by decide)
      refine wpOp_step rfl (fun K hK => ?_)
      show Oper.wp _ _ _ _ _ _
      refine wp_store_row 28 _ _ rfl _ _ h12 h50 _ _ (hJ.f0 hLi) faultSize9 (by simp) (by simp [Value.oneCell']) ?_
      exact hK _ _ ⟨undef, rfl, fun e => absurd rfl e, fun j u _ h => gsp_mono (fun v l hv => hv.set (by omega) _) h, hJ.fault hLi (by decide) (by decide)⟩
    | kk + 14, ho, hLi => simp at ho
  · intro L A W2 hL hJ hdef hsz hkept hhas
    have hM := hJ.m1 (hL 11 (by decide))
    obtain ⟨v9, hC, hK9⟩ := hJ.c1 (hL 12 (by decide))
    have hF := hJ.f1 (hL 13 (by decide))
    have a10 := hkept 10 (fun j p hp => nd (by kernel_rfl) j p hp)
    have a11 := hkept 11 (fun j p hp => nd (by kernel_rfl) j p hp)
    have a12 := hkept 12 (fun j p hp => nd (by kernel_rfl) j p hp)
    have hb9 := hJ.bel
    have hsz9 := hb9.size
    have hb1 := hJ.b1
    have hb0 := hJ.b0
    clear hhas hkept hL hJ
    go_wp2_with fail
    exact get_post (w.heap.size + 3) k.m (dropAt l (n : Int) ++ [k]) runs 0 0 v9 hdef a10 a11 a12 hM hC hF (hK9.low (by omega)) hb9
theorem runE_at0 {cs : List Cd} {rule day : Int} (h : (runE cs rule day).1 = 0) : (runE cs rule day).2 = 0 := by
  unfold runE at h ⊢
  by_cases h1 : (wrongV cs).1 ≠ 0
  · rw [if_pos h1] at h
    exact absurd h h1
  · rw [if_neg h1] at h ⊢
    split
    · rfl
    · split <;> rfl
end Go.Proofs.Ytaeengpppehlfaa

/- cache.Get, where the machine is run: way 1. Written by gencae.py. -/
namespace Go.Proofs.Ytaeengpppehlfaa
open Go.RowKit Msk Vx

set_option maxRecDepth 100000 in
set_option maxHeartbeats 4000000 in
theorem get_wrong_at (cs : List Cd) (l : List Kp) (cv lv : Value) (runs ver rule day : Int) (w : World) (h : KRow 0 w cv l) (hl : l.length ≤ 676622540150) (hin : InV w lv cs) (hmiss : hitK l ver rule day = false) (hi0 : 0 ≤ idxK rule day l 0) (hne : (runE cs rule day).1 ≠ 0) :
    Calls Try.prog 15 #[.agg #[cv, .int .i64 runs], lv, .int .i64 ver, .int .i64 rule, .int .i64 day] w (OutG (fun _ => false) [] 0 (runE cs rule day).1 ((runE cs rule day).2 : Int) w) := by
  obtain ⟨i, hii⟩ : ∃ i, idxK rule day l 0 = i := ⟨_, rfl⟩
  have hiL := idxK_ge rule day l 0
  rw [hii] at hiL
  have hil : i < l.length := by omega
  have hil2 : i ≤ 676622540150 := by omega
  have hil3 : -1 ≤ i := by omega
  have hz := mv_lit
  have bA : Below w.heap.size w ((((((w.alloc (.cells #[cv, .int .i64 runs] 40)).alloc (.cells #[.int .i64 rule] 3)).alloc (.cells #[.int .i64 day] 3)).alloc (.cells (mv fun _ => false) 25)).alloc (.cells #[.slice none 0 0, .int .i64 0] 40)).alloc (.cells #[.int .i64 0, .int .i64 0] 28)) := ((((((Below.refl _ _).alloc (Nat.le_refl _) _).alloc (by simp) _).alloc (by simp; omega) _).alloc (by simp; omega) _).alloc (by simp; omega) _).alloc (by simp; omega) _
  have n5 : ((((((w.alloc (.cells #[cv, .int .i64 runs] 40)).alloc (.cells #[.int .i64 rule] 3)).alloc (.cells #[.int .i64 day] 3)).alloc (.cells (mv fun _ => false) 25)).alloc (.cells #[.slice none 0 0, .int .i64 0] 40)).alloc (.cells #[.int .i64 0, .int .i64 0] 28)).heap[w.heap.size]? = some (.cells #[cv, .int .i64 runs] 40 (0, 0)) := by (repeat (first | refine blk_old _ _ _ (by simp only [size_alloc]; omega) ?_ | exact blk_new _ _ _ (by first | rfl | simp only [size_alloc])))
  have n8 : ((((((w.alloc (.cells #[cv, .int .i64 runs] 40)).alloc (.cells #[.int .i64 rule] 3)).alloc (.cells #[.int .i64 day] 3)).alloc (.cells (mv fun _ => false) 25)).alloc (.cells #[.slice none 0 0, .int .i64 0] 40)).alloc (.cells #[.int .i64 0, .int .i64 0] 28)).heap[w.heap.size + 1]? = some (.cells #[.int .i64 rule] 3 (0, 0)) := by (repeat (first | refine blk_old _ _ _ (by simp only [size_alloc]; omega) ?_ | exact blk_new _ _ _ (by first | rfl | simp only [size_alloc])))
  have n9 : ((((((w.alloc (.cells #[cv, .int .i64 runs] 40)).alloc (.cells #[.int .i64 rule] 3)).alloc (.cells #[.int .i64 day] 3)).alloc (.cells (mv fun _ => false) 25)).alloc (.cells #[.slice none 0 0, .int .i64 0] 40)).alloc (.cells #[.int .i64 0, .int .i64 0] 28)).heap[w.heap.size + 2]? = some (.cells #[.int .i64 day] 3 (0, 0)) := by (repeat (first | refine blk_old _ _ _ (by simp only [size_alloc]; omega) ?_ | exact blk_new _ _ _ (by first | rfl | simp only [size_alloc])))
  have n10 : ((((((w.alloc (.cells #[cv, .int .i64 runs] 40)).alloc (.cells #[.int .i64 rule] 3)).alloc (.cells #[.int .i64 day] 3)).alloc (.cells (mv fun _ => false) 25)).alloc (.cells #[.slice none 0 0, .int .i64 0] 40)).alloc (.cells #[.int .i64 0, .int .i64 0] 28)).heap[w.heap.size + 3]? = some (.cells (mv fun _ => false) 25 (0, 0)) := by (repeat (first | refine blk_old _ _ _ (by simp only [size_alloc]; omega) ?_ | exact blk_new _ _ _ (by first | rfl | simp only [size_alloc])))
  have n11 : ((((((w.alloc (.cells #[cv, .int .i64 runs] 40)).alloc (.cells #[.int .i64 rule] 3)).alloc (.cells #[.int .i64 day] 3)).alloc (.cells (mv fun _ => false) 25)).alloc (.cells #[.slice none 0 0, .int .i64 0] 40)).alloc (.cells #[.int .i64 0, .int .i64 0] 28)).heap[w.heap.size + 4]? = some (.cells #[.slice none 0 0, .int .i64 0] 40 (0, 0)) := by (repeat (first | refine blk_old _ _ _ (by simp only [size_alloc]; omega) ?_ | exact blk_new _ _ _ (by first | rfl | simp only [size_alloc])))
  have n12 : ((((((w.alloc (.cells #[cv, .int .i64 runs] 40)).alloc (.cells #[.int .i64 rule] 3)).alloc (.cells #[.int .i64 day] 3)).alloc (.cells (mv fun _ => false) 25)).alloc (.cells #[.slice none 0 0, .int .i64 0] 40)).alloc (.cells #[.int .i64 0, .int .i64 0] 28)).heap[w.heap.size + 5]? = some (.cells #[.int .i64 0, .int .i64 0] 28 (0, 0)) := by (repeat (first | refine blk_old _ _ _ (by simp only [size_alloc]; omega) ?_ | exact blk_new _ _ _ (by first | rfl | simp only [size_alloc])))
  generalize hwA : (((((w.alloc (.cells #[cv, .int .i64 runs] 40)).alloc (.cells #[.int .i64 rule] 3)).alloc (.cells #[.int .i64 day] 3)).alloc (.cells (mv fun _ => false) 25)).alloc (.cells #[.slice none 0 0, .int .i64 0] 40)).alloc (.cells #[.int .i64 0, .int .i64 0] 28) = wA at *
  have c1 := find_any l cv (w.heap.size + 1) (w.heap.size + 2) rule day wA (h.later bA) n8 n9
  rw [hii] at c1
  have z5 := (cell_of_row _ _ 0 _ _ _ n5).trans rfl
  rw [hii] at hi0
  obtain ⟨er, her⟩ : ∃ q, (runE cs rule day).1 = q := ⟨_, rfl⟩
  obtain ⟨at_, hat⟩ : ∃ q : Int, ((runE cs rule day).2 : Int) = q := ⟨_, rfl⟩
  obtain ⟨f, hf⟩ : ∃ q, runM cs rule day = q := ⟨_, rfl⟩
  obtain ⟨sn, hsn⟩ : ∃ q : Int, (runN cs rule day : Int) = q := ⟨_, rfl⟩
  have HRUN : Hid (∀ W, Below w.heap.size w W → Calls Try.prog 9 #[lv, .int .i64 rule, .int .i64 day] W (OutRV f sn er at_ W)) := fun W hW => by
    have := vrun_any cs lv rule day W (hin.below hW)
    rw [her, hat, hf, hsn] at this
    exact this
  rw [her] at hne ⊢
  rw [hat]
  have hbe : (er == 0) = false := beq_eq_false_iff_ne.2 hne
  have hbn : (er != 0) = true := by simpa using hne
  clear her hat hf hsn hne
  have HK := hidv h
  obtain ⟨p, c, rfl, hlc, hcm, _⟩ := h
  have HB := hidv bA
  have hm9 : c ≤ 9223372036854775807 := by unfold maxLen at hcm; omega
  have hnh : ∀ k, l[i.toNat]? = some k → 0 ≤ i → k.v ≠ ver := fun k hk hi0 e => by
    have : l.getD i.toNat k0 = k := by simp [List.getD, hk]
    unfold hitK at hmiss
    rw [hii, this, Bool.and_eq_false_iff, decide_eq_false_iff_not, decide_eq_false_iff_not] at hmiss
    rcases hmiss with q | q
    · exact q hi0
    · exact q e
  have HNH := hidv hnh
  clear hii hiL hmiss hcm bA hnh hin
  go_enter Try.func15, Try.ntmps15
  go_wp2_with fail
  refine c1.mono ?_
  rintro e w1 ⟨rfl, b1⟩
  have HB1 := hidv (HB.out.trans (b1.mono HB.out.size))
  have m5 := (b1.block _ (lt_of_block n5)).trans n5
  have m8 := (b1.block _ (lt_of_block n8)).trans n8
  have m9 := (b1.block _ (lt_of_block n9)).trans n9
  have m10 := (b1.block _ (lt_of_block n10)).trans n10
  have m11 := (b1.block _ (lt_of_block n11)).trans n11
  have m12 := (b1.block _ (lt_of_block n12)).trans n12
  have z51 := (cell_of_row _ _ 0 _ _ _ m5).trans rfl
  have z81 := (cell_of_row _ _ 0 _ _ _ m8).trans rfl
  have z91 := (cell_of_row _ _ 0 _ _ _ m9).trans rfl
  have c2 := HRUN.out w1 HB1.out
  clear c1 n5 n8 n9 n10 n11 n12 b1 hwA z5 HB HRUN
  obtain ⟨n, rfl⟩ : ∃ n : Nat, i = (n : Int) := ⟨i.toNat, by omega⟩
  obtain ⟨k, hk⟩ : ∃ k, l[n]? = some k := ⟨l[n]'(by omega), List.getElem?_eq_getElem (by omega)⟩
  have hkv := HNH.out k hk hi0
  obtain ⟨g, o, hpe, hrg⟩ := HK.out.at hk
  have rg1 := rangeAt_below hrg HB1.out
  have y2 : w1.cell? ⟨g, o + n * 26 + 2, none⟩ = some (.int .i64 k.v) := rg1 2 _ (by rw [Array.getElem?_toList]; exact kv_2 k)
  have hvb : (k.v == ver) = false := beq_eq_false_iff_ne.2 hkv
  have hni : (n : Int) < (l.length : Int) := by omega
  subst hpe
  obtain ⟨kv9, hkv9⟩ : ∃ q, k.v = q := ⟨_, rfl⟩
  rw [hkv9] at y2 hvb
  clear rg1 hrg hkv hk HNH hkv9
  go_wp2_with fail
  clear y2 hvb
  refine c2.mono ?_
  rintro e w3 ⟨rfl, b3⟩
  have HB3 := hidv (HB1.out.trans (b3.mono HB1.out.size))
  replace m5 := (b3.block _ (lt_of_block m5)).trans m5
  replace m8 := (b3.block _ (lt_of_block m8)).trans m8
  replace m9 := (b3.block _ (lt_of_block m9)).trans m9
  replace m10 := (b3.block _ (lt_of_block m10)).trans m10
  replace m11 := (b3.block _ (lt_of_block m11)).trans m11
  replace m12 := (b3.block _ (lt_of_block m12)).trans m12
  have bX : Below w3.heap.size w3 ((w3.alloc (.cells (mv fun _ => false) 25)).alloc (.cells #[.int .i64 0, .int .i64 0] 28)) := ((Below.refl _ _).alloc (Nat.le_refl _) _).alloc (by simp) _
  have q15 : ((w3.alloc (.cells (mv fun _ => false) 25)).alloc (.cells #[.int .i64 0, .int .i64 0] 28)).heap[w3.heap.size]? = some (.cells (mv fun _ => false) 25 (0, 0)) := by (repeat (first | refine blk_old _ _ _ (by simp only [size_alloc]; omega) ?_ | exact blk_new _ _ _ (by first | rfl | simp only [size_alloc])))
  have q17 : ((w3.alloc (.cells (mv fun _ => false) 25)).alloc (.cells #[.int .i64 0, .int .i64 0] 28)).heap[w3.heap.size + 1]? = some (.cells #[.int .i64 0, .int .i64 0] 28 (0, 0)) := by (repeat (first | refine blk_old _ _ _ (by simp only [size_alloc]; omega) ?_ | exact blk_new _ _ _ (by first | rfl | simp only [size_alloc])))
  generalize hwX : (w3.alloc (.cells (mv fun _ => false) 25)).alloc (.cells #[.int .i64 0, .int .i64 0] 28) = wX at *
  have r15 := setRow_heap _ _ _ (mv f) _ _ q15
  have r17 := (setRow_other wX w3.heap.size (w3.heap.size + 1) (mv f) (by omega)).trans q17
  have bY := below_setRow bX (Nat.le_refl _) (mv f)
  generalize hwY : wX.setRow w3.heap.size (mv f) = wY at *
  have n15 := (setRow_other wY (w3.heap.size + 1) w3.heap.size #[.int .i64 er, .int .i64 at_] (by omega)).trans r15
  have n17 := setRow_heap _ _ _ #[.int .i64 er, .int .i64 at_] _ _ r17
  have bZ := below_setRow bY (by omega : w3.heap.size ≤ w3.heap.size + 1) #[.int .i64 er, .int .i64 at_]
  generalize hwZ : wY.setRow (w3.heap.size + 1) #[.int .i64 er, .int .i64 at_] = w4 at *
  have hgl : w.heap.size + 5 < w3.heap.size := lt_of_block m12
  replace m5 := (bZ.block _ (lt_of_block m5)).trans m5
  replace m8 := (bZ.block _ (lt_of_block m8)).trans m8
  replace m9 := (bZ.block _ (lt_of_block m9)).trans m9
  replace m10 := (bZ.block _ (lt_of_block m10)).trans m10
  replace m11 := (bZ.block _ (lt_of_block m11)).trans m11
  replace m12 := (bZ.block _ (lt_of_block m12)).trans m12
  have z17 := (cell_of_row _ _ 0 _ _ _ n17).trans rfl
  have z8 := (cell_of_row _ _ 0 _ _ _ m8).trans rfl
  have z9 := (cell_of_row _ _ 0 _ _ _ m9).trans rfl
  have HB4 := hidv (HB3.out.trans (bZ.mono HB3.out.size))
  clear c2 b3 bX bY bZ z51 z81 z91 HB1 HB3
  go_wp2_with (first
    | (refine wpList_store_row rfl 25 _ _ rfl _ _ rfl rfl _ _ q15 (maskSize _) (by simp [mv_size]) (mv_all _) ?_)
    | (refine wpList_store_row rfl 28 _ _ rfl _ _ rfl rfl _ _ r17 (by kernel_rfl) (by simp) (by simp [Value.oneCell']) ?_))
  have HBW := HB4
  obtain ⟨w2, hw2⟩ : ∃ q, w4 = q := ⟨_, rfl⟩
  obtain ⟨g17, hg17e⟩ : ∃ q, w3.heap.size + 1 = q := ⟨_, rfl⟩
  rw [hw2]
  rw [hw2] at m5 m10 m11 m12 n17 HBW
  simp only [hg17e] at n17 ⊢
  have hg17 : g17 < w2.heap.size := lt_of_block n17
  have hgw : w.heap.size + 5 < g17 := by omega
  clear hwX hwY hwZ q15 q17 r15 r17 n15 HB4 z17 z8 z9 m8 m9 hw2 hz
  refine wp_region_flow (by kernel_rfl) (by kernel_rfl) (by kernel_rfl) (by kernel_rfl) (fun L _ W => GJ w w2 (w.heap.size + 3) w2.heap.size (fun _ => false) [] 0 er at_ 3 4 5 L W) (gsp [.agg (mv fun _ => false), undef, .agg #[.int .i64 er, .int .i64 at_]] w2.heap.size [] [] 0 1000 1001 1) ?_ ?_ ?_
  · intro L hL
    exact ⟨(HBW.out).trans ((Below.refl w2.heap.size w2).drew.mono HBW.out.size), fun _ _ _ _ _ => rfl, Nat.le_refl _, by omega, by omega, fun _ => m10, fun e => (by rw [hL 3 (by decide)] at e; cases e), fun _ => m11, fun e => (by rw [hL 4 (by decide)] at e; cases e), fun _ => m12, fun e => (by rw [hL 5 (by decide)] at e; cases e)⟩
  · intro i' o' L A W2 ho hLi hdep hJ hdef hkept hhas
    clear hdef
    match i', ho, hLi with
    | 0, ho, hLi =>
      cases Option.some.inj ho
      refine wpOp_step rfl (fun K hK => ?_)
      go_simp
      exact hK _ _ ⟨_, rfl, fun _ => gsp_mk (by decide) (by decide) (by decide), fun _ _ _ h => h, hJ.same 0 (by decide) (by decide) (by decide)⟩
    | 1, ho, hLi =>
      cases Option.some.inj ho
      refine wpOp_step rfl (fun K hK => ?_)
      go_simp
      exact hK _ _ ⟨_, rfl, fun _ => (gsp_2 (by decide) (by decide)).2 ⟨_, rfl, KRow.none _ _ _ _ (Nat.zero_le _)⟩, fun _ _ _ h => h, hJ.same 1 (by decide) (by decide) (by decide)⟩
    | 2, ho, hLi =>
      cases Option.some.inj ho
      have h17 : A.eval (.tmp 17) = .pointer (some ⟨g17, 0, none⟩) := hkept 17 (fun j p hp _ => nd (by kernel_rfl) j p hp)
      have b17 := (hJ.low g17 hg17 (by omega) (by omega) (by omega)).trans n17
      refine wpOp_step rfl (fun K hK => ?_)
      show Oper.wp _ _ _ _ _ _
      refine wp_load_row 28 _ rfl g17 h17 _ _ _ _ b17 faultTypeV rfl faultSize9 ?_
      exact hK _ _ ⟨_, rfl, fun _ => gsp_mk (by decide) (by decide) (by decide), fun _ _ _ h => h, hJ.same 2 (by decide) (by decide) (by decide)⟩
    | 3, ho, hLi =>
      cases Option.some.inj ho
      have h10 : A.eval (.tmp 10) = .pointer (some ⟨w.heap.size + 3, 0, none⟩) := hkept 10 (fun j p hp _ => nd (by kernel_rfl) j p hp)
      have h62 : A.eval (.tmp 62) = .agg (mv fun _ => false) := gsp_at (hhas 0 _ rfl (hdep ⟨0, .data⟩ (by simp) rfl) 62 rfl) (by decide) (by decide) (by decide)
      refine wpOp_step rfl (fun K hK => ?_)
      show Oper.wp _ _ _ _ _ _
      refine wp_store_row 25 _ _ rfl _ _ h10 h62 _ _ (hJ.m0 hLi) (maskSize _) (by simp [mv_size]) (mv_all _) ?_
      exact hK _ _ ⟨undef, rfl, fun e => absurd rfl e, fun j u _ h => gsp_mono (fun v l hv => hv.set (by omega) _) h, hJ.mask hLi (by decide) (by decide)⟩
    | 4, ho, hLi =>
      cases Option.some.inj ho
      have h11 : A.eval (.tmp 11) = .pointer (some ⟨w.heap.size + 3 + 1, 0, none⟩) := hkept 11 (fun j p hp _ => nd (by kernel_rfl) j p hp)
      obtain ⟨v9, e9, k9⟩ := (gsp_2 (by decide) (by decide)).1 (hhas 1 _ rfl (hdep ⟨1, .data⟩ (by simp) rfl) 63 rfl)
      have h63 : A.eval (.tmp 63) = .agg #[v9, .int .i64 0] := e9
      obtain ⟨p9, c9, hv9, _⟩ := id k9
      subst hv9
      refine wpOp_step rfl (fun K hK => ?_)
      show Oper.wp _ _ _ _ _ _
      refine wp_store_row 40 _ _ rfl _ _ h11 h63 _ _ (hJ.c0 hLi) cacheSize (by simp) (by simp [Value.oneCell']) ?_
      exact hK _ _ ⟨undef, rfl, fun e => absurd rfl e, fun j u _ h => gsp_mono (fun v l hv => hv.set (by omega) _) h, hJ.cache hLi (by decide) (by decide) k9⟩
    | 5, ho, hLi =>
      cases Option.some.inj ho
      have h12 : A.eval (.tmp 12) = .pointer (some ⟨w.heap.size + 3 + 2, 0, none⟩) := hkept 12 (fun j p hp _ => nd (by kernel_rfl) j p hp)
      have h64 : A.eval (.tmp 64) = .agg #[.int .i64 er, .int .i64 at_] := gsp_at (hhas 2 _ rfl (hdep ⟨2, .data⟩ (by simp) rfl) 64 rfl) (by decide) (by decide) (by decide)
      refine wpOp_step rfl (fun K hK => ?_)
      show Oper.wp _ _ _ _ _ _
      refine wp_store_row 28 _ _ rfl _ _ h12 h64 _ _ (hJ.f0 hLi) faultSize9 (by simp) (by simp [Value.oneCell']) ?_
      exact hK _ _ ⟨undef, rfl, fun e => absurd rfl e, fun j u _ h => gsp_mono (fun v l hv => hv.set (by omega) _) h, hJ.fault hLi (by decide) (by decide)⟩
    | kk + 6, ho, hLi => simp at ho
  · intro L A W2 hL hJ hdef hsz hkept hhas
    have hM := hJ.m1 (hL 3 (by decide))
    obtain ⟨v9, hC, hK9⟩ := hJ.c1 (hL 4 (by decide))
    have hF := hJ.f1 (hL 5 (by decide))
    have a10 := hkept 10 (fun j p hp => nd (by kernel_rfl) j p hp)
    have a11 := hkept 11 (fun j p hp => nd (by kernel_rfl) j p hp)
    have a12 := hkept 12 (fun j p hp => nd (by kernel_rfl) j p hp)
    have hb9 := hJ.bel
    have hsz9 := hb9.size
    have hb1 := hJ.b1
    have hb0 := hJ.b0
    clear hhas hkept hL hJ
    go_wp2_with fail
    exact get_post (w.heap.size + 3) (fun _ => false) [] 0 er at_ v9 hdef a10 a11 a12 hM hC hF (hK9.low (by omega)) hb9
end Go.Proofs.Ytaeengpppehlfaa
