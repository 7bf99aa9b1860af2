/- What the document's Mean comes to. -/
import Derived.Test.YtjllbklkaalafaaTa40
import Derived.Test.YtjllbklkaalafaaTa41
import Derived.Test.YtjllbklkaalafaaTa43
namespace Go.Proofs.Ytjllbklkaalafaa
open Go.RowKit Lx Msk

/-- Is all known of which an expression speaks? -/
def okE (l : List Ru) (K : Nat → Bool) (e : Ex) : Bool := (nms e).all fun x => K (atP5 l x).toNat
theorem okE_kids {l : List Ru} {K : Nat → Bool} {e : Ex} (h : e.kind ≠ 10) : okE l K e = e.kids.all (okE l K) := by
  unfold okE
  rw [nms_eq, if_neg h, List.nil_append]
  unfold nmsL
  rw [List.all_flatten, List.all_map]
  rfl
theorem okE_name {l : List Ru} {K : Nat → Bool} {e : Ex} (h : e.kind = 10) (h0 : e.kids = []) : okE l K e = K (atP5 l e.name).toNat := by
  unfold okE
  rw [nms_eq, if_pos h, h0]
  simp [nmsL]
/-- The rules, the marks and the masks in memory. -/
structure RWld (us : List (Ru × Value)) (LV : Value) (n gk gm : Nat) (K : Nat → Bool) (M : Nat → Nat → Bool) (w : World) : Prop where
  rules : InR w LV us
  marks : w.heap[gk]? = some (.cells (bcells n K) 4 (0, 0))
  masks : ∀ i, i < n → w.rangeAt gm (i * 23) (mv (M i)).toList
theorem RWld.below {us : List (Ru × Value)} {LV : Value} {n gk gm : Nat} {K : Nat → Bool} {M : Nat → Nat → Bool} {w w' : World} (h : RWld us LV n gk gm K M w) (hb : Below w.heap.size w w') : RWld us LV n gk gm K M w' :=
  ⟨h.rules.below hb, (hb.block _ (lt_of_block h.marks)).trans h.marks, fun i hi => range_later (h.masks i hi) hb⟩
theorem rmean_step {us : List (Ru × Value)} {l : List Ru} {K : Nat → Bool} {M : Nat → Nat → Bool} {w : World} {day : Int} {e : Ex} {pe pv : Option Addr} {ce n cv gk gm : Nat} (hw : RWld us (.slice pv n cv) n gk gm K M w) (hl : us.map (fun p => p.1) = l) (hn40 : n ≤ 40) (d0 : 0 ≤ day) (d1 : day < 146097) (hok : OKE e)
    (hkk : RKids w (.slice pv n cv) day (.slice (some ⟨gk, 0, none⟩) n n) (.slice (some ⟨gm, 0, none⟩) n n) pe e.kids (okE l K) (valE (wkB day) day fun x => M (atP5 l x).toNat))
    (hnm : e.kind = 10 → 0 ≤ atP5 l e.name ∧ (atP5 l e.name).toNat < n) :
    Calls Try.prog 26 #[exV e (.slice pe e.kids.length ce), .slice pv n cv, .int .i64 day, .slice (some ⟨gk, 0, none⟩) n n, .slice (some ⟨gm, 0, none⟩) n n] w (OutMn (okE l K e) (valE (wkB day) day (fun x => M (atP5 l x).toNat) e) w) := by
  have hv := valE_eq (wkB day) day (fun x => M (atP5 l x).toNat) e
  obtain ⟨k1, k2, hlen, hr, _⟩ := hok.kinds
  have h0 := fun hk => hok.kid0 hk
  have h1 := fun hk => hok.kid1 hk
  have ho := fun h => okE_kids (l := l) (K := K) (e := e) h
  have ho10 := fun h h' => okE_name (l := l) (K := K) (e := e) h h'
  obtain ⟨kd, a, b, nm, ks⟩ := e
  unfold exV
  dsimp only at *
  have hc : kd = 1 ∨ kd = 2 ∨ kd = 3 ∨ kd = 4 ∨ kd = 5 ∨ kd = 6 ∨ kd = 7 ∨ kd = 8 ∨ kd = 9 ∨ kd = 10 := by omega
  have hl2 : ks.length ≤ 2 := by
    rw [hlen]
    unfold kidsP
    split
    · omega
    · split <;> omega
  rw [hv]
  rcases hc with rfl | rfl | rfl | rfl | rfl | rfl | rfl | rfl | rfl | rfl
  · rw [ho (by decide), valK_1]
    exact rmean_1 hl2 hkk
  · rw [ho (by decide), valK_2]
    exact rmean_2 hl2 hkk
  · rw [ho (by decide), valK_3]
    exact rmean_3 hl2 hkk
  · obtain ⟨k, hk, _⟩ := h0 (by decide)
    rw [ho (by decide), valK_4, mapD_at hk]
    have hb : 1 ≤ a ∧ a < 128 := by simpa [rangeP] using hr
    exact rmean_4 hl2 hkk k hk d0 d1 hb.1 hb.2 _ rfl
  · obtain ⟨k, hk, _⟩ := h0 (by decide)
    rw [ho (by decide), valK_5, mapD_at hk]
    exact rmean_5 hl2 hkk k hk _ rfl
  · obtain ⟨k, hk, _⟩ := h0 (by decide)
    obtain ⟨k', hk', _⟩ := h1 (by decide)
    rw [ho (by decide), valK_6, mapD_at hk, mapD_at hk']
    exact rmean_6 hl2 hkk k hk k' hk'
  · obtain ⟨k, hk, _⟩ := h0 (by decide)
    obtain ⟨k', hk', _⟩ := h1 (by decide)
    rw [ho (by decide), valK_7, mapD_at hk, mapD_at hk']
    exact rmean_7 hl2 hkk k hk k' hk'
  · obtain ⟨k, hk, _⟩ := h0 (by decide)
    obtain ⟨k', hk', _⟩ := h1 (by decide)
    rw [ho (by decide), valK_8, mapD_at hk, mapD_at hk']
    exact rmean_8 hl2 hkk k hk k' hk'
  · obtain ⟨k, hk, _⟩ := h0 (by decide)
    rw [ho (by decide), valK_9, mapD_at hk]
    exact rmean_9 hl2 hkk k hk
  · have hks : ks.length = 0 := hlen
    obtain ⟨hx, hxn⟩ := hnm rfl
    rw [ho10 rfl (List.length_eq_zero_iff.1 hks), valK_10]
    exact rmean_10 hl2 hkk hks hw.rules hl (by omega) hxn hn40 ((cell_of_row _ _ _ _ _ _ hw.marks).trans (bcells_at hxn)) (hw.masks _ hxn)
theorem rmean_all {us : List (Ru × Value)} {l : List Ru} {K : Nat → Bool} {M : Nat → Nat → Bool} {day : Int} {pv : Option Addr} {n cv gk gm : Nat} (hl : us.map (fun p => p.1) = l) (hn40 : n ≤ 40) (d0 : 0 ≤ day) (d1 : day < 146097) :
    ∀ (d : Nat) (e : Ex) (sl : Value) (w : World), RWld us (.slice pv n cv) n gk gm K M w → KidsB (fun k => k < w.heap.size) d w sl e.kids → OKE e → (∀ x ∈ nms e, 0 ≤ atP5 l x ∧ (atP5 l x).toNat < n) →
    Calls Try.prog 26 #[exV e sl, .slice pv n cv, .int .i64 day, .slice (some ⟨gk, 0, none⟩) n n, .slice (some ⟨gm, 0, none⟩) n n] w (OutMn (okE l K e) (valE (wkB day) day (fun x => M (atP5 l x).toNat) e) w) := by
  have none : ∀ (e : Ex) (p : Option Addr) (c : Nat) (w : World), RWld us (.slice pv n cv) n gk gm K M w → e.kids = [] → OKE e → (∀ x ∈ nms e, 0 ≤ atP5 l x ∧ (atP5 l x).toNat < n) →
      Calls Try.prog 26 #[exV e (.slice p 0 c), .slice pv n cv, .int .i64 day, .slice (some ⟨gk, 0, none⟩) n n, .slice (some ⟨gm, 0, none⟩) n n] w (OutMn (okE l K e) (valE (wkB day) day (fun x => M (atP5 l x).toNat) e) w) := fun e p c w hw h0 hok hn => by
    have := rmean_step (pe := p) (ce := c) (e := e) hw hl hn40 d0 d1 hok (fun j k hj => by rw [h0] at hj; simp at hj) fun hk => hn e.name (by rw [nms_eq, if_pos hk]; simp)
    rw [show e.kids.length = 0 by rw [h0]; rfl] at this
    exact this
  intro d
  induction d with
  | zero =>
    intro e sl w hw hk hok hn
    obtain ⟨h0, p, c, rfl⟩ := hk
    exact none e p c w hw h0 hok hn
  | succ d ih =>
    intro e sl w hw hk hok hn
    rcases hk with ⟨h0, p, c, rfl⟩ | ⟨g, o, c, _, rfl, hlk, hkk⟩
    · exact none e p c w hw h0 hok hn
    · refine rmean_step hw hl hn40 d0 d1 hok (fun j k hj => ?_) fun hk => hn e.name (by rw [nms_eq, if_pos hk]; simp)
      obtain ⟨_, sk, c0, c1, c2, c3, c4, r⟩ := hkk j k hj
      obtain ⟨ps, cs, rfl⟩ := r.form
      have hmem : k ∈ e.kids := List.mem_of_getElem? hj
      exact ⟨g, o, ps, cs, rfl, c0, c1, c2, c3, c4, fun W hW => ih k _ W (hw.below hW) ((r.kept fun g _ hl => hW.block g hl).mono fun g hg => Nat.lt_of_lt_of_le hg hW.size) (hok.kid hmem) (fun x hx => hn x (by
        rw [nms_eq, List.mem_append]
        right
        unfold nmsL
        exact List.mem_flatten.2 ⟨nms k, List.mem_map.2 ⟨k, hmem, rfl⟩, hx⟩))⟩
end Go.Proofs.Ytjllbklkaalafaa

/- What the document's All comes to. -/
namespace Go.Proofs.Ytjllbklkaalafaa
open Go.RowKit Lx Msk

theorem names_in {l : List Ru} (h : (chkW l).1 = 0) {i : Nat} {u : Ru} (hu : l[i]? = some u) {x : List UInt8} (hx : x ∈ nms u.2) : 0 ≤ atP5 l x ∧ (atP5 l x).toNat < l.length := by
  obtain ⟨_, hno⟩ := chk_lk2 h
  have hb := atP5_bd l x
  have hn1 : atP5 l x ≠ -1 := fun e => hno u (List.mem_of_getElem? hu) (by
    unfold spkR
    exact (spoken_mem _ _).2 (.inr ⟨x, hx, e⟩))
  omega
theorem muR_ltn {l : List Ru} (h : (chkW l).1 = 0) {i : Nat} (hi : i < l.length) : muR l i < l.length := by
  have hnd : ((i : Int) :: usesL l (i : Int)).Nodup := List.nodup_cons.2 ⟨fun hm => (uses_ok h hi hm).2.2 rfl, uses_nodup l _⟩
  have := nd_len _ ((List.range l.length).map fun k : Nat => (k : Int)) hnd fun x hx => by
    rcases List.mem_cons.1 hx with rfl | hx
    · exact List.mem_map.2 ⟨i, List.mem_range.2 hi, rfl⟩
    · obtain ⟨k, rfl, hk, _⟩ := (uses_mem h hi).1 hx
      exact List.mem_map.2 ⟨k, List.mem_range.2 hk, rfl⟩
  simp only [List.length_cons, List.length_map, List.length_range] at this
  unfold muR
  omega
def updB (K : Nat → Bool) (i : Nat) (b : Bool) : Nat → Bool := fun j => if j = i then b else K j
theorem bcells_updB {n : Nat} {m : Nat → Bool} {i : Nat} {b : Bool} : (bcells n m).setIfInBounds i (.bool b) = bcells n (updB m i b) := by
  apply Array.ext
  · simp [bcells]
  · intro k h1 h2
    have hk : k < n := by simpa [bcells] using h2
    rw [Array.getElem_setIfInBounds (by simpa [bcells] using hk)]
    by_cases e : i = k
    · subst e
      simp [bcells, updB]
    · rw [if_neg e]
      simp [bcells, updB, show k ≠ i from fun h => e h.symm]
/-- What is known in a round, ahead of a rule. -/
structure RInv (l : List Ru) (V : Nat → Nat → Bool) (t i : Nat) (K : Nat → Bool) (M : Nat → Nat → Bool) : Prop where
  right : ∀ j, j < l.length → K j = true → M j = V j
  past : ∀ j, j < l.length → muR l j < t → K j = true
  now : ∀ j, j < i → j < l.length → muR l j ≤ t → K j = true
section
variable {l : List Ru} {V : Nat → Nat → Bool} {t i : Nat} {K : Nat → Bool} {M : Nat → Nat → Bool}
theorem RInv.begin (l : List Ru) (V : Nat → Nat → Bool) {M : Nat → Nat → Bool} : RInv l V 0 0 (fun _ => false) M := ⟨fun _ _ h => (by cases h), fun _ _ h => (by omega), fun _ h => (by omega)⟩
theorem RInv.skip (h : RInv l V t i K M) (hK : K i = true) : RInv l V t (i + 1) K M := ⟨h.right, h.past, fun j hj hl hm => by
  by_cases e : j = i
  · subst e; exact hK
  · exact h.now j (by omega) hl hm⟩
theorem RInv.round {n : Nat} (h : RInv l V t n K M) (hn : l.length = n) : RInv l V (t + 1) 0 K M := ⟨h.right, fun j hj hm => h.now j (by omega) hj (by omega), fun _ hj => by omega⟩
theorem RInv.step {wk : Int → Bool} {day : Int} {u : Ru} {ok : Bool} {f : Nat → Bool} (h : RInv l (meanP l wk day) t i K M) (hc : (chkW l).1 = 0) (hu : l[i]? = some u) (hK : K i = false) (hok : ok = okE l K u.2) (hf : ok = true → f = valE wk day (fun x => M (atP5 l x).toNat) u.2) :
    RInv l (meanP l wk day) t (i + 1) (updB K i ok) (updM M i f) := by
  have hi : i < l.length := (List.getElem?_eq_some_iff.1 hu).1
  have hne : ∀ {j}, K j = true → j ≠ i := fun {j} hj e => by subst e; rw [hK] at hj; cases hj
  have hkeep : ∀ j, K j = true → updB K i ok j = true := fun j hj => by
    rw [updB, if_neg (hne hj)]
    exact hj
  have hin := fun x (hx : x ∈ nms u.2) => names_in hc hu hx
  refine ⟨fun j hj hKj => ?_, fun j hj hm => hkeep j (h.past j hj hm), fun j hj hjl hm => ?_⟩
  · by_cases e : j = i
    · subst e
      rw [updB, if_pos rfl] at hKj
      rw [updM, if_pos rfl, hf hKj, meanP_eq hc hu]
      refine valE_congr _ _ (Nat.le_refl _) fun x hx => ?_
      rw [hKj] at hok
      exact h.right _ (hin x hx).2 (List.all_eq_true.1 hok.symm x hx)
    · rw [updB, if_neg e] at hKj
      rw [updM, if_neg e]
      exact h.right j hj hKj
  · by_cases e : j = i
    · subst e
      rw [updB, if_pos rfl, hok]
      refine List.all_eq_true.2 fun x hx => ?_
      exact h.past _ (hin x hx).2 (by have := muR_lt hc hi (lead_of_name hc hu hx); omega)
    · exact hkeep j (h.now j (by omega) hjl hm)
end
/-- The marks and the masks in memory. -/
structure RS2 (w : World) (n gk gm : Nat) (K : Nat → Bool) (M : Nat → Nat → Bool) (W : World) : Prop where
  bel : Below w.heap.size w W
  marks : W.heap[gk]? = some (.cells (bcells n K) 4 (0, 0))
  masks : ∀ i, i < n → W.rangeAt gm (i * 23) (mv (M i)).toList
  held : ∃ cs, W.heap[gm]? = some (.cells cs 58 (0, 0))
  lo : w.heap.size ≤ gk ∧ w.heap.size ≤ gm
  ne : gk ≠ gm
section
variable {w W W' : World} {n gk gm : Nat} {K : Nat → Bool} {M : Nat → Nat → Bool}
theorem RS2.later (h : RS2 w n gk gm K M W) (hb : Below W.heap.size W W') : RS2 w n gk gm K M W' := by
  obtain ⟨cs, hc⟩ := h.held
  exact ⟨h.bel.trans (hb.mono h.bel.size), (hb.block _ (lt_of_block h.marks)).trans h.marks, fun i hi => range_later (h.masks i hi) hb, ⟨cs, (hb.block _ (lt_of_block hc)).trans hc⟩, h.lo, h.ne⟩
theorem RS2.there (h : RS2 w n gk gm K M W) {i : Nat} (hi : i < n) : W.there gm (i * 23) 23 := fun j hj => by
  obtain ⟨cs, hc⟩ := h.held
  exact ⟨(h.masks i hi).isSome j (by rw [Array.length_toList, mv_size]; exact hj), frozen_of_row _ _ _ _ _ hc⟩
theorem RS2.put (h : RS2 w n gk gm K M W) {i : Nat} (hi : i < n) (f : Nat → Bool) : RS2 w n gk gm K (updM M i f) (W.setCells gm (i * 23) (mv f).toList) := by
  have ho : ∀ q, q ≠ gm → (W.setCells gm (i * 23) (mv f).toList).heap[q]? = W.heap[q]? := fun q hq => heap_setCells_other gm _ _ W q hq
  refine ⟨below_setCellsM gm h.lo.2 _ _ _ h.bel, (ho _ h.ne).trans h.marks, fun j hj => ?_, heap_setCells_cells gm _ _ W h.held, h.lo, h.ne⟩
  by_cases e : j = i
  · subst e
    rw [updM, if_pos rfl]
    exact World.rangeAt_setCells_same W gm _ _ (by rw [Array.length_toList, mv_size]; exact h.there hj)
  · rw [updM, if_neg e]
    refine World.rangeAt_setCells_apart (h.masks j hj) gm _ _ (.inr ?_)
    rw [Array.length_toList, Array.length_toList, mv_size, mv_size]
    omega
theorem RS2.mark (h : RS2 w n gk gm K M W) (i : Nat) (b : Bool) : RS2 w n gk gm (updB K i b) M (W.setCell ⟨gk, i, none⟩ (.bool b)) := by
  have ho : ∀ q, q ≠ gk → (W.setCell ⟨gk, i, none⟩ (.bool b)).heap[q]? = W.heap[q]? := fun q hq => heap_setCell_other W ⟨gk, i, none⟩ q _ hq
  refine ⟨h.bel.setCell h.lo.1 _, ?_, fun j hj => ?_, ?_, h.lo, h.ne⟩
  · rw [← bcells_updB]
    exact heap_setCell_same W gk i _ _ _ h.marks
  · intro k v hv
    rw [← h.masks j hj k v hv]
    exact World.cell?_of_block (ho _ (fun e => h.ne e.symm))
  · obtain ⟨cs, hc⟩ := h.held
    exact ⟨cs, (ho _ (fun e => h.ne e.symm)).trans hc⟩
theorem RS2.begin (hJ : Below w.heap.size w W) (b28 : w.heap.size ≤ gk) (k28 : W.heap[gk]? = some (.cells (bcells n fun _ => false) 4 (0, 0))) (b31 : w.heap.size ≤ gm) (k31 : W.heap[gm]? = some (.cells (zcells n) 58 (0, 0))) :
    RS2 w n gk gm (fun _ => false) (fun _ _ => false) W := by
  have n3 : gk ≠ gm := fun e => by
    subst e
    rw [k28] at k31
    injection k31 with e1
    injection e1 with _ e2
    exact absurd e2 (by decide)
  exact ⟨hJ, k28, fun i hi => zcells_range k31 hi, ⟨_, k31⟩, ⟨b28, b31⟩, n3⟩
end
/-- What each operation yields. -/
def asq (B n : Nat) (sl : Value) (i : Nat) (v : Value) (W : World) : Prop := match i with
  | 0 => v = sl
  | 1 => v = .int .i64 (n : Int)
  | 2 => ∃ gk : Nat, v = .slice (some ⟨gk, 0, none⟩) n n ∧ B ≤ gk ∧ W.heap[gk]? = some (.cells (bcells n fun _ => false) 4 (0, 0))
  | 3 => v = sl
  | 4 => v = .int .i64 (n : Int)
  | 5 => ∃ gm : Nat, v = .slice (some ⟨gm, 0, none⟩) n n ∧ B ≤ gm ∧ W.heap[gm]? = some (.cells (zcells n) 58 (0, 0))
  | _ => ∃ gk : Nat, v = .slice (some ⟨gk, 0, none⟩) n n ∧ B ≤ gk ∧ W.heap[gk]? = some (.cells (bcells n fun _ => false) 4 (0, 0))
theorem asq_mono {B n : Nat} {sl : Value} {W W' : World} (hb : Below W.heap.size W W') (i : Nat) (v : Value) (h : asq B n sl i v W) : asq B n sl i v W' := by
  unfold asq at *
  split at h
  · exact h
  · exact h
  · obtain ⟨gk, h1, h2, h3⟩ := h
    exact ⟨gk, h1, h2, (hb.block _ (lt_of_block h3)).trans h3⟩
  · exact h
  · exact h
  · obtain ⟨gk, h1, h2, h3⟩ := h
    exact ⟨gk, h1, h2, (hb.block _ (lt_of_block h3)).trans h3⟩
  · obtain ⟨gk, h1, h2, h3⟩ := h
    exact ⟨gk, h1, h2, (hb.block _ (lt_of_block h3)).trans h3⟩
theorem rall_post {R : Ending → World → Prop} {a : Act} {w : World} (g : Nat) (v : Value) (er at_ : Int) (hd : a.defers = []) (h2 : a.tmps.getD 4 undef = v) (h3 : a.tmps.getD 5 undef = .pointer (some ⟨g, 0, none⟩))
    (hg : w.heap[g]? = some (.cells #[.int .i64 er, .int .i64 at_] 25 (0, 0))) (hR : R (.returned (.tuple #[v, .agg #[.int .i64 er, .int .i64 at_]])) w) : bodyPost Try.prog Try.f11 R .ret a w := by
  refine bodyPost_ret (v := .tuple #[v, .agg #[.int .i64 er, .int .i64 at_]]) ?_ hd hR
  have h2' : a.tmps[4]?.getD undef = v := by simpa using h2
  have h3' : a.tmps[5]?.getD undef = .pointer (some ⟨g, 0, none⟩) := by simpa using h3
  have hv := run_loadVar_row (P := Try.prog) w g 25 25 _ _ _ hg faultType rfl (by kernel_rfl)
  simp [results, Try.results11, h2', h3', asAddr, hv]
end Go.Proofs.Ytjllbklkaalafaa

/- What the document's All comes to. -/
namespace Go.Proofs.Ytjllbklkaalafaa
open Go.RowKit Lx Msk
set_option maxRecDepth 100000 in
set_option maxHeartbeats 4000000 in
theorem rall_any (us : List (Ru × Value)) (v : Value) (day : Int) (w : World) (h : InR w v us) : Calls Try.prog 11 #[v, .int .i64 day] w (OutMe (us.map (fun p => p.1)) day w) := by
  obtain ⟨l, hl⟩ : ∃ l, us.map (fun p => p.1) = l := ⟨_, rfl⟩
  obtain ⟨n, hn⟩ : ∃ n, us.length = n := ⟨_, rfl⟩
  have hll : l.length = n := by rw [← hl, List.length_map, hn]
  obtain ⟨pv, cv, rfl⟩ := h.form
  have bA := (Below.refl w.heap.size w).alloc (Nat.le_refl _) (.cells #[.int .i64 0, .int .i64 0] 25)
  have n1 := heap_alloc_new w (.cells #[.int .i64 0, .int .i64 0] 25)
  generalize hwA : w.alloc (.cells #[.int .i64 0, .int .i64 0] 25) = wA at *
  have cW := refW_any us _ wA (h.below bA)
  rw [hl, refW_same] at cW
  rw [hl, hn]
  have HL := hid5 hl
  have HLN := hid5 hn
  have HLL := hid5 hll
  have HI0 := hid5 h
  rw [hn] at cW
  clear hl hll h hn
  go_enter Try.func11, Try.ntmps11
  go_wp2_with fail
  refine cW.mono ?_
  rintro r w1 ⟨rfl, hb1⟩
  have m2 := (hb1.block _ (lt_of_block n1)).trans n1
  have hb1w := bA.trans (hb1.mono bA.size)
  clear cW n1 hb1 bA hwA
  by_cases h0 : (chkW l).1 = 0
  · obtain ⟨hw0, _⟩ := chk_lk2 h0
    have h40 := (wrongR_oke hw0).1
    rw [HLL.out] at h40
    have H0 := hid5 h0
    rw [h0]
    generalize (((chkW l).2 : Nat) : Int) = at0 at *
    have bC := (Below.refl w1.heap.size w1).alloc (Nat.le_refl _) (.cells #[.int .i64 0, .int .i64 at0] 25)
    have HBw := hid5 (hb1w.trans (bC.mono hb1w.size))
    have HR := hid5 ((bC.block _ (lt_of_block m2)).trans m2)
    have m3 := heap_alloc_new w1 (.cells #[.int .i64 0, .int .i64 at0] 25)
    have Hn40 := hid5 h40
    have hI40 : (n : Int) ≤ 40 := by omega
    clear bC hb1w m2 h0 h40 hw0
    generalize hw2 : w1.alloc (.cells #[.int .i64 0, .int .i64 at0] 25) = wB at *
    have HI := hid5 (HI0.out.below HBw.out)
    have z0 := (cell_of_row _ _ 0 _ _ _ m3).trans rfl
    by_cases hd : day < 0 ∨ 146097 ≤ day
    · have HF : Hid (mflt l day = (3, 0)) := by
        show _ = _
        unfold mflt
        rw [if_neg (by simpa using H0.out), if_pos hd]
      have HO : Hid (∀ cs, OutMe l day w (.returned (.tuple #[.slice none 0 0, .agg #[.int .i64 3, .int .i64 0]])) (wB.setRow w.heap.size cs)) := fun cs => by
        have hML : meanL l day = [] := by
          unfold meanL
          rw [HF.out]
          rfl
        refine ⟨_, by rw [HF.out]; rfl, ?_, below_setRow HBw.out (Nat.le_refl _) _⟩
        rw [hML]
        exact rowM_nil _ _ _
      have n9 := HR.out
      by_cases hd0 : day < 0
      · clear hd
        go_wp2_with (refine wpList_store_row rfl 25 _ _ rfl _ _ rfl rfl _ _ n9 (by kernel_rfl) (by simp) (by simp [Value.oneCell']) ?_)
        exact rall_post w.heap.size _ 3 0 rfl rfl rfl (setRow_heap _ _ _ _ _ _ n9) (HO.out _)
      · have hd1 : 146097 ≤ day := by omega
        clear hd
        go_wp2_with (refine wpList_store_row rfl 25 _ _ rfl _ _ rfl rfl _ _ n9 (by kernel_rfl) (by simp) (by simp [Value.oneCell']) ?_)
        exact rall_post w.heap.size _ 3 0 rfl rfl rfl (setRow_heap _ _ _ _ _ _ n9) (HO.out _)
    · have HF : Hid (mflt l day = (0, 0)) := by
        show _ = _
        unfold mflt
        rw [if_neg (by simpa using H0.out), if_neg hd]
      have HML : Hid (meanL l day = (List.range n).map (meanP l (wkB day) day)) := by
        show _ = _
        unfold meanL
        rw [HF.out, HLL.out]
        rfl
      have hd0 : ¬ day < 0 := fun e => hd (.inl e)
      have hd1 : ¬ 146097 ≤ day := fun e => hd (.inr e)
      have Hmb := hid5 (run_make_row' (P := Try.prog) 47 4 (.bool false) 1 boolsType boolInfo rfl .i64 .i64 n (by omega) (by omega))
      rw [bcells_none] at Hmb
      have Hmm := hid5 (make_masks n (by omega))
      have HOK := hid5 (wrongR_oke (chk_lk2 H0.out).1).2
      have HNM : Hid (∀ (i : Nat) (u : Ru), l[i]? = some u → ∀ x ∈ nms u.2, 0 ≤ atP5 l x ∧ (atP5 l x).toNat < n) := fun i u hu x hx => by
        rw [← HLL.out]
        exact names_in H0.out hu hx
      clear hd
      go_wp2_with fail
      clear z0 m3 hw2
      refine wp_region_lastP (Below wB.heap.size wB) (asq wB.heap.size n (.slice pv n cv)) ((Below.refl _ _).drew) (fun W W' hb j u h => asq_mono hb j u h) (by kernel_rfl) (by kernel_rfl) (by kernel_rfl) (by kernel_rfl) 7 (by kernel_rfl) (by kernel_rfl) [24, 25, 26, 27, 28, 29, 7] (by kernel_rfl) (by kernel_rfl) ?_ ?_
      · intro i' s o' L A W2 ho hs hdep hJ hkept hhas
        match i', ho, hs with
        | 0, ho, hs =>
          cases Option.some.inj ho
          cases Option.some.inj hs
          have h0 : A.tmps[0]?.getD undef = .slice pv n cv := (gd A 0).trans (hkept 0 (by kernel_rfl))
          refine wpOp_step rfl (fun K hK => ?_)
          go_simp
          exact hK _ _ ⟨_, rfl, rfl, hJ, Below.refl _ _⟩
        | 1, ho, hs =>
          cases Option.some.inj ho
          cases Option.some.inj hs
          have h24 : A.tmps[24]?.getD undef = .slice pv n cv := (gd A 24).trans (hhas 0 24 rfl (hdep ⟨0, .data⟩ (by simp) rfl))
          refine wpOp_step rfl (fun K hK => ?_)
          go_simp
          exact hK _ _ ⟨_, rfl, rfl, hJ, Below.refl _ _⟩
        | 2, ho, hs =>
          cases Option.some.inj ho
          cases Option.some.inj hs
          have h25 : A.tmps[25]?.getD undef = .int .i64 (n : Int) := (gd A 25).trans (hhas 1 25 rfl (hdep ⟨1, .data⟩ (by simp) rfl))
          have hsz := hJ.size
          have hmk := Hmb.out W2
          have hb := (Below.refl W2.heap.size W2).alloc (Nat.le_refl _) (.cells (bcells n fun _ => false) 4)
          have hnew := heap_alloc_new W2 (.cells (bcells n fun _ => false) 4)
          refine wpOp_step rfl (fun K hK => ?_)
          go_simp
          exact hK _ _ ⟨_, rfl, ⟨_, rfl, hsz, hnew⟩, hJ.trans (hb.mono hJ.size), hb⟩
        | 3, ho, hs =>
          cases Option.some.inj ho
          cases Option.some.inj hs
          have h0 : A.tmps[0]?.getD undef = .slice pv n cv := (gd A 0).trans (hkept 0 (by kernel_rfl))
          refine wpOp_step rfl (fun K hK => ?_)
          go_simp
          exact hK _ _ ⟨_, rfl, rfl, hJ, Below.refl _ _⟩
        | 4, ho, hs =>
          cases Option.some.inj ho
          cases Option.some.inj hs
          have h27 : A.tmps[27]?.getD undef = .slice pv n cv := (gd A 27).trans (hhas 3 27 rfl (hdep ⟨3, .data⟩ (by simp) rfl))
          refine wpOp_step rfl (fun K hK => ?_)
          go_simp
          exact hK _ _ ⟨_, rfl, rfl, hJ, Below.refl _ _⟩
        | 5, ho, hs =>
          cases Option.some.inj ho
          cases Option.some.inj hs
          have h28 : A.tmps[28]?.getD undef = .int .i64 (n : Int) := (gd A 28).trans (hhas 4 28 rfl (hdep ⟨4, .data⟩ (by simp) rfl))
          have hsz := hJ.size
          have hmk := Hmm.out W2
          have hb := (Below.refl W2.heap.size W2).alloc (Nat.le_refl _) (.cells (zcells n) 58)
          have hnew := heap_alloc_new W2 (.cells (zcells n) 58)
          refine wpOp_step rfl (fun K hK => ?_)
          go_simp
          exact hK _ _ ⟨_, rfl, ⟨_, rfl, hsz, hnew⟩, hJ.trans (hb.mono hJ.size), hb⟩
        | 6, ho, hs =>
          cases Option.some.inj ho
          cases Option.some.inj hs
          obtain ⟨gk, e26, b26, k26⟩ := hhas 2 26 rfl (hdep ⟨2, .data⟩ (by simp) rfl)
          have h26 : A.tmps[26]?.getD undef = .slice (some ⟨gk, 0, none⟩) n n := (gd A 26).trans e26
          refine wpOp_step rfl (fun K hK => ?_)
          go_simp
          exact hK _ _ ⟨_, rfl, ⟨gk, rfl, b26, k26⟩, hJ, Below.refl _ _⟩
        | kk + 7, ho, hs => simp at hs
      · intro o' W2 A ho hJ hhas hkept hput
        obtain ⟨gk1, e26, _, _⟩ := hhas 2 26 rfl
        obtain ⟨gm, e29, b31, k31⟩ := hhas 5 29 rfl
        obtain ⟨gk, e7, b28, k28⟩ := hhas 6 7 rfl
        have hA : A = putAll [(24, .slice pv n cv), (25, .int .i64 (n : Int)), (26, .slice (some ⟨gk1, 0, none⟩) n n), (27, .slice pv n cv), (28, .int .i64 (n : Int)), (29, .slice (some ⟨gm, 0, none⟩) n n), (7, .slice (some ⟨gk, 0, none⟩) n n)] _ := hput _ (by kernel_rfl) (fun j s v hj => match j, hj with
          | 0, hj => by cases Option.some.inj hj; exact hhas 0 24 rfl
          | 1, hj => by cases Option.some.inj hj; exact hhas 1 25 rfl
          | 2, hj => by cases Option.some.inj hj; exact e26
          | 3, hj => by cases Option.some.inj hj; exact hhas 3 27 rfl
          | 4, hj => by cases Option.some.inj hj; exact hhas 4 28 rfl
          | 5, hj => by cases Option.some.inj hj; exact e29
          | 6, hj => by cases Option.some.inj hj; exact e7
          | kk + 7, hj => by simp at hj)
        cases Option.some.inj ho
        have hx : A.tmps[29]?.getD undef = .slice (some ⟨gm, 0, none⟩) n n := (gd A 29).trans e29
        have hst := RS2.begin hJ b28 k28 b31 k31
        have HA := hid5 hA
        clear hA hput hhas hkept e26 e29 e7
        refine wpOp_step rfl (fun K hK => ?_)
        go_simp
        refine hK _ _ ⟨⟨_, rfl⟩, ?_⟩
        have hA := HA.out
        clear HA
        change Exit.then _ _ Exit.normal (A.put (some 8) (.slice (some ⟨gm, 0, none⟩) n n)) _
        subst hA
        simp only [putAll_cons, putAll_nil, Act.put, List.setIfInBounds_toArray, List.set_cons_succ, List.set_cons_zero]
        clear hK hx k28 k31 b28 b31 hJ
        have HI0' := HI
        go_wp2_with fail
        go_loopw [9, 10, 32, 36] (fun _ _ t _ wr => ∃ j : Nat, t = .int .i64 (j : Int) ∧ j ≤ n ∧ ∃ K M, RS2 wB n gk gm K M wr ∧ RInv l (meanP l (wkB day) day) j 0 K M) (fun _ _ t _ _ => n - (intOf t).toNat)
        case atStart => exact ⟨0, rfl, by omega, _, _, hst, RInv.begin l _⟩
        case round =>
          obtain ⟨t, rfl, ht, K, M, hs, hr⟩ := hrel
          have ht0 : (0 : Int) ≤ (t : Int) := by omega
          clear hst
          by_cases hlt : t < n
          · have hlt' : (t : Int) < (n : Int) := by omega
            have Hr := hid5 hr
            clear hr
            go_wp2_with fail
            go_loopw [9, 10, 36] (fun _ _ q wr => ∃ j : Nat, q = .int .i64 (j : Int) ∧ j ≤ n ∧ ∃ K M, RS2 wB n gk gm K M wr ∧ RInv l (meanP l (wkB day) day) t j K M) (fun _ _ q _ => n - (intOf q).toNat)
            case atStart => exact ⟨0, rfl, by omega, K, M, hs, Hr.out⟩
            case round =>
              clear hs Hr
              obtain ⟨i, rfl, hi', K, M, hs, hr⟩ := hrel
              have hi0 : (0 : Int) ≤ (i : Int) := by omega
              by_cases hil : i < n
              · have hil' : (i : Int) < (n : Int) := by omega
                obtain ⟨⟨u, sk⟩, hik⟩ : ∃ p, us[i]? = some p := ⟨us[i]'(by have := HLN.out; omega), List.getElem?_eq_getElem _⟩
                have hul : l[i]? = some u := by rw [← HL.out, List.getElem?_map, hik]; rfl
                have hin := HI.out
                rw [HLN.out] at hin
                have hin2 := hin
                rw [← HLN.out] at hin2
                obtain ⟨g, o, hpe, c0, c1, c2, c3, c4, c5⟩ := hin2.cells i _ hik
                obtain ⟨_, _, dd, hkk⟩ := hin.all _ (List.mem_of_getElem? hik)
                dsimp only at c0 c1 c2 c3 c4 c5 hkk
                obtain ⟨ps, cs, rfl⟩ := hkk.form
                subst hpe
                have hbr := hs.bel
                have d0 := (hbr.cell (block_lt_of_cell c0)).trans c0
                have d1 := (hbr.cell (block_lt_of_cell c1)).trans c1
                have d2 := (hbr.cell (block_lt_of_cell c2)).trans c2
                have d3 := (hbr.cell (block_lt_of_cell c3)).trans c3
                have d4 := (hbr.cell (block_lt_of_cell c4)).trans c4
                have d5 := (hbr.cell (block_lt_of_cell c5)).trans c5
                have bX := (Below.refl wr.heap.size wr).alloc (Nat.le_refl _) (.cells #[.string ⟨u.1.toArray⟩, .int .i64 u.2.kind, .int .i64 u.2.a, .int .i64 u.2.b, .string ⟨u.2.name.toArray⟩, .slice ps u.2.kids.length cs] 43)
                have hxB := heap_alloc_new wr (.cells #[.string ⟨u.1.toArray⟩, .int .i64 u.2.kind, .int .i64 u.2.a, .int .i64 u.2.b, .string ⟨u.2.name.toArray⟩, .slice ps u.2.kids.length cs] 43)
                have hsX := hs.later bX
                have kx := (cell_of_row _ _ i _ _ _ hsX.marks).trans (bcells_at hil)
                have Hul := hid5 hul
                have Hkk := hid5 hkk
                clear c0 c1 c2 c3 c4 c5 hik hul hkk hin hin2
                generalize hwX : wr.alloc (.cells #[.string ⟨u.1.toArray⟩, .int .i64 u.2.kind, .int .i64 u.2.a, .int .i64 u.2.b, .string ⟨u.2.name.toArray⟩, .slice ps u.2.kids.length cs] 43) = wX at *
                cases hK : K i with
                | true =>
                  rw [hK] at kx
                  have HN : Hid (∃ K M, RS2 wB n gk gm K M wX ∧ RInv l (meanP l (wkB day) day) t (i + 1) K M) := ⟨K, M, hsX, hr.skip hK⟩
                  clear hs hsX hr hK bX
                  go_wp2_with fail
                  go_roundw
                  case rel => first
                    | exact ⟨i + 1, by go_num, by omega, HN.out⟩
                    | exact ⟨_, _, ⟨i + 1, by go_num, by omega, HN.out⟩, rfl, rfl⟩
                  case measure => simp [intOf]; omega
                | false =>
                  rw [hK] at kx
                  have e1 := (cell_of_row _ _ 1 _ _ _ hxB).trans rfl
                  have e2 := (cell_of_row _ _ 2 _ _ _ hxB).trans rfl
                  have e3 := (cell_of_row _ _ 3 _ _ _ hxB).trans rfl
                  have e4 := (cell_of_row _ _ 4 _ _ _ hxB).trans rfl
                  have e5 := (cell_of_row _ _ 5 _ _ _ hxB).trans rfl
                  have hinX := HI.out.below hsX.bel
                  rw [HLN.out] at hinX
                  have hbwX := hsX.bel
                  have cM := rmean_all (us := us) (l := l) (K := K) (M := M) (day := day) (pv := some ⟨g, o, none⟩) (n := n) (cv := cv) (gk := gk) (gm := gm) HL.out Hn40.out (by omega) (by omega) dd u.2 _ wX ⟨hinX, hsX.marks, hsX.masks⟩ ((Hkk.out.kept fun g _ hl => hbwX.block g hl).mono fun g hg => Nat.lt_of_lt_of_le hg hbwX.size) (HOK.out u (List.mem_of_getElem? Hul.out)) (fun x hx => HNM.out i u Hul.out x hx)
                  unfold exV at cM
                  clear hinX hbwX hs bX hbr
                  go_wp2_with fail
                  refine cM.mono ?_
                  rintro r w7 ⟨⟨f, rfl, hf⟩, hb7⟩
                  have hs7 := hsX.later hb7
                  have hs8 := hs7.put hil f
                  have hth := hs7.there hil
                  have hr' := hr.step H0.out Hul.out hK rfl hf
                  clear cM kx e1 e2 e3 e4 e5 hwX hxB d0 d1 d2 d3 d4 d5 hf hr hsX hb7
                  generalize okE l K u.2 = ok0 at *
                  have kk8 := (cell_of_row _ _ i _ _ _ hs8.marks).trans (bcells_at hil)
                  have kf8 := frozen_of_row _ _ i _ _ hs8.marks
                  have HN : Hid (∃ K M, RS2 wB n gk gm K M ((w7.setCells gm (i * 23) (mv f).toList).setCell ⟨gk, i, none⟩ (.bool ok0)) ∧ RInv l (meanP l (wkB day) day) t (i + 1) K M) := ⟨_, _, hs8.mark i ok0, hr'⟩
                  have hth' : w7.there gm (i * 23) (mv f).size := by rw [mv_size]; exact hth
                  have Hth := hid5 hth'
                  clear hs7 hs8 hr' hth hth' hK
                  generalize hw8 : w7.setCells gm (i * 23) (mv f).toList = w8 at *
                  go_wp2_with (refine wpList_store_mid rfl 58 _ _ rfl gm (i * 23) (mv f) rfl rfl ?th (maskSize _) (mv_all _) ?_; (case th => exact Hth.out))
                  go_roundw
                  case rel => first
                    | exact ⟨i + 1, by go_num, by omega, HN.out⟩
                    | exact ⟨_, _, ⟨i + 1, by go_num, by omega, HN.out⟩, rfl, rfl⟩
                  case measure => simp [intOf]; omega
              · have ej : i = n := by omega
                have hil' : ¬ (i : Int) < (n : Int) := by omega
                subst ej
                have HN : Hid (∃ K M, RS2 wB i gk gm K M wr ∧ RInv l (meanP l (wkB day) day) (t + 1) 0 K M) := ⟨K, M, hs, hr.round HLL.out⟩
                clear hs hr
                go_wp2_with fail
                go_roundw
                case rel => first
                  | exact ⟨t + 1, by go_num, by omega, HN.out⟩
                  | exact ⟨_, _, _, ⟨t + 1, by go_num, by omega, HN.out⟩, rfl, rfl, rfl⟩
                case measure => simp [intOf]; omega
          · have ej : t = n := by omega
            have hlt' : ¬ (t : Int) < (n : Int) := by omega
            have n9 := (hs.bel.block _ (lt_of_block HR.out)).trans HR.out
            have HO : Hid (∀ cs, OutMe l day w (.returned (.tuple #[.slice (some ⟨gm, 0, none⟩) n n, .agg #[.int .i64 0, .int .i64 0]])) (wr.setRow w.heap.size cs)) := fun cs => by
              have hb9 := below_setRow (HBw.out.trans (hs.bel.mono HBw.out.size)) (Nat.le_refl w.heap.size) cs
              refine ⟨_, by rw [HF.out]; rfl, ?_, hb9⟩
              rw [HML.out]
              refine rowM_of Hn40.out (fun i hi => ?_)
              have hk := hr.past i (by rw [HLL.out]; exact hi) (by have := muR_ltn H0.out (i := i) (by rw [HLL.out]; exact hi); have := HLL.out; omega)
              have h3 := hr.right i (by rw [HLL.out]; exact hi) hk
              have h4 := hs.masks i hi
              rw [h3] at h4
              intro q v hv
              rw [← h4 q v hv]
              exact World.cell?_of_block (setRow_other _ _ _ _ (by show gm ≠ w.heap.size; have := hs.lo.2; have := HBw.out.size; have := lt_of_block HR.out; omega))
            clear hr hs
            go_wp2_with (refine wpList_store_row rfl 25 _ _ rfl _ _ rfl rfl _ _ n9 (by kernel_rfl) (by simp) (by simp [Value.oneCell']) ?_)
            exact rall_post w.heap.size _ 0 0 rfl rfl rfl (setRow_heap _ _ _ _ _ _ n9) (HO.out _)
  · have H0 := hid5 h0
    have HF : Hid (mflt l day = chkW l) := by
      show _ = _
      unfold mflt
      rw [if_pos h0]
    have hne : ((chkW l).1 != 0) = true := by simpa using h0
    have bC := (Below.refl w1.heap.size w1).alloc (Nat.le_refl _) (.cells #[.int .i64 (chkW l).1, .int .i64 ((chkW l).2 : Int)] 25)
    have HBw := hid5 (hb1w.trans (bC.mono hb1w.size))
    have n9 := (bC.block _ (lt_of_block m2)).trans m2
    have m3 := heap_alloc_new w1 (.cells #[.int .i64 (chkW l).1, .int .i64 ((chkW l).2 : Int)] 25)
    clear bC hb1w m2 h0
    generalize hw2 : w1.alloc (.cells #[.int .i64 (chkW l).1, .int .i64 ((chkW l).2 : Int)] 25) = wB at *
    have HO : Hid (∀ W, Below w.heap.size w W → OutMe l day w (.returned (.tuple #[.slice none 0 0, .agg #[.int .i64 (chkW l).1, .int .i64 ((chkW l).2 : Int)]])) W) := fun W hW => by
      have hML : meanL l day = [] := by
        unfold meanL
        rw [HF.out, if_neg H0.out]
      refine ⟨_, by rw [HF.out], ?_, hW⟩
      rw [hML]
      exact rowM_nil _ _ _
    have z0 := (cell_of_row _ _ 0 _ _ _ m3).trans rfl
    have z1 := (cell_of_row _ _ 1 _ _ _ m3).trans rfl
    have y0 := (cell_of_row _ _ 0 _ _ _ n9).trans rfl
    have y1 := (cell_of_row _ _ 1 _ _ _ n9).trans rfl
    have x0 := frozen_of_row _ _ 0 _ _ n9
    have x1 := frozen_of_row _ _ 1 _ _ n9
    have hmm := heap_setCell_same _ _ 1 _ _ (.int .i64 ((chkW l).2 : Int)) (heap_setCell_same _ _ 0 _ _ (.int .i64 (chkW l).1) n9)
    have HBB := hid5 ((HBw.out.setCell (p := ⟨w.heap.size, 0, none⟩) (Nat.le_refl _) (.int .i64 (chkW l).1)).setCell (p := ⟨w.heap.size, 1, none⟩) (Nat.le_refl _) (.int .i64 ((chkW l).2 : Int)))
    have HMM := hid5 hmm
    clear hmm n9 m3
    clear HF H0
    generalize (chkW l).1 = er at *
    generalize (((chkW l).2 : Nat) : Int) = at0 at *
    go_wp2_with fail
    go_region
    go_wp2_with fail
    exact rall_post w.heap.size _ er at0 rfl rfl rfl HMM.out (HO.out _ (below_drewN HBB.out 1))
end Go.Proofs.Ytjllbklkaalafaa
