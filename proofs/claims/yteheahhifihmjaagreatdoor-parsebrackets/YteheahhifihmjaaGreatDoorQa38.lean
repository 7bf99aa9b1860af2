/- Regions whose values are known beforehand, where a slot that is read first is written last. It speaks of no program. -/
import Derived.Test.YteheahhifihmjaaGreatDoorQa14
import Derived.Test.YteheahhifihmjaaGreatDoorQa37
namespace Go.Proofs.YteheahhifihmjaaGreatDoor
open Go Go.RowKit
section
variable {P : Program} {ops : Array Oper} {Q : Exit → Act → World → Prop} {id : Nat} {a0 : Act} {w : World}

/-- Only this operation writes the slot. -/
def onlyAt (ops : Array Oper) (s k : Nat) : Bool := (List.range ops.size).all fun j => j == k || (match ops[j]? with | none => true | some o => o.dst != some s)
theorem only_ne {s k j : Nat} {o : Oper} (h : onlyAt ops s k = true) (ho : ops[j]? = some o) (hj : j ≠ k) : o.dst ≠ some s := by
  have h1 := List.all_eq_true.1 h j (by simpa using (Array.getElem?_eq_some_iff.1 ho).1)
  rw [ho] at h1
  simpa [hj] using h1
def StepW (P : Program) (ops : Array Oper) (Q : Exit → Act → World → Prop) (ds : List (Nat × Value)) (a0 : Act) (w : World) : Prop :=
  ∀ (i s : Nat) (v : Value) (o : Oper) (L : Nat → Bool) (A : Act) (W : World), ops[i]? = some o → ds[i]? = some (s, v) → (∀ e ∈ o.after, Region.binds .any e = true → L e.on = true) → Below w.heap.size w W →
    (∀ s, notDst ops s = true → A.tmps.getD s undef = a0.tmps.getD s undef) → (∀ (j s : Nat) (u : Value), ds[j]? = some (s, u) → L j = true → A.tmps.getD s undef = u) →
    L i = false → (∀ (j : Nat) (p : Oper), ops[j]? = some p → L j = true → ∀ e ∈ p.after, Region.binds .any e = true → L e.on = true) → (∀ s k, onlyAt ops s k = true → L k = false → A.tmps.getD s undef = a0.tmps.getD s undef) →
    wpOp P ops Q i (fun a' W' => a' = A.put (some s) v ∧ Below W.heap.size W W') A W
theorem wp_region_wals (hm : P.follows .mixedOrders = true) (hback : backB ops = true) (hdst : dstB ops = true) (hin : inB ops a0.tmps.size = true) (ds : List (Nat × Value))
    (hds : (ops.toList.take ops.size).map (fun o => o.dst) = ds.map (fun p => some p.1)) (hnd : decide (((ops.toList.take ops.size).map (fun o => o.dst)).Nodup) = true)
    (hstep : StepW P ops Q ds a0 w) (hend : ∀ W, Below w.heap.size w W → Q .normal (putAll ds a0) W) : (Code.region id ops true).wp P Q a0 w := by
  have hnd' : (ds.map (fun p => some p.1)).Nodup := by rw [← hds]; exact of_decide_eq_true hnd
  refine wp_region_flow hm hback hdst hin (fun L _ W => Below w.heap.size w W ∧ ∀ (j : Nat) (p : Oper), ops[j]? = some p → L j = true → ∀ e ∈ p.after, Region.binds .any e = true → L e.on = true) (fun j x _ => ∀ s v, ds[j]? = some (s, v) → x = v) ?_ ?_ ?_
  · intro L h
    refine ⟨(Below.refl _ _).drew, fun j p hp hj => ?_⟩
    have := h j (Array.getElem?_eq_some_iff.1 hp).1
    rw [this] at hj; cases hj
  · rintro i o L A W ho hLi hdep ⟨hJ, hc⟩ hdef hkept hhas
    have hi : i < ops.size := (Array.getElem?_eq_some_iff.1 ho).1
    obtain ⟨s, v, hv⟩ := at_dst hds hi ho
    have hd := dst_at hds ho hv
    have hc' : ∀ (j : Nat) (p : Oper), ops[j]? = some p → (decide (i = j) || L j) = true → ∀ e ∈ p.after, Region.binds .any e = true → (decide (i = e.on) || L e.on) = true := by
      intro j p hp hj e he hb
      by_cases hij : i = j
      · subst hij
        rw [ho] at hp
        cases hp
        rw [hdep e he hb]; simp
      · rw [hc j p hp (by simpa [hij] using hj) e he hb]; simp
    refine wpOp_mono ?_ (hstep i s v o L A W ho hv hdep hJ (fun s' h => hkept s' fun j p hp _ => nd h j p hp) (fun j s' u hj hL => ?_) hLi hc (fun s' k h hk => hkept s' fun j p hp hj => ?_))
    · rintro a' W' ⟨rfl, hb⟩
      exact ⟨v, by rw [hd], fun _ s' v' h => by rw [hv] at h; cases h; rfl, fun _ _ _ h => h, hJ.trans (hb.mono hJ.size), hc'⟩
    · have hj' : j < ds.length := (List.getElem?_eq_some_iff.1 hj).1
      have hl : ds.length = ops.size := by have := congrArg List.length hds; simpa using this.symm
      obtain ⟨p, hp⟩ : ∃ p, ops[j]? = some p := ⟨ops[j]'(by omega), Array.getElem?_eq_getElem _⟩
      exact hhas j p hp hL s' (dst_at hds hp hj) s' u hj
    · exact only_ne h hp (fun e => by rw [e, hk] at hj; cases hj)
  · intro L A W hL hJ hdef hsize hkept hhas
    have : A = putAll ds a0 := act_is ds hdef hsize hnd' (fun s h => hkept s fun j p hp e => ?_) (fun j s v hj => ?_)
    · rw [this]; exact hend W hJ.1
    · have hi : j < ops.size := (Array.getElem?_eq_some_iff.1 hp).1
      obtain ⟨s', v, hv⟩ := at_dst hds hi hp
      have := (dst_at hds hp hv).symm.trans e
      cases this
      exact h _ (List.mem_of_getElem? hv) rfl
    · have hj' : j < ds.length := (List.getElem?_eq_some_iff.1 hj).1
      have hl : ds.length = ops.size := by have := congrArg List.length hds; simpa using this.symm
      obtain ⟨p, hp⟩ : ∃ p, ops[j]? = some p := ⟨ops[j]'(by omega), Array.getElem?_eq_getElem _⟩
      exact hhas j p hp s (dst_at hds hp hj) s v hj
end
end Go.Proofs.YteheahhifihmjaaGreatDoor

/- What the law's own bare comes to: rules with what their kinds have alone, in blocks of the call's own. -/
namespace Go.Proofs.YteheahhifihmjaaGreatDoor
open Go.RowKit Lx

/-- So many values, one by one. -/
structure Fc23 (l : List Value) where
  (u0 u1 u2 u3 u4 u5 u6 u7 u8 u9 u10 u11 u12 u13 u14 u15 u16 u17 u18 u19 u20 u21 u22 : Value)
  eq : l = [u0, u1, u2, u3, u4, u5, u6, u7, u8, u9, u10, u11, u12, u13, u14, u15, u16, u17, u18, u19, u20, u21, u22]
set_option maxRecDepth 100000 in
theorem fc23 (l : List Value) (hl : l.length = 23) : Nonempty (Fc23 l) := allL 23 (fun l => Nonempty (Fc23 l)) (fun u0 u1 u2 u3 u4 u5 u6 u7 u8 u9 u10 u11 u12 u13 u14 u15 u16 u17 u18 u19 u20 u21 u22 => ⟨⟨u0, u1, u2, u3, u4, u5, u6, u7, u8, u9, u10, u11, u12, u13, u14, u15, u16, u17, u18, u19, u20, u21, u22, rfl⟩⟩) l hl

theorem rowR_keep {w0 w w' : World} {v : Value} {us : List (Ru × Value)} (h : RowR w0 w v us) (hk : ∀ k, w0.heap.size ≤ k → k < w.heap.size → w'.heap[k]? = w.heap[k]?) : RowR w0 w' v us := by
  refine ⟨?_, fun p hp => ?_⟩
  · obtain ⟨h1, h2⟩ := h.own
    refine ⟨h1, ?_⟩
    rcases h2 with h2 | ⟨g, cap, cur, hv, hg, hh, r⟩
    · exact .inl h2
    · exact .inr ⟨g, cap, cur, hv, hg, (hk g hg (lt_of_block hh)).trans hh, r⟩
  · obtain ⟨d, hd⟩ := h.kids p hp
    exact ⟨d, hd.kept hk⟩
/-- What a value of the region is, once it is there. -/
def lsp (w : World) (n3 b5 : Nat) (vr sk : Value) (x : List UInt8) (k : Ex) (done : List (Ru × Value)) (q : Nat) (v : Value) (W : World) : Prop := match q with
  | 0 => v = vr
  | 1 => v = .pointer (some ⟨b5, 0, none⟩)
  | 2 => v = .string ⟨x.toArray⟩
  | 3 => v = .pointer (some ⟨b5, 1, none⟩)
  | 4 => v = exV k sk
  | 5 => ∃ (p : Option Addr) (c dd : Nat), v = exV (bareE k) (.slice p k.kids.length c) ∧ KidsAt (fun q => n3 ≤ q) dd W (.slice p k.kids.length c) (bareE k).kids
  | 6 => ∃ (p : Option Addr) (c dd : Nat), v = .agg #[.string ⟨x.toArray⟩, .int .i64 (bareE k).kind, .int .i64 (bareE k).a, .int .i64 (bareE k).b, .string ⟨(bareE k).name.toArray⟩, .slice p k.kids.length c] ∧ KidsAt (fun q => n3 ≤ q) dd W (.slice p k.kids.length c) (bareE k).kids
  | 7 => ∃ (g4 : Nat) (p : Option Addr) (c dd : Nat), v = .slice (some ⟨g4, 0, none⟩) 1 1 ∧ n3 ≤ g4 ∧ W.heap[g4]? = some (.cells #[.string ⟨x.toArray⟩, .int .i64 (bareE k).kind, .int .i64 (bareE k).a, .int .i64 (bareE k).b, .string ⟨(bareE k).name.toArray⟩, .slice p k.kids.length c] 40 (0, 0)) ∧ KidsAt (fun q => n3 ≤ q) dd W (.slice p k.kids.length c) (bareE k).kids
  | 8 => ∃ (p : Option Addr) (c : Nat), RowR w W v (done ++ [((x, bareE k), .slice p k.kids.length c)])
  | 9 => ∃ (p : Option Addr) (c : Nat), RowR w W v (done ++ [((x, bareE k), .slice p k.kids.length c)])
  | _ => True
theorem lsp_kept {w : World} {n3 b5 : Nat} {vr sk : Value} {x : List UInt8} {k : Ex} {done : List (Ru × Value)} {W W' : World} (h3 : ∀ q, n3 ≤ q → q < W.heap.size → W'.heap[q]? = W.heap[q]?) : ∀ (q : Nat) (v : Value), (q = 8 ∨ q = 9 → ∀ q, w.heap.size ≤ q → q < W.heap.size → W'.heap[q]? = W.heap[q]?) → lsp w n3 b5 vr sk x k done q v W → lsp w n3 b5 vr sk x k done q v W'
  | 0, _, _, h => h
  | 1, _, _, h => h
  | 2, _, _, h => h
  | 3, _, _, h => h
  | 4, _, _, h => h
  | 5, _, _, h => by
    obtain ⟨p, c, dd, h1, h2⟩ := h
    exact ⟨p, c, dd, h1, h2.kept h3⟩
  | 6, _, _, h => by
    obtain ⟨p, c, dd, h1, h2⟩ := h
    exact ⟨p, c, dd, h1, h2.kept h3⟩
  | 7, _, _, h => by
    obtain ⟨g4, p, c, dd, h1, hg, hh, h2⟩ := h
    exact ⟨g4, p, c, dd, h1, hg, (h3 g4 hg (lt_of_block hh)).trans hh, h2.kept h3⟩
  | 8, _, h5, h => by
    obtain ⟨p, c, h⟩ := h
    exact ⟨p, c, rowR_keep h (h5 (.inl rfl))⟩
  | 9, _, h5, h => by
    obtain ⟨p, c, h⟩ := h
    exact ⟨p, c, rowR_keep h (h5 (.inr rfl))⟩
  | _ + 10, _, _, _ => trivial
/-- What is said of the world while the region's operations are done. -/
structure LJ (w : World) (n3 b5 : Nat) (x : List UInt8) (k : Ex) (ps : Option Addr) (cs : Nat) (vr : Value) (done : List (Ru × Value)) (L : Nat → Bool) (W : World) : Prop where
  bel : Below w.heap.size w W
  sz : n3 ≤ W.heap.size
  d8 : L 8 = true → L 0 = true
  d9 : L 9 = true → L 8 = true
  rule : W.heap[b5]? = some (.cells #[.string ⟨x.toArray⟩, .int .i64 k.kind, .int .i64 k.a, .int .i64 k.b, .string ⟨k.name.toArray⟩, .slice ps k.kids.length cs] 40 (0, 0))
  row0 : L 8 = false → RowR w W vr done
theorem LJ.step {w : World} {n3 b5 : Nat} {x : List UInt8} {k : Ex} {ps : Option Addr} {cs : Nat} {vr : Value} {done : List (Ru × Value)} {L : Nat → Bool} {W W' : World} {q : Nat} (h : LJ w n3 b5 x k ps cs vr done L W) (hb : Below W.heap.size W W') (h8 : q ≠ 8) (h9 : q = 9 → L 8 = true) : LJ w n3 b5 x k ps cs vr done (fun i => decide (q = i) || L i) W' := by
  have e8 : (decide (q = 8) || L 8) = L 8 := by simp [h8]
  refine ⟨h.bel.trans (hb.mono h.bel.size), Nat.le_trans h.sz hb.size, fun hh => ?_, fun hh => ?_, (hb.block _ (lt_of_block h.rule)).trans h.rule, fun hh => ?_⟩ <;> simp only [e8] at *
  · rw [h.d8 hh]; simp
  · by_cases hq : q = 9
    · exact h9 hq
    · exact h.d9 (by simpa [hq] using hh)
  · exact rowR_keep (h.row0 hh) fun k _ hl => hb.block k hl
def LRel (w : World) (us : List (Ru × Value)) (v t : Value) (wr : World) : Prop := ∃ (j : Nat) (done : List (Ru × Value)), t = .int .i64 (j : Int) ∧ j ≤ us.length ∧ Below w.heap.size w wr ∧ RowR w wr v done ∧ done.map (fun p => p.1) = (us.take j).map (fun p => bareR p.1)
/-- What bare comes to. -/
def OutLB (us : List (Ru × Value)) (w : World) (r : Ending) (w' : World) : Prop := ∃ (vr : Value) (us' : List (Ru × Value)), r = .returned vr ∧ RowR w w' vr us' ∧ us'.map (fun p => p.1) = (us.map (fun p => p.1)).map bareR ∧ Below w.heap.size w w'
set_option maxRecDepth 100000 in
set_option maxHeartbeats 8000000 in
theorem lbare_any (us : List (Ru × Value)) (v : Value) (w : World) (h : InR w v us) (hA : ∀ p ∈ us, allA p.1.2 = true) (h40 : us.length ≤ 40) : Calls Tryz.prog 10 #[v] w (OutLB us w) := by
  have hform : ∃ p c, v = .slice p us.length c := by
    rcases h.row with ⟨rfl, p, c, hv⟩ | ⟨g, o, c, hv, _⟩
    · exact ⟨p, c, hv⟩
    · exact ⟨_, c, hv⟩
  obtain ⟨pv, cv, hv⟩ := hform
  have HK : Hid (∀ (j : Nat) (p : Ru × Value), us[j]? = some p → ∃ g o : Nat, pv = some ⟨g, o, none⟩ ∧
      w.cell? ⟨g, o + j * 6, none⟩ = some (.string ⟨p.1.1.toArray⟩) ∧ w.cell? ⟨g, o + j * 6 + 1, none⟩ = some (.int .i64 p.1.2.kind) ∧ w.cell? ⟨g, o + j * 6 + 2, none⟩ = some (.int .i64 p.1.2.a) ∧ w.cell? ⟨g, o + j * 6 + 3, none⟩ = some (.int .i64 p.1.2.b) ∧
      w.cell? ⟨g, o + j * 6 + 4, none⟩ = some (.string ⟨p.1.2.name.toArray⟩) ∧ w.cell? ⟨g, o + j * 6 + 5, none⟩ = some p.2) := fun j p hj => by
    rcases h.row with ⟨h0, _⟩ | ⟨g, o, c, hv', hl, hc⟩
    · rw [h0] at hj; simp at hj
    · rw [hv] at hv'
      injection hv' with e1
      exact ⟨g, o, e1, hc j p hj⟩
  have HI : Hid (∀ p ∈ us, ∃ d, KidsB (fun k => k < w.heap.size) d w p.2 p.1.2.kids) := fun p hp => (h.all p hp).2.2
  have HA : Hid (∀ p ∈ us, allA p.1.2 = true) := hA
  have hkI : (us.length : Int) ≤ 40 := by omega
  obtain ⟨i0, hi, hz0, hz1, hz2⟩ := info_parts ruleInfo
  subst hv
  clear h hA
  go_enter Tryz.func10, Tryz.ntmps10
  go_wp2_with fail
  go_loopw [3, 5, 8] (fun q _ t wr => LRel w us q t wr) (fun _ _ t _ => us.length - (intOf t).toNat)
  case atStart => exact ⟨0, [], rfl, by omega, Below.refl _ _, ⟨World.ownsRow_nil _ _ _ _, fun p hp => by cases hp⟩, rfl⟩
  case round =>
    obtain ⟨j, done, rfl, hj, hbr, hrow, hmap⟩ := hrel
    have hj0 : (0 : Int) ≤ (j : Int) := by omega
    have hdl : done.length = j := by
      have := congrArg List.length hmap
      simp only [List.length_map, List.length_take] at this
      omega
    by_cases hlt : j < us.length
    · have hlt' : (j : Int) < (us.length : Int) := by omega
      obtain ⟨⟨⟨x, k⟩, sk⟩, hjk⟩ : ∃ p, us[j]? = some p := ⟨us[j], List.getElem?_eq_getElem hlt⟩
      obtain ⟨g, o, hpe, c0, c1, c2, c3, c4, c5⟩ := HK.out j _ hjk
      obtain ⟨dk, hkk⟩ := HI.out _ (List.mem_of_getElem? hjk)
      have hAk := HA.out _ (List.mem_of_getElem? hjk)
      dsimp only at c0 c1 c2 c3 c4 c5 hkk hAk
      obtain ⟨ps, cs, rfl⟩ := hkk.form
      have HM : Hid ((us.take (j + 1)).map (fun p => bareR p.1) = done.map (fun p => p.1) ++ [(x, bareE k)]) := by
        show _ = _
        obtain ⟨h1, h2⟩ := List.getElem?_eq_some_iff.1 hjk
        rw [List.take_succ_eq_append_getElem h1, h2, List.map_append, hmap]
        rfl
      have Hpe : Hid (pv = some ⟨g, o, none⟩) := hpe
      subst hpe
      have d0 := (hbr.cell (block_lt_of_cell c0)).trans c0
      have d1 := (hbr.cell (block_lt_of_cell c1)).trans c1
      have d2 := (hbr.cell (block_lt_of_cell c2)).trans c2
      have d3 := (hbr.cell (block_lt_of_cell c3)).trans c3
      have d4 := (hbr.cell (block_lt_of_cell c4)).trans c4
      have d5 := (hbr.cell (block_lt_of_cell c5)).trans c5
      have hbA := hbr.alloc hbr.size (.cells #[.string ⟨x.toArray⟩, .int .i64 k.kind, .int .i64 k.a, .int .i64 k.b, .string ⟨k.name.toArray⟩, .slice ps k.kids.length cs] 40)
      have bA := (Below.refl wr.heap.size wr).alloc (Nat.le_refl _) (.cells #[.string ⟨x.toArray⟩, .int .i64 k.kind, .int .i64 k.a, .int .i64 k.b, .string ⟨k.name.toArray⟩, .slice ps k.kids.length cs] 40)
      have hxB := heap_alloc_new wr (.cells #[.string ⟨x.toArray⟩, .int .i64 k.kind, .int .i64 k.a, .int .i64 k.b, .string ⟨k.name.toArray⟩, .slice ps k.kids.length cs] 40)
      have hrowA := rowR_keep (w' := wr.alloc (.cells #[.string ⟨x.toArray⟩, .int .i64 k.kind, .int .i64 k.a, .int .i64 k.b, .string ⟨k.name.toArray⟩, .slice ps k.kids.length cs] 40)) hrow fun k _ hl => bA.block k hl
      have hszA : (wr.alloc (.cells #[.string ⟨x.toArray⟩, .int .i64 k.kind, .int .i64 k.a, .int .i64 k.b, .string ⟨k.name.toArray⟩, .slice ps k.kids.length cs] 40)).heap.size = wr.heap.size + 1 := by simp
      have hlo := hrow.own.lt
      have hwl : w.heap.size ≤ wr.heap.size := hbr.size
      obtain ⟨vr, hvr⟩ : ∃ vr, u3 = vr := ⟨_, rfl⟩
      obtain ⟨pr, cr, hrf⟩ := row_form hrow.own
      have Hrf : Hid (u3 = .slice pr done.length cr) := hrf
      clear hmap hjk c0 c1 c2 c3 c4 c5 hbr hrow bA hrf
      subst hvr
      generalize hw3 : wr.alloc (.cells #[.string ⟨x.toArray⟩, .int .i64 k.kind, .int .i64 k.a, .int .i64 k.b, .string ⟨k.name.toArray⟩, .slice ps k.kids.length cs] 40) = w3 at *
      go_wp2_with fail
      clear d0 d1 d2 d3 d4 d5 hw3
      obtain ⟨vr, hvr⟩ : ∃ vr, u3 = vr := ⟨_, rfl⟩
      subst hvr
      refine wp_region_flow (by kernel_rfl) (by kernel_rfl) (by kernel_rfl) (by kernel_rfl) (fun L _ W => LJ w (wr.heap.size + 1) wr.heap.size x k ps cs u3 done L W) (fun q y W => lsp w (wr.heap.size + 1) wr.heap.size u3 (.slice ps k.kids.length cs) x k done q y W) ?_ ?_ ?_
      · intro L hL
        have l8 := hL 8 (by decide)
        have l9 := hL 9 (by decide)
        exact ⟨hbA.drew, by show wr.heap.size + 1 ≤ w3.heap.size; omega, fun h => (by rw [l8] at h; cases h), fun h => (by rw [l9] at h; cases h), hxB, fun _ => rowR_keep hrowA fun _ _ _ => rfl⟩
      · intro q o' L A W ho hLi hdep hJ hdef hkept hhas
        clear hdef
        have fin : ∀ (y : Value) (ds : Nat) (W' : World), Below W.heap.size W W' → q ≠ 8 → (q = 9 → L 8 = true) → lsp w (wr.heap.size + 1) wr.heap.size u3 (.slice ps k.kids.length cs) x k done q y W' → ∃ u, A.put (some ds) y = A.put (some ds) u ∧ (some ds ≠ none → lsp w (wr.heap.size + 1) wr.heap.size u3 (.slice ps k.kids.length cs) x k done q u W') ∧ (∀ i x', L i = true → lsp w (wr.heap.size + 1) wr.heap.size u3 (.slice ps k.kids.length cs) x k done i x' W → lsp w (wr.heap.size + 1) wr.heap.size u3 (.slice ps k.kids.length cs) x k done i x' W') ∧ LJ w (wr.heap.size + 1) wr.heap.size x k ps cs u3 done (fun i => decide (q = i) || L i) W' := by
          intro y ds W' hb q8 q9 hv
          exact ⟨y, rfl, fun _ => hv, fun i x' _ h => lsp_kept (fun q _ hl => hb.block q hl) i x' (fun _ q _ hl => hb.block q hl) h, hJ.step hb q8 q9⟩
        have s5 : A.tmps[5]?.getD undef = .pointer (some ⟨wr.heap.size, 0, none⟩) := (gd A 5).trans (hkept 5 (fun j p hp _ => nd (by kernel_rfl) j p hp))
        have r0 := (cell_of_row _ _ 0 _ _ _ hJ.rule).trans rfl
        have r1 := (cell_of_row _ _ 1 _ _ _ hJ.rule).trans rfl
        have r2 := (cell_of_row _ _ 2 _ _ _ hJ.rule).trans rfl
        have r3 := (cell_of_row _ _ 3 _ _ _ hJ.rule).trans rfl
        have r4 := (cell_of_row _ _ 4 _ _ _ hJ.rule).trans rfl
        have r5 := (cell_of_row _ _ 5 _ _ _ hJ.rule).trans rfl
        match q, ho with
        | 0, ho =>
          cases Option.some.inj ho
          have l9 : L 9 = false := by
            cases h : L 9 with
            | false => rfl
            | true => rw [hJ.d8 (hJ.d9 h)] at hLi; cases hLi
          have s3 : A.tmps[3]?.getD undef = u3 := (gd A 3).trans (hkept 3 (fun j p hp hj => only_ne (k := 9) (by kernel_rfl) hp (fun e => by rw [e, l9] at hj; cases hj)))
          refine wpOp_step rfl (fun K hK' => ?_)
          go_simp
          exact hK' _ _ (fin _ 12 _ (Below.refl _ _) (by decide) (fun h => absurd h (by decide)) rfl)
        | 1, ho =>
          cases Option.some.inj ho
          refine wpOp_step rfl (fun K hK' => ?_)
          go_simp
          exact hK' _ _ (fin _ 13 _ (Below.refl _ _) (by decide) (fun h => absurd h (by decide)) rfl)
        | 2, ho =>
          cases Option.some.inj ho
          have s13 : A.tmps[13]?.getD undef = .pointer (some ⟨wr.heap.size, 0, none⟩) := gdv (hhas 1 _ rfl (hdep ⟨1, .data⟩ (by simp) rfl) 13 rfl)
          refine wpOp_step rfl (fun K hK' => ?_)
          go_simp
          exact hK' _ _ (fin _ 14 _ (Below.refl _ _) (by decide) (fun h => absurd h (by decide)) rfl)
        | 3, ho =>
          cases Option.some.inj ho
          refine wpOp_step rfl (fun K hK' => ?_)
          go_simp
          exact hK' _ _ (fin _ 15 _ (Below.refl _ _) (by decide) (fun h => absurd h (by decide)) rfl)
        | 4, ho =>
          cases Option.some.inj ho
          have s15 : A.tmps[15]?.getD undef = .pointer (some ⟨wr.heap.size, 1, none⟩) := gdv (hhas 3 _ rfl (hdep ⟨3, .data⟩ (by simp) rfl) 15 rfl)
          refine wpOp_step rfl (fun K hK' => ?_)
          go_simp
          exact hK' _ _ (fin _ 16 _ (Below.refl _ _) (by decide) (fun h => absurd h (by decide)) rfl)
        | 5, ho =>
          cases Option.some.inj ho
          have s16 : A.tmps[16]?.getD undef = exV k (.slice ps k.kids.length cs) := gdv (hhas 4 _ rfl (hdep ⟨4, .data⟩ (by simp) rfl) 16 rfl)
          have hbl := hJ.bel
          have cW := rbare_any dk k (.slice ps k.kids.length cs) W ((hkk.kept fun q _ hl => hbl.block q hl).mono fun q hq => Nat.lt_of_lt_of_le hq hbl.size) hAk
          have hsW := hJ.sz
          refine wpOp_step rfl (fun K hK' => ?_)
          go_simp
          refine cW.mono ?_
          rintro e' W' ⟨p, c, dd, rfl, hkd, hb⟩
          exact hK' _ _ (fin _ 17 _ hb (by decide) (fun h => absurd h (by decide)) ⟨p, c, dd, rfl, hkd.mono fun q hq => Nat.le_trans hsW hq⟩)
        | 6, ho =>
          cases Option.some.inj ho
          obtain ⟨p, c, dd, sr', hkd⟩ := (show lsp w (wr.heap.size + 1) wr.heap.size u3 (.slice ps k.kids.length cs) x k done 5 (A.tmps.getD 17 undef) W from hhas 5 _ rfl (hdep ⟨5, .data⟩ (by simp) rfl) 17 rfl)
          have s17 : A.tmps[17]?.getD undef = exV (bareE k) (.slice p k.kids.length c) := gdv sr'
          have s14 : A.tmps[14]?.getD undef = .string ⟨x.toArray⟩ := gdv (hhas 2 _ rfl (hdep ⟨2, .data⟩ (by simp) rfl) 14 rfl)
          unfold exV at s17
          refine wpOp_step rfl (fun K hK' => ?_)
          go_simp
          exact hK' _ _ (fin _ 18 _ (Below.refl _ _) (by decide) (fun h => absurd h (by decide)) ⟨p, c, dd, rfl, hkd⟩)
        | 7, ho =>
          cases Option.some.inj ho
          obtain ⟨p, c, dd, sr', hkd⟩ := (show lsp w (wr.heap.size + 1) wr.heap.size u3 (.slice ps k.kids.length cs) x k done 6 (A.tmps.getD 18 undef) W from hhas 6 _ rfl (hdep ⟨6, .data⟩ (by simp) rfl) 18 rfl)
          have s18 : A.tmps[18]?.getD undef = .agg #[.string ⟨x.toArray⟩, .int .i64 (bareE k).kind, .int .i64 (bareE k).a, .int .i64 (bareE k).b, .string ⟨(bareE k).name.toArray⟩, .slice p k.kids.length c] := gdv sr'
          have hsW := hJ.sz
          have hb := (Below.refl W.heap.size W).alloc (Nat.le_refl _) (.cells #[.string ⟨x.toArray⟩, .int .i64 (bareE k).kind, .int .i64 (bareE k).a, .int .i64 (bareE k).b, .string ⟨(bareE k).name.toArray⟩, .slice p k.kids.length c] 40)
          have hn := heap_alloc_new W (.cells #[.string ⟨x.toArray⟩, .int .i64 (bareE k).kind, .int .i64 (bareE k).a, .int .i64 (bareE k).b, .string ⟨(bareE k).name.toArray⟩, .slice p k.kids.length c] 40)
          refine wpOp_step rfl (fun K hK' => ?_)
          go_simp
          exact hK' _ _ (fin _ 19 _ hb (by decide) (fun h => absurd h (by decide)) ⟨W.heap.size, p, c, dd, rfl, hsW, hn, hkd.kept fun q _ hl => hb.block q hl⟩)
        | 8, ho =>
          cases Option.some.inj ho
          have l7 := hdep ⟨7, .data⟩ (by simp) rfl
          have l0 := hdep ⟨0, .data⟩ (by simp) rfl
          have l9 : L 9 = false := by
            cases h : L 9 with
            | false => rfl
            | true => rw [hJ.d9 h] at hLi; cases hLi
          obtain ⟨g4, p, c, dd, sr', hg4, hh4, hkd⟩ := (show lsp w (wr.heap.size + 1) wr.heap.size u3 (.slice ps k.kids.length cs) x k done 7 (A.tmps.getD 19 undef) W from hhas 7 _ rfl l7 19 rfl)
          have s19 : A.eval (.tmp 19) = .slice (some ⟨g4, 0, none⟩) 1 1 := sr'
          have s12 : A.eval (.tmp 12) = u3 := hhas 0 _ rfl l0 12 rfl
          have hrowW := hJ.row0 hLi
          have hown := hrowW.own
          have hsW := hJ.sz
          have hbl := hJ.bel
          have hkd' : KidsAt (fun q => w.heap.size ≤ q) dd W (.slice p k.kids.length c) (bareE k).kids := hkd.mono fun q hq => by omega
          refine wpOp_step rfl (fun K hK' => ?_)
          show Oper.wp _ _ _ _ _ _
          refine wp_append_at _ _ 22 rfl w.heap.size 40 i0 (.agg #[.string ⟨#[]⟩, .int .i64 0, .int .i64 0, .int .i64 0, .string ⟨#[]⟩, .slice none 0 0]) 6 80 rulesType hi hz0 hz1 hz2 rfl (by decide) u3 done.length (flatR done) s12 hown ⟨g4, 0, none⟩ 1 1 [.string ⟨x.toArray⟩, .int .i64 (bareE k).kind, .int .i64 (bareE k).a, .int .i64 (bareE k).b, .string ⟨(bareE k).name.toArray⟩, .slice p k.kids.length c] s19 rfl ?c1 ?c2 ?c3 ?c4 ?c5 ?_
          case c1 =>
            intro i u' hi'
            match i, hi' with
            | 0, hi' => simp at hi'; subst hi'; exact (cell_of_row _ _ _ _ _ _ hh4).trans rfl
            | 1, hi' => simp at hi'; subst hi'; exact (cell_of_row _ _ _ _ _ _ hh4).trans rfl
            | 2, hi' => simp at hi'; subst hi'; exact (cell_of_row _ _ _ _ _ _ hh4).trans rfl
            | 3, hi' => simp at hi'; subst hi'; exact (cell_of_row _ _ _ _ _ _ hh4).trans rfl
            | 4, hi' => simp at hi'; subst hi'; exact (cell_of_row _ _ _ _ _ _ hh4).trans rfl
            | 5, hi' => simp at hi'; subst hi'; exact (cell_of_row _ _ _ _ _ _ hh4).trans rfl
          case c2 => intro u hu; simp at hu; rcases hu with rfl | rfl | rfl | rfl | rfl | rfl <;> rfl
          case c3 => unfold maxLen; omega
          case c4 => omega
          case c5 => omega
          intro v' W' hown' hgrow hblk
          have hR : RowR w W' v' (done ++ [((x, bareE k), .slice p k.kids.length c)]) := by
            refine ⟨?_, fun y hy => ?_⟩
            · rw [flatR_snoc]
              simp only [List.length_append, List.length_cons, List.length_nil, Nat.zero_add]
              exact hown'
            · rcases List.mem_append.1 hy with hy | hy
              · obtain ⟨d, hd⟩ := hrowW.kids y hy
                exact ⟨d, kids_grown hown hgrow hd⟩
              · have e : y = ((x, bareE k), .slice p k.kids.length c) := by simpa using hy
                subst e
                exact ⟨dd, kids_grown hown hgrow hkd'⟩
          have hnew : ∀ q, wr.heap.size + 1 ≤ q → q < W.heap.size → W'.heap[q]? = W.heap[q]? := fun q hq hl => hgrow.block q hl (fun e => by have := (hlo q e.symm).2; omega)
          have hruW : W'.heap[wr.heap.size]? = some (.cells #[.string ⟨x.toArray⟩, .int .i64 k.kind, .int .i64 k.a, .int .i64 k.b, .string ⟨k.name.toArray⟩, .slice ps k.kids.length cs] 40 (0, 0)) := (hgrow.block _ (lt_of_block hJ.rule) (fun e => by have := (hlo _ e.symm).2; omega)).trans hJ.rule
          refine hK' _ _ ⟨v', rfl, fun _ => ⟨p, c, hR⟩, fun i x' hi' hx' => lsp_kept hnew i x' (fun e => by rcases e with rfl | rfl <;> (first | (rw [hi'] at hLi; cases hLi) | (rw [hi'] at l9; cases l9))) hx', ?_⟩
          exact ⟨hJ.bel.grown hgrow hbl.size (fun q hq => (hlo q hq).1), Nat.le_trans hJ.sz hgrow.size, fun _ => by simp [l0], fun h => by simp [l9] at h, hruW, fun h => by simp at h⟩
        | 9, ho =>
          cases Option.some.inj ho
          have l8 := hdep ⟨8, .data⟩ (by simp) rfl
          obtain ⟨p, c, hR⟩ := (show lsp w (wr.heap.size + 1) wr.heap.size u3 (.slice ps k.kids.length cs) x k done 8 (A.tmps.getD 20 undef) W from hhas 8 _ rfl l8 20 rfl)
          obtain ⟨y, hy⟩ : ∃ y, A.tmps.getD 20 undef = y := ⟨_, rfl⟩
          rw [hy] at hR
          have s20 : A.tmps[20]?.getD undef = y := gdv hy
          refine wpOp_step rfl (fun K hK' => ?_)
          go_simp
          exact hK' _ _ (fin _ 3 _ (Below.refl _ _) (by decide) (fun _ => l8) ⟨p, c, hR⟩)
        | i + 10, ho => simp at ho
      · intro L A W hL hJ hdef hsize hkept hhas
        obtain ⟨p, c, hR⟩ := (show lsp w (wr.heap.size + 1) wr.heap.size u3 (.slice ps k.kids.length cs) x k done 9 (A.tmps.getD 3 undef) W from hhas 9 _ rfl 3 rfl)
        have hbW := hJ.bel
        obtain ⟨tt, dd'⟩ := A
        have hd' : dd' = [] := hdef
        subst hd'
        obtain ⟨q, rfl⟩ : ∃ q : List Value, tt = q.toArray := ⟨tt.toList, by simp⟩
        have hl : q.length = 23 := by
          have h : q.toArray.size = 23 := hsize
          simpa using h
        obtain ⟨⟨z0, z1, z2, z3, z4, z5, z6, z7, z8, z9, z10, z11, z12, z13, z14, z15, z16, z17, z18, z19, z20, z21, z22, rfl⟩⟩ := fc23 q hl
        have q0 : z0 = _ := hkept 0 (nd (by kernel_rfl))
        have q1 : z1 = _ := hkept 1 (nd (by kernel_rfl))
        have q2 : z2 = _ := hkept 2 (nd (by kernel_rfl))
        have q4 : z4 = _ := hkept 4 (nd (by kernel_rfl))
        have q5 : z5 = _ := hkept 5 (nd (by kernel_rfl))
        have q6 : z6 = _ := hkept 6 (nd (by kernel_rfl))
        have q7 : z7 = _ := hkept 7 (nd (by kernel_rfl))
        have q8 : z8 = _ := hkept 8 (nd (by kernel_rfl))
        have q9 : z9 = _ := hkept 9 (nd (by kernel_rfl))
        have q10 : z10 = _ := hkept 10 (nd (by kernel_rfl))
        have q11 : z11 = _ := hkept 11 (nd (by kernel_rfl))
        have q21 : z21 = _ := hkept 21 (nd (by kernel_rfl))
        have q22 : z22 = _ := hkept 22 (nd (by kernel_rfl))
        subst q0 q1 q2 q4 q5 q6 q7 q8 q9 q10 q11 q21 q22
        have hR' : RowR w W z3 (done ++ [((x, bareE k), .slice p k.kids.length c)]) := hR
        clear hsize hkept hhas hL hJ hl hrowA hxB hbA hR
        go_wp2_with fail
        go_roundw
        case rel =>
          exact ⟨z3, _, _, ⟨j + 1, done ++ [((x, bareE k), .slice p k.kids.length c)], by go_num, by omega, hbW, hR', by rw [HM.out]; simp⟩, rfl, rfl, rfl⟩
        case measure => simp [intOf]; omega
    · have hlt' : ¬ (j : Int) < (us.length : Int) := by omega
      have ej : j = us.length := by omega
      have HO : Hid (OutLB us w (.returned u3) wr) := ⟨u3, done, rfl, hrow, by rw [hmap, ej, List.take_length, List.map_map]; rfl, hbr⟩
      clear HK HI HA hrow hmap ej hdl
      go_wp2_with fail
      go_ret
      exact HO.out
end Go.Proofs.YteheahhifihmjaaGreatDoor
