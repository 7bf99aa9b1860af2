/- What rules mean on a day: plain. -/
import Derived.Test.YtllcpoibnmhghaaGreatDoorTb24
import Derived.Test.YtllcpoibnmhghaaGreatDoorTb26
import Derived.Test.YtllcpoibnmhghaaGreatDoorTb21
import Derived.Test.YtllcpoibnmhghaaGreatDoorTb23
import Derived.Deep.MidRow
import Derived.Test.YtllcpoibnmhghaaGreatDoorTb04
import Derived.Below
namespace Go.Proofs.YtllcpoibnmhghaaGreatDoor
open Go.RowKit Lx

/-- No minute. -/
def nev : Nat → Bool := fun _ => false
/-- What an expression of a kind means, of what its kids mean and what its name means. -/
def valK (week : Bool) (day : Int) (kind a b : Int) (nm : Nat → Bool) (ks : List (Nat → Bool)) : Nat → Bool :=
  if kind = 2 then fun i => decide (i < 1440)
  else if kind = 3 then fun i => (decide (a ≤ (i : Int)) && decide ((i : Int) < b)) && decide (i < 1440)
  else if kind = 4 then (if week = true then ks.getD 0 nev else nev)
  else if kind = 5 then (if a ≤ day ∧ day ≤ b then ks.getD 0 nev else nev)
  else if kind = 6 then fun i => (ks.getD 0 nev i || ks.getD 1 nev i) && decide (i < 1440)
  else if kind = 7 then fun i => (ks.getD 0 nev i && !ks.getD 1 nev i) && decide (i < 1440)
  else if kind = 8 then fun i => (ks.getD 0 nev i && ks.getD 1 nev i) && decide (i < 1440)
  else if kind = 9 then shf (ks.getD 0 nev) a
  else if kind = 10 then nm
  else nev
/-- What an expression means on a day, of what names mean; wk: is the day one of those of the week. -/
def valE (wk : Int → Bool) (day : Int) (env : List UInt8 → Nat → Bool) (e : Ex) : Nat → Bool := valK (wk e.a) day e.kind e.a e.b (env e.name) (e.kids.attach.map fun k => valE wk day env k.1)
  termination_by SizeOf.sizeOf e
  decreasing_by exact kid_lt k.2
theorem valE_eq (wk : Int → Bool) (day : Int) (env : List UInt8 → Nat → Bool) (e : Ex) : valE wk day env e = valK (wk e.a) day e.kind e.a e.b (env e.name) (e.kids.map (valE wk day env)) := by
  rw [valE]
  congr 1
  have h := congrArg (List.map (valE wk day env)) (List.attach_map_subtype_val e.kids)
  rw [List.map_map] at h
  exact h
/-- Only what is spoken of matters. -/
theorem valE_congr {wk : Int → Bool} {day : Int} {env env' : List UInt8 → Nat → Bool} : ∀ (N : Nat) (e : Ex), SizeOf.sizeOf e ≤ N → (∀ x ∈ nms e, env x = env' x) → valE wk day env e = valE wk day env' e
  | 0, e, hN, _ => by cases e; simp at hN
  | N + 1, e, hN, h => by
    rw [valE_eq, valE_eq]
    have hk : e.kids.map (valE wk day env) = e.kids.map (valE wk day env') := List.map_congr_left fun k hk => valE_congr N k (by have := kid_lt hk; omega) fun x hx => h x (by
      rw [nms_eq, List.mem_append]
      right
      unfold nmsL
      exact List.mem_flatten.2 ⟨nms k, List.mem_map.2 ⟨k, hk, rfl⟩, hx⟩)
    rw [hk]
    by_cases h10 : e.kind = 10
    · rw [h e.name (by rw [nms_eq, if_pos h10]; simp)]
    · unfold valK
      simp only [if_neg h10]
/-- What a rule means, so many references deep. -/
def meanF (l : List Ru) (wk : Int → Bool) (day : Int) : Nat → Nat → Nat → Bool
  | 0, _ => nev
  | f + 1, i => match l[i]? with
    | some u => valE wk day (fun x => meanF l wk day f (atP5 l x).toNat) u.2
    | none => nev
/-- How many rules it refers to. -/
def muR (l : List Ru) (i : Nat) : Nat := (usesL l (i : Int)).length
theorem mkL_nodup (m : Nat → Bool) (n : Nat) : (mkL m n).Nodup := by
  unfold mkL
  have h : ((List.range n).filter m).Nodup := List.nodup_range.filter m
  rw [List.nodup_iff_pairwise_ne, List.pairwise_map]
  exact (List.nodup_iff_pairwise_ne.1 h).imp fun hab e => hab (by omega)
theorem uses_nodup (l : List Ru) (r : Int) : (usesL l r).Nodup := by
  unfold usesL
  split
  · exact List.nodup_nil
  · exact mkL_nodup _ _
theorem nd_len : ∀ (l m : List Int), l.Nodup → (∀ x ∈ l, x ∈ m) → l.length ≤ m.length
  | [], _, _, _ => Nat.zero_le _
  | x :: l, m, hnd, hs => by
    have h1 := List.nodup_cons.1 hnd
    have ih := nd_len l (m.erase x) h1.2 fun y hy => by
      have hne : y ≠ x := fun e => by
        subst e
        exact h1.1 hy
      exact (List.mem_erase_of_ne hne).2 (hs y (List.mem_cons_of_mem _ hy))
    have hx := hs x List.mem_cons_self
    rw [List.length_erase_of_mem hx] at ih
    have := List.length_pos_of_mem hx
    simp only [List.length_cons]
    omega
theorem muR_lt {l : List Ru} (h : (chkW l).1 = 0) {i j : Nat} (hi : i < l.length) (hj : j ∈ leadS l i) : muR l j < muR l i := by
  obtain ⟨_, hno⟩ := chk_lk2 h
  have hjl := leadS_lt hno i j hj
  have hE : (leadS l i).contains j = true := by simpa using hj
  have hsub : ∀ x ∈ (j : Int) :: usesL l (j : Int), x ∈ usesL l (i : Int) := fun x hx => by
    rcases List.mem_cons.1 hx with rfl | hx
    · exact (uses_mem h hi).2 ⟨j, rfl, hjl, way_step.2 (.inl hE)⟩
    · obtain ⟨k, rfl, hk, hw⟩ := (uses_mem h hjl).1 hx
      exact (uses_mem h hi).2 ⟨k, rfl, hk, way_step.2 (.inr ⟨j, hE, hw⟩)⟩
  have hnd : ((j : Int) :: usesL l (j : Int)).Nodup := List.nodup_cons.2 ⟨fun hm => (uses_ok h hjl hm).2.2 rfl, uses_nodup l _⟩
  have := nd_len _ _ hnd hsub
  simp only [List.length_cons] at this
  unfold muR
  omega
theorem lead_of_name {l : List Ru} (_ : (chkW l).1 = 0) {i : Nat} {u : Ru} (hu : l[i]? = some u) {x : List UInt8} (hx : x ∈ nms u.2) : (atP5 l x).toNat ∈ leadS l i := by
  rw [leadS_at hu]
  unfold natsOf spkR
  exact List.mem_map.2 ⟨atP5 l x, (spoken_mem _ _).2 (.inr ⟨x, hx, rfl⟩), rfl⟩
theorem meanF_same {l : List Ru} {wk : Int → Bool} {day : Int} (h : (chkW l).1 = 0) : ∀ (f f' i : Nat), i < l.length → muR l i < f → muR l i < f' → meanF l wk day f i = meanF l wk day f' i
  | 0, _, _, _, a, _ => by omega
  | _ + 1, 0, _, _, _, b => by omega
  | f + 1, f' + 1, i, hi, a, b => by
    obtain ⟨u, hu⟩ : ∃ u, l[i]? = some u := ⟨l[i], List.getElem?_eq_getElem hi⟩
    obtain ⟨_, hno⟩ := chk_lk2 h
    rw [meanF, meanF, hu]
    dsimp only
    refine valE_congr _ u.2 (Nat.le_refl _) fun x hx => ?_
    have hj := lead_of_name h hu hx
    have hlt := muR_lt h hi hj
    exact meanF_same h f f' _ (leadS_lt hno i _ hj) (by omega) (by omega)
theorem uses_len' (l : List Ru) (r : Int) : (usesL l r).length ≤ l.length := by
  unfold usesL
  split
  · exact Nat.zero_le _
  · exact mkL_len _ _
/-- What a rule means. -/
def meanP (l : List Ru) (wk : Int → Bool) (day : Int) (i : Nat) : Nat → Bool := meanF l wk day (l.length + 1) i
theorem meanP_eq {l : List Ru} {wk : Int → Bool} {day : Int} (h : (chkW l).1 = 0) {i : Nat} {u : Ru} (hu : l[i]? = some u) : meanP l wk day i = valE wk day (fun x => meanP l wk day (atP5 l x).toNat) u.2 := by
  have hi : i < l.length := (List.getElem?_eq_some_iff.1 hu).1
  obtain ⟨_, hno⟩ := chk_lk2 h
  have hmu : ∀ j, muR l j ≤ l.length := fun j => uses_len' l (j : Int)
  have e : meanP l wk day i = valE wk day (fun x => meanF l wk day l.length (atP5 l x).toNat) u.2 := by
    unfold meanP
    rw [meanF, hu]
  rw [e]
  refine valE_congr _ u.2 (Nat.le_refl _) fun x hx => ?_
  have hj := lead_of_name h hu hx
  have hlt := muR_lt h hi hj
  have := hmu i
  have := hmu (atP5 l x).toNat
  exact meanF_same h _ _ _ (leadS_lt hno i _ hj) (by omega) (by omega)
end Go.Proofs.YtllcpoibnmhghaaGreatDoor

/- Which day of the week a day is; whether a day is one of those of a guard. -/
namespace Go.Proofs.YtllcpoibnmhghaaGreatDoor
open Go.RowKit Lx
set_option maxHeartbeats 400000 in
theorem isDay6 (n : Int) (w : World) (a : 0 ≤ n) (b : n < 146097) : Calls Tryz.prog 26 #[.int .i64 n] w fun e w' => e = .returned (.bool true) ∧ w' = w := by
  go_enter Tryz.func26, Tryz.ntmps26
  go_wp2
  go_ret
  exact ⟨rfl, rfl⟩
/-- Its day of the week. -/
def wkd (n : Int) : Int := (n + 5).tmod 7
theorem wkd_eq (n : Int) (a : 0 ≤ n) : wkd n = (n + 5) % 7 := by
  unfold wkd
  rw [Int.tmod_eq_emod_of_nonneg (by omega)]
theorem wkd_ref (n : Int) (a : 0 ≤ n) : (n.tmod 7 + 5).tmod 7 = wkd n := by
  unfold wkd
  rw [Int.tmod_eq_emod_of_nonneg a, Int.tmod_eq_emod_of_nonneg (by omega), Int.tmod_eq_emod_of_nonneg (by omega)]
  omega
theorem wkd_bd (n : Int) (a : 0 ≤ n) : 0 ≤ wkd n ∧ wkd n < 7 := by
  rw [wkd_eq n a]
  omega
set_option maxHeartbeats 400000 in
theorem week6 (n : Int) (w : World) (a : 0 ≤ n) (b : n < 146097) : Calls Tryz.prog 14 #[.int .i64 n] w fun e w' => e = .returned (.int .i64 (wkd n)) ∧ w' = w := by
  have c1 := isDay6 n w a b
  have hb := wkd_bd n a
  have hw : (n + 5).tmod 7 = wkd n := rfl
  go_enter Tryz.func14, Tryz.ntmps14
  go_wp2_with fail
  refine c1.mono ?_
  rintro e w' ⟨rfl, rfl⟩
  clear c1
  go_wp2_with fail
  go_ret
  exact ⟨rfl, rfl⟩
/-- The day's struct: its number, the rules, their numbers, what is known, what is meant. -/
structure DaySt (w : World) (g : Nat) (n : Int) (lv : Value) (mb : Nat) (kv mv' : Value) : Prop where
  blk : w.heap[g]? = some (.cells #[.int .i64 n, lv, .map (some mb), kv, mv'] 65 (0, 0))
/-- Is the day's bit set? -/
def wkB (n a : Int) : Bool := bits BinOp.and IntKind.i64 (a / 2 ^ (wkd n).toNat) 1 == 1
set_option maxHeartbeats 400000 in
theorem isOf4 (g : Nat) (n : Int) (lv : Value) (mb : Nat) (kv mv' : Value) (e : Ex) (pe : Option Addr) (ce : Nat) (w : World) (h : DaySt w g n lv mb kv mv') (a : 0 ≤ n) (b : n < 146097) (hk : e.kind = 4) :
    Calls Tryz.prog 52 #[.pointer (some ⟨g, 0, none⟩), .agg #[.int .i64 e.kind, .int .i64 e.a, .int .i64 e.b, .string ⟨e.name.toArray⟩, .slice pe e.kids.length ce]] w fun r w' => r = .returned (.bool (wkB n e.a)) ∧ Below w.heap.size w w' := by
  have k0 := (cell_of_row _ _ 0 _ _ _ h.blk).trans rfl
  have bA := (Below.refl w.heap.size w).alloc (Nat.le_refl _) (.cells #[.int .i64 e.kind, .int .i64 e.a, .int .i64 e.b, .string ⟨e.name.toArray⟩, .slice pe e.kids.length ce] 25)
  have k0' := (bA.cell (block_lt_of_cell k0)).trans k0
  have hb := wkd_bd n a
  have cw := fun W => week6 n W a b
  rw [hk] at bA k0' ⊢
  go_enter Tryz.func52, Tryz.ntmps52
  go_wp2_with fail
  go_quiet ((go_at_call 14; exact Calls.quiet_of_same (cw _)))
  go_wp2_with fail
  go_ret
  exact ⟨rfl, below_drewN bA nq⟩
set_option maxHeartbeats 400000 in
theorem isOf5 (g : Nat) (n : Int) (lv : Value) (mb : Nat) (kv mv' : Value) (e : Ex) (pe : Option Addr) (ce : Nat) (w : World) (h : DaySt w g n lv mb kv mv') (hk : e.kind = 5) :
    Calls Tryz.prog 52 #[.pointer (some ⟨g, 0, none⟩), .agg #[.int .i64 e.kind, .int .i64 e.a, .int .i64 e.b, .string ⟨e.name.toArray⟩, .slice pe e.kids.length ce]] w fun r w' => r = .returned (.bool (decide (e.a ≤ n) && decide (n ≤ e.b))) ∧ Below w.heap.size w w' := by
  have k0 := (cell_of_row _ _ 0 _ _ _ h.blk).trans rfl
  have bA := (Below.refl w.heap.size w).alloc (Nat.le_refl _) (.cells #[.int .i64 e.kind, .int .i64 e.a, .int .i64 e.b, .string ⟨e.name.toArray⟩, .slice pe e.kids.length ce] 25)
  have k0' := (bA.cell (block_lt_of_cell k0)).trans k0
  rw [hk] at bA k0' ⊢
  by_cases h1 : e.a ≤ n
  · by_cases h2 : n ≤ e.b
    · rw [decide_eq_true h1, decide_eq_true h2]
      go_enter Tryz.func52, Tryz.ntmps52
      go_wp2_with fail
      go_quiet (fail)
      go_wp2_with fail
      go_ret
      exact ⟨rfl, below_drewN bA nq⟩
    · rw [decide_eq_true h1, decide_eq_false h2]
      have hd2 : decide (n ≤ e.b) = false := decide_eq_false h2
      go_enter Tryz.func52, Tryz.ntmps52
      go_wp2_with fail
      go_quiet (fail)
      go_wp2_with fail
      go_ret
      first
        | exact ⟨rfl, below_drewN bA nq⟩
        | exact ⟨congrArg (fun x => Ending.returned (.bool x)) hd2, below_drewN bA nq⟩
  · rw [decide_eq_false h1]
    have hd1 : decide (e.a ≤ n) = false := decide_eq_false h1
    go_enter Tryz.func52, Tryz.ntmps52
    go_wp2_with fail
    go_quiet (fail)
    go_wp2_with fail
    go_ret
    exact ⟨rfl, below_drewN bA nq⟩
end Go.Proofs.YtllcpoibnmhghaaGreatDoor

/- The day's struct in memory: what is known of rules, and what they mean. -/
namespace Go.Proofs.YtllcpoibnmhghaaGreatDoor
open Go.RowKit Lx

theorem heap_setCells_other (b : Nat) : ∀ (vs : List Value) (o : Nat) (w : World) (q : Nat), q ≠ b → (w.setCells b o vs).heap[q]? = w.heap[q]?
  | [], _, _, _, _ => rfl
  | v :: vs, o, w, q, h => by
    rw [World.setCells, heap_setCells_other b vs (o + 1) _ q h]
    exact heap_setCell_other w ⟨b, o, none⟩ q v h
theorem below_setCellsM {w : World} (b : Nat) (hb : w.heap.size ≤ b) : ∀ (vs : List Value) (o : Nat) (W : World), Below w.heap.size w W → Below w.heap.size w (W.setCells b o vs)
  | [], _, _, h => h
  | v :: vs, o, W, h => by
    rw [World.setCells]
    exact below_setCellsM b hb vs (o + 1) _ (h.setCell hb v)
theorem range_later {W W' : World} {b o : Nat} {cs : List Value} (h : W.rangeAt b o cs) (hb : Below W.heap.size W W') : W'.rangeAt b o cs := fun j v hv => (hb.cell (block_lt_of_cell (h j v hv))).trans (h j v hv)
/-- The day's struct, the marks and the masks. -/
structure MSt (w : World) (n g gk gm mb : Nat) (day : Int) (lv : Value) (l : List Ru) (K : Nat → Bool) (M : Nat → Nat → Bool) (W : World) : Prop where
  bel : Below w.heap.size w W
  blk : W.heap[g]? = some (.cells #[.int .i64 day, lv, .map (some mb), .slice (some ⟨gk, 0, none⟩) n n, .slice (some ⟨gm, 0, none⟩) n n] 65 (0, 0))
  known : W.heap[gk]? = some (.cells (bcells n K) 4 (0, 0))
  meant : ∀ i, i < n → W.rangeAt gm (i * 23) (mv (M i)).toList
  held : ∃ cs, W.heap[gm]? = some (.cells cs 29 (0, 0))
  nums : MapN W mb l
  lo : w.heap.size ≤ g ∧ w.heap.size ≤ gk ∧ w.heap.size ≤ gm
  ne : g ≠ gk ∧ g ≠ gm ∧ gk ≠ gm ∧ mb ≠ gk ∧ mb ≠ gm
variable {w W W' : World} {n g gk gm mb : Nat} {day : Int} {lv : Value} {l : List Ru} {K : Nat → Bool} {M : Nat → Nat → Bool}
theorem MSt.later (h : MSt w n g gk gm mb day lv l K M W) (hb : Below W.heap.size W W') : MSt w n g gk gm mb day lv l K M W' :=
  ⟨h.bel.trans (hb.mono h.bel.size), (hb.block _ (lt_of_block h.blk)).trans h.blk, (hb.block _ (lt_of_block h.known)).trans h.known, fun i hi => range_later (h.meant i hi) hb, by
    obtain ⟨cs, hc⟩ := h.held
    exact ⟨cs, (hb.block _ (lt_of_block hc)).trans hc⟩, h.nums.later (hb.block _ (lt_of_map h.nums)), h.lo, h.ne⟩
/-- A rule is known now. -/
theorem MSt.mark (h : MSt w n g gk gm mb day lv l K M W) (i : Nat) : MSt w n g gk gm mb day lv l (upd K i) M (W.setCell ⟨gk, i, none⟩ (.bool true)) := by
  obtain ⟨n1, n2, n3, n4, n5⟩ := h.ne
  have ho : ∀ q, q ≠ gk → (W.setCell ⟨gk, i, none⟩ (.bool true)).heap[q]? = W.heap[q]? := fun q hq => heap_setCell_other W ⟨gk, i, none⟩ q _ hq
  refine ⟨h.bel.setCell h.lo.2.1 _, (ho _ n1).trans h.blk, ?_, fun j hj => ?_, ?_, h.nums.later (ho _ n4), h.lo, h.ne⟩
  · rw [← bcells_set]
    exact heap_setCell_same W gk i _ _ _ h.known
  · intro k v hv
    rw [← h.meant j hj k v hv]
    exact World.cell?_setCell_other _ _ _ _ (fun e => n3 (congrArg Addr.block e))
  · obtain ⟨cs, hc⟩ := h.held
    exact ⟨cs, (ho _ (fun e => n3 e.symm)).trans hc⟩
/-- What a rule means is laid down. -/
theorem heap_setCells_cells (b : Nat) {t : TypeId} : ∀ (vs : List Value) (o : Nat) (W : World), (∃ cs, W.heap[b]? = some (.cells cs t (0, 0))) → ∃ cs, (W.setCells b o vs).heap[b]? = some (.cells cs t (0, 0))
  | [], _, _, h => h
  | v :: vs, o, W, h => by
    rw [World.setCells]
    obtain ⟨cs, hc⟩ := h
    exact heap_setCells_cells b vs (o + 1) _ ⟨_, heap_setCell_same W b o cs t v hc⟩
def updM (M : Nat → Nat → Bool) (i : Nat) (f : Nat → Bool) : Nat → Nat → Bool := fun j => if j = i then f else M j
theorem MSt.there (h : MSt w n g gk gm mb day lv l K M W) {i : Nat} (hi : i < n) : W.there gm (i * 23) 23 := fun j hj => by
  obtain ⟨cs, hc⟩ := h.held
  refine ⟨(h.meant i hi).isSome j (by rw [Array.length_toList, mv_size]; exact hj), frozen_of_row _ _ _ _ _ hc⟩
theorem MSt.put (h : MSt w n g gk gm mb day lv l K M W) {i : Nat} (hi : i < n) (f : Nat → Bool) : MSt w n g gk gm mb day lv l K (updM M i f) (W.setCells gm (i * 23) (mv f).toList) := by
  obtain ⟨n1, n2, n3, n4, n5⟩ := h.ne
  have ho : ∀ q, q ≠ gm → (W.setCells gm (i * 23) (mv f).toList).heap[q]? = W.heap[q]? := fun q hq => heap_setCells_other gm _ _ W q hq
  refine ⟨below_setCellsM gm h.lo.2.2 _ _ _ h.bel, (ho _ n2).trans h.blk, (ho _ n3).trans h.known, fun j hj => ?_, heap_setCells_cells gm _ _ W h.held, h.nums.later (ho _ n5), h.lo, h.ne⟩
  by_cases e : j = i
  · subst e
    rw [updM, if_pos rfl]
    exact World.rangeAt_setCells_same W gm _ _ (by rw [Array.length_toList, mv_size]; exact h.there hj)
  · rw [updM, if_neg e]
    refine World.rangeAt_setCells_apart (h.meant j hj) gm _ _ (.inr ?_)
    rw [Array.length_toList, Array.length_toList, mv_size, mv_size]
    omega
end Go.Proofs.YtllcpoibnmhghaaGreatDoor

/- What a rule means, as the program finds it out: a rule that is known. -/
namespace Go.Proofs.YtllcpoibnmhghaaGreatDoor
open Go.RowKit Lx
variable {w W W' : World} {n g gk gm mb : Nat} {day : Int} {lv : Value} {l : List Ru} {K : Nat → Bool} {M : Nat → Nat → Bool}
theorem maskT6 : Tryz.prog.underlying 29 = some (.array 23 27) := by kernel_rfl
theorem maskLen (f : Nat → Bool) : (Tryz.prog.info? 29).map (fun i => i.size) = some (mv f).toList.length := by
  rw [Array.length_toList]
  exact maskSize f
theorem wpList_load_mask {W : World} {ops : Array Oper} {rest : List Oper} {op : Oper} {a : Act} {Q : Exit → Act → World → Prop} (hgd : op.guard = none) (x : Operand) (ho : op.op = .load 29 x) (b o : Nat) (hx : a.eval x = .pointer (some ⟨b, o, none⟩)) (f : Nat → Bool) (hc : W.rangeAt b o (mv f).toList)
    (h : wpList Tryz.prog ops Q rest (a.put op.dst (.agg (mv f))) W) : wpList Tryz.prog ops Q (op :: rest) a W :=
  wpList_load_mid hgd 29 x ho b o hx (mv f).toList _ hc maskT6 rfl (maskLen f) (by rw [Array.toArray_toList]; exact h)
theorem wp_load_mask {op : Oper} {a : Act} {W : World} {K : Act → World → Prop} {Q : Exit → Act → World → Prop} (x : Operand) (ho : op.op = .load 29 x) (b o : Nat) (hx : a.eval x = .pointer (some ⟨b, o, none⟩)) (f : Nat → Bool) (hc : W.rangeAt b o (mv f).toList)
    (h : K (a.put op.dst (.agg (mv f))) W) : op.wp Tryz.prog a W K Q :=
  wp_load_mid 29 x ho b o hx (mv f).toList _ hc maskT6 rfl (maskLen f) (by rw [Array.toArray_toList]; exact h)
set_option maxRecDepth 100000 in
set_option maxHeartbeats 1000000 in
theorem rule_known (h : MSt w n g gk gm mb day lv l K M W) {i : Nat} (hi : i < n) (hn : n ≤ 40) (hK : K i = true) :
    Calls Tryz.prog 29 #[.pointer (some ⟨g, 0, none⟩), .int .i64 (i : Int)] W fun e w' => e = .returned (.agg (mv (M i))) ∧ Below W.heap.size W w' := by
  have hz := mv_lit
  have bA := (Below.refl W.heap.size W).alloc (Nat.le_refl _) (.cells (mv fun _ => false) 29)
  have nA := heap_alloc_new W (.cells (mv fun _ => false) 29)
  have h' := h.later bA
  generalize hwA : W.alloc (.cells (mv fun _ => false) 29) = WA at *
  have k3 := (cell_of_row _ _ 3 _ _ _ h'.blk).trans rfl
  have k4 := (cell_of_row _ _ 4 _ _ _ h'.blk).trans rfl
  have ki := (cell_of_row _ _ i _ _ _ h'.known).trans (bcells_at hi)
  rw [hK] at ki
  have hi0 : (0 : Int) ≤ (i : Int) := by omega
  have hin : (i : Int) < (n : Int) := by omega
  have hn40 : (n : Int) ≤ 40 := by omega
  have HM := hid5 (h'.meant i hi)
  clear h hK h'
  go_enter Tryz.func29, Tryz.ntmps29
  go_wp2_with (first
    | (refine wpList_load_mask rfl _ rfl gm (i * 23) rfl (M i) HM.out ?_)
    | (refine wpList_store_row rfl 29 _ _ rfl _ _ rfl rfl _ _ nA (maskSize _) (by simp [mv_size]) (mv_all _) ?_))
  refine bodyPost_ret (v := .agg (mv (M i))) ?_ rfl ⟨rfl, ?_⟩
  · exact results_cell_row rfl _ _ W.heap.size _ _ _ _ rfl (setRow_heap _ _ _ _ _ _ nA) maskType rfl (maskSize _)
  · exact below_setRow bA (Nat.le_refl _) _
end Go.Proofs.YtllcpoibnmhghaaGreatDoor

/- The week's bit, as the program and as the document ask for it. -/
namespace Go.Proofs.YtllcpoibnmhghaaGreatDoor
open Go.RowKit Lx

def wkAll : Bool := (List.range 128).all fun a => (List.range 7).all fun k => (bits BinOp.and IntKind.i64 ((a : Int) / 2 ^ k) 1 == 1) == !(bits BinOp.and IntKind.i64 (a : Int) (2 ^ k) == 0)
theorem wkAll_yes : wkAll = true := by decide +kernel
/-- Whichever way the bit is asked for. -/
theorem wkB_ref (n a : Int) (hn : 0 ≤ n) (h0 : 0 ≤ a) (h1 : a < 128) : wkB n a = !(bits BinOp.and IntKind.i64 a (2 ^ (wkd n).toNat) == 0) := by
  obtain ⟨w0, w1⟩ := wkd_bd n hn
  have h := wkAll_yes
  unfold wkAll at h
  rw [List.all_eq_true] at h
  have h2 := h a.toNat (List.mem_range.2 (by omega))
  rw [List.all_eq_true] at h2
  have h3 := h2 (wkd n).toNat (List.mem_range.2 (by omega))
  rw [show ((a.toNat : Nat) : Int) = a by omega] at h3
  unfold wkB
  simpa using h3
end Go.Proofs.YtllcpoibnmhghaaGreatDoor

/- Regions that draw their order and yield values that are known beforehand: the frame behind them is written out. It speaks of no program. -/
namespace Go.Proofs.YtllcpoibnmhghaaGreatDoor
open Go Go.RowKit

/-- Values put into slots. -/
def putAll (ds : List (Nat × Value)) (a : Act) : Act := ds.foldl (fun a p => a.put (some p.1) p.2) a
theorem putAll_nil (a : Act) : putAll [] a = a := rfl
theorem putAll_cons (p : Nat × Value) (ds : List (Nat × Value)) (a : Act) : putAll (p :: ds) a = putAll ds (a.put (some p.1) p.2) := rfl
theorem putAll_defers : ∀ (ds : List (Nat × Value)) (a : Act), (putAll ds a).defers = a.defers
  | [], _ => rfl
  | p :: ds, a => (putAll_defers ds (a.put (some p.1) p.2)).trans rfl
theorem putAll_size : ∀ (ds : List (Nat × Value)) (a : Act), (putAll ds a).tmps.size = a.tmps.size
  | [], _ => rfl
  | p :: ds, a => (putAll_size ds (a.put (some p.1) p.2)).trans (by simp [Act.put])
theorem putAll_other : ∀ (ds : List (Nat × Value)) (a : Act) (s : Nat), (∀ p ∈ ds, p.1 ≠ s) → (putAll ds a).tmps.getD s undef = a.tmps.getD s undef
  | [], _, _, _ => rfl
  | p :: ds, a, s, h => by
    rw [putAll_cons, putAll_other ds _ s (fun q hq => h q (List.mem_cons_of_mem _ hq))]
    exact getD_set_other _ _ _ _ (h p List.mem_cons_self)
theorem putAll_same : ∀ (ds : List (Nat × Value)) (a : Act) (j s : Nat) (v : Value), (ds.map (fun p => some p.1)).Nodup → s < a.tmps.size → ds[j]? = some (s, v) → (putAll ds a).tmps.getD s undef = v
  | [], _, _, _, _, _, _, h => by simp at h
  | p :: ds, a, 0, s, v, hn, hs, h => by
    simp at h
    subst h
    rw [putAll_cons, putAll_other ds _ s ?_]
    · exact getD_set_same _ _ _ hs
    · intro q hq e
      rw [List.map_cons, List.nodup_cons] at hn
      exact hn.1 (List.mem_map.2 ⟨q, hq, by rw [e]⟩)
  | p :: ds, a, j + 1, s, v, hn, hs, h => by
    rw [putAll_cons]
    rw [List.map_cons, List.nodup_cons] at hn
    exact putAll_same ds _ j s v hn.2 (by simpa [Act.put] using hs) (by simpa using h)
theorem act_is {A a0 : Act} (ds : List (Nat × Value)) (hd : A.defers = a0.defers) (hs : A.tmps.size = a0.tmps.size) (hn : (ds.map (fun p => some p.1)).Nodup)
    (hk : ∀ s, (∀ p ∈ ds, p.1 ≠ s) → A.tmps.getD s undef = a0.tmps.getD s undef) (hh : ∀ (j s : Nat) (v : Value), ds[j]? = some (s, v) → A.tmps.getD s undef = v) : A = putAll ds a0 := by
  have e1 := putAll_defers ds a0
  have e2 := putAll_size ds a0
  have e3 : ∀ s, s < a0.tmps.size → A.tmps.getD s undef = (putAll ds a0).tmps.getD s undef := by
    intro s hs'
    by_cases h : ∃ p ∈ ds, p.1 = s
    · obtain ⟨p, hp, rfl⟩ := h
      obtain ⟨j, hj⟩ := List.getElem?_of_mem hp
      rw [hh j _ _ hj, putAll_same ds a0 j _ _ hn hs' hj]
    · have h' : ∀ p ∈ ds, p.1 ≠ s := fun p hp e => h ⟨p, hp, e⟩
      rw [hk s h', putAll_other ds a0 s h']
  generalize putAll ds a0 = F at *
  obtain ⟨t, d⟩ := A
  obtain ⟨t', d'⟩ := F
  dsimp only at *
  have : t = t' := by
    apply Array.ext
    · omega
    · intro i h1 h2
      have := e3 i (by omega)
      simpa [Array.getD, h1, h2] using this
  rw [this, hd, e1]

section
variable {P : Program} {ops : Array Oper} {Q : Exit → Act → World → Prop} {id : Nat} {a0 : Act} {w : World}

/-- What an operation of the region comes to, in whatever world behind the first. -/
def StepV (P : Program) (ops : Array Oper) (Q : Exit → Act → World → Prop) (ds : List (Nat × Value)) (a0 : Act) (w : World) : Prop :=
  ∀ (i s : Nat) (v : Value) (o : Oper) (L : Nat → Bool) (A : Act) (W : World), ops[i]? = some o → ds[i]? = some (s, v) → (∀ e ∈ o.after, Region.binds .any e = true → L e.on = true) → Below w.heap.size w W →
    (∀ s, notDst ops s = true → A.tmps.getD s undef = a0.tmps.getD s undef) → (∀ (j s : Nat) (u : Value), ds[j]? = some (s, u) → L j = true → A.tmps.getD s undef = u) → wpOp P ops Q i (fun a' W' => a' = A.put (some s) v ∧ Below W.heap.size W W') A W

theorem dst_at {k : Nat} {ds : List (Nat × Value)} (hds : (ops.toList.take k).map (fun o => o.dst) = ds.map (fun p => some p.1)) {i s : Nat} {v : Value} {o : Oper} (ho : ops[i]? = some o) (h : ds[i]? = some (s, v)) : o.dst = some s := by
  have h1 : (ds.map (fun p => some p.1))[i]? = some (some s) := by rw [List.getElem?_map, h]; rfl
  rw [← hds, List.getElem?_map] at h1
  have h2 : (ops.toList.take k)[i]? = some o ∨ (ops.toList.take k)[i]? = none := by
    rw [List.getElem?_take]
    split
    · left; simpa using ho
    · right; rfl
  rcases h2 with h2 | h2
  · rw [h2] at h1; simpa using h1
  · rw [h2] at h1; simp at h1
theorem at_dst {k : Nat} {ds : List (Nat × Value)} (hds : (ops.toList.take k).map (fun o => o.dst) = ds.map (fun p => some p.1)) {i : Nat} {o : Oper} (hi : i < k) (ho : ops[i]? = some o) : ∃ s v, ds[i]? = some (s, v) := by
  have h1 : (ops.toList.take k)[i]? = some o := by rw [List.getElem?_take, if_pos hi]; simpa using ho
  have h2 : ((ops.toList.take k).map (fun o => o.dst))[i]? = some o.dst := by rw [List.getElem?_map, h1]; rfl
  rw [hds, List.getElem?_map] at h2
  cases h3 : ds[i]? with
  | none => rw [h3] at h2; simp at h2
  | some p => exact ⟨p.1, p.2, rfl⟩

theorem wp_region_vals (hm : P.follows .mixedOrders = true) (hback : backB ops = true) (hdst : dstB ops = true) (hin : inB ops a0.tmps.size = true) (ds : List (Nat × Value))
    (hds : (ops.toList.take ops.size).map (fun o => o.dst) = ds.map (fun p => some p.1)) (hnd : decide (((ops.toList.take ops.size).map (fun o => o.dst)).Nodup) = true)
    (hstep : StepV P ops Q ds a0 w) (hend : ∀ W, Below w.heap.size w W → Q .normal (putAll ds a0) W) : (Code.region id ops true).wp P Q a0 w := by
  have hnd' : (ds.map (fun p => some p.1)).Nodup := by rw [← hds]; exact of_decide_eq_true hnd
  refine wp_region_flow hm hback hdst hin (fun _ _ W => Below w.heap.size w W) (fun j x _ => ∀ s v, ds[j]? = some (s, v) → x = v) ?_ ?_ ?_
  · intro L _
    exact (Below.refl _ _).drew
  · intro i o L A W ho hLi hdep hJ hdef hkept hhas
    have hi : i < ops.size := (Array.getElem?_eq_some_iff.1 ho).1
    obtain ⟨s, v, hv⟩ := at_dst hds hi ho
    have hd := dst_at hds ho hv
    refine wpOp_mono ?_ (hstep i s v o L A W ho hv hdep hJ (fun s' h => hkept s' fun j p hp _ => nd h j p hp) (fun j s' u hj hL => ?_))
    · rintro a' W' ⟨rfl, hb⟩
      exact ⟨v, by rw [hd], fun _ s' v' h => by rw [hv] at h; cases h; rfl, fun _ _ _ h => h, hJ.trans (hb.mono hJ.size)⟩
    · have hj' : j < ds.length := (List.getElem?_eq_some_iff.1 hj).1
      have hl : ds.length = ops.size := by have := congrArg List.length hds; simpa using this.symm
      obtain ⟨p, hp⟩ : ∃ p, ops[j]? = some p := ⟨ops[j]'(by omega), Array.getElem?_eq_getElem _⟩
      exact hhas j p hp hL s' (dst_at hds hp hj) s' u hj
  · intro L A W hL hJ hdef hsize hkept hhas
    have : A = putAll ds a0 := act_is ds hdef hsize hnd' (fun s h => hkept s fun j p hp e => ?_) (fun j s v hj => ?_)
    · rw [this]; exact hend W hJ
    · have hi : j < ops.size := (Array.getElem?_eq_some_iff.1 hp).1
      obtain ⟨s', v, hv⟩ := at_dst hds hi hp
      have := (dst_at hds hp hv).symm.trans e
      cases this
      exact h _ (List.mem_of_getElem? hv) rfl
    · have hj' : j < ds.length := (List.getElem?_eq_some_iff.1 hj).1
      have hl : ds.length = ops.size := by have := congrArg List.length hds; simpa using this.symm
      obtain ⟨p, hp⟩ : ∃ p, ops[j]? = some p := ⟨ops[j]'(by omega), Array.getElem?_eq_getElem _⟩
      exact hhas j p hp s (dst_at hds hp hj) s v hj

/-- Each operation but the last is waited for by a later one. -/
def useB (ops : Array Oper) : Bool := (List.range (ops.size - 1)).all fun i => (List.range ops.size).any fun j => decide (i < j) && match ops[j]? with | none => false | some o => o.after.any fun e => Region.binds .any e && decide (e.on = i)
theorem use_all (hu : useB ops = true) {n : Nat} (hn : ops.size = n + 1) {L : Nat → Bool} (hc : ∀ (j : Nat) (p : Oper), ops[j]? = some p → L j = true → ∀ e ∈ p.after, Region.binds .any e = true → L e.on = true) (hL : L n = true) : ∀ k i, n - i ≤ k → i ≤ n → L i = true
  | 0, i, hk, hi => by rw [show i = n by omega]; exact hL
  | k + 1, i, hk, hi => by
    by_cases e : i = n
    · rw [e]; exact hL
    have h1 := List.all_eq_true.1 hu i (by simp; omega)
    obtain ⟨j, hj, h2⟩ := List.any_eq_true.1 h1
    simp at hj
    simp only [Bool.and_eq_true, decide_eq_true_eq] at h2
    obtain ⟨hij, h3⟩ := h2
    cases ho : ops[j]? with
    | none => rw [ho] at h3; cases h3
    | some o =>
      rw [ho] at h3
      obtain ⟨e', he, h4⟩ := Array.any_eq_true'.1 h3
      simp only [Bool.and_eq_true, decide_eq_true_eq] at h4
      have := hc j o ho (use_all hu hn hc hL k j (by omega) (by omega)) e' he h4.1
      rw [h4.2] at this
      exact this

theorem wp_region_last (hm : P.follows .mixedOrders = true) (hback : backB ops = true) (hdst : dstB ops = true) (hin : inB ops a0.tmps.size = true) (n : Nat) (hn : ops.size = n + 1) (huse : useB ops = true) (ds : List (Nat × Value))
    (hds : (ops.toList.take n).map (fun o => o.dst) = ds.map (fun p => some p.1)) (hnd : decide (((ops.toList.take n).map (fun o => o.dst)).Nodup) = true)
    (hstep : StepV P ops Q ds a0 w) (hlast : ∀ (o : Oper) (W : World), ops[n]? = some o → Below w.heap.size w W → wpOp P ops Q n (fun a' W' => (∃ v, a' = (putAll ds a0).put o.dst v) ∧ Q .normal a' W') (putAll ds a0) W) : (Code.region id ops true).wp P Q a0 w := by
  have hnd' : (ds.map (fun p => some p.1)).Nodup := by rw [← hds]; exact of_decide_eq_true hnd
  have hl : ds.length = n := by
    have h := congrArg List.length hds
    simp only [List.length_map, List.length_take, Array.length_toList] at h
    omega
  refine wp_region_flow hm hback hdst hin (fun L A W => (∀ (j : Nat) (p : Oper), ops[j]? = some p → L j = true → ∀ e ∈ p.after, Region.binds .any e = true → L e.on = true) ∧ (L n = false → Below w.heap.size w W ∧ A.tmps.size = a0.tmps.size) ∧ (L n = true → Q .normal A W)) (fun j x _ => ∀ s v, ds[j]? = some (s, v) → x = v) ?_ ?_ ?_
  · intro L h
    refine ⟨fun j p hp hj => ?_, fun _ => ⟨(Below.refl _ _).drew, rfl⟩, fun h' => ?_⟩
    · have := h j (Array.getElem?_eq_some_iff.1 hp).1
      rw [this] at hj; cases hj
    · rw [h n (by omega)] at h'; cases h'
  · intro i o L A W ho hLi hdep hJ hdef hkept hhas
    obtain ⟨hc, hbel, hdone⟩ := hJ
    have hi : i < ops.size := (Array.getElem?_eq_some_iff.1 ho).1
    have hLn : L n = false := by
      cases h : L n with
      | false => rfl
      | true =>
        have := use_all huse hn hc h n i (by omega) (by omega)
        rw [this] at hLi; cases hLi
    obtain ⟨hbw, hsz⟩ := hbel hLn
    have hc' : ∀ (j : Nat) (p : Oper), ops[j]? = some p → (decide (i = j) || L j) = true → ∀ e ∈ p.after, Region.binds .any e = true → (decide (i = e.on) || L e.on) = true := by
      intro j p hp hj e he hb
      by_cases hij : i = j
      · subst hij
        rw [ho] at hp
        cases hp
        rw [hdep e he hb]; simp
      · rw [hc j p hp (by simpa [hij] using hj) e he hb]; simp
    have hread : ∀ (j s : Nat) (u : Value), ds[j]? = some (s, u) → L j = true → A.tmps.getD s undef = u := fun j s' u hj hL => by
      have hj' : j < ds.length := (List.getElem?_eq_some_iff.1 hj).1
      obtain ⟨p, hp⟩ : ∃ p, ops[j]? = some p := ⟨ops[j]'(by omega), Array.getElem?_eq_getElem _⟩
      exact hhas j p hp hL s' (dst_at hds hp hj) s' u hj
    by_cases hin' : i = n
    · subst hin'
      have hall : ∀ j, j < i → L j = true := fun j hj => by
        have := use_all huse hn hc' (L := fun k => decide (i = k) || L k) (by simp) i j (by omega) (by omega)
        simpa [show i ≠ j by omega] using this
      have e : A = putAll ds a0 := by
        refine act_is ds hdef hsz hnd' (fun s h => hkept s fun j p hp hj e => ?_) (fun j s v hj => ?_)
        · have hjn : j < i := by
            have h1 := (Array.getElem?_eq_some_iff.1 hp).1
            have h2 : j ≠ i := fun e' => by rw [e', hLn] at hj; cases hj
            omega
          obtain ⟨s', v, hv⟩ := at_dst hds hjn hp
          have := (dst_at hds hp hv).symm.trans e
          cases this
          exact h _ (List.mem_of_getElem? hv) rfl
        · exact hread j s v hj (hall j (by have := (List.getElem?_eq_some_iff.1 hj).1; omega))
      rw [e]
      refine wpOp_mono ?_ (hlast o W ho hbw)
      rintro a' W' ⟨⟨v, hv⟩, hq⟩
      refine ⟨v, hv, fun _ s' v' h => ?_, fun _ _ _ h => h, hc', fun h => by simp at h, fun _ => hq⟩
      have := (List.getElem?_eq_some_iff.1 h).1
      omega
    · obtain ⟨s, v, hv⟩ := at_dst hds (show i < n by omega) ho
      have hd := dst_at hds ho hv
      refine wpOp_mono ?_ (hstep i s v o L A W ho hv hdep hbw (fun s' h => hkept s' fun j p hp _ => nd h j p hp) hread)
      rintro a' W' ⟨rfl, hb⟩
      refine ⟨v, by rw [hd], fun _ s' v' h => by rw [hv] at h; cases h; rfl, fun _ _ _ h => h, hc', fun _ => ⟨hbw.trans (hb.mono hbw.size), by simpa [Act.put] using hsz⟩, fun h => ?_⟩
      simp [hin', hLn] at h
  · intro L A W hL hJ hdef hsize hkept hhas
    exact hJ.2.2 (hL n (by omega))
end
end Go.Proofs.YtllcpoibnmhghaaGreatDoor
