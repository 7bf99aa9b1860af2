/- What reached comes to: the marks that are followed. -/
import Derived.Test.YtgjggpgkcbekoadDoorRb23
import Derived.Deep.OwnRows
import Derived.Laws.EntriesVeiled
namespace Go.Proofs.YtgjggpgkcbekoadDoor
open Go.RowKit Lx

/-- Marks as cells. -/
def bcells (n : Nat) (m : Nat → Bool) : Array Value := ((List.range n).map fun i => Value.bool (m i)).toArray
theorem bcells_at {n : Nat} {m : Nat → Bool} {i : Nat} (h : i < n) : (bcells n m)[i]? = some (.bool (m i)) := by
  simp [bcells, h]
theorem bcells_set {n : Nat} {m : Nat → Bool} {i : Nat} : (bcells n m).setIfInBounds i (.bool true) = bcells n (upd m i) := by
  apply Array.ext
  · simp [bcells]
  · intro k h1 h2
    have hk : k < n := by simpa [bcells] using h2
    rw [Array.getElem_setIfInBounds (by simpa [bcells] using hk)]
    by_cases e : i = k
    · subst e
      simp [bcells, upd]
    · rw [if_neg e]
      simp [bcells, upd, show k ≠ i from fun h => e h.symm]
theorem bcells_none (n : Nat) : madeCells #[Value.bool false] n = bcells n (fun _ => false) := by
  apply Array.ext
  · simp [bcells, madeCells]
  · intro k h1 h2
    simp [bcells, madeCells, Nat.mod_one]
/-- Marks in memory. -/
def MkAt (w : World) (g n : Nat) (m : Nat → Bool) : Prop := w.heap[g]? = some (.cells (bcells n m) 4 (0, 0))
/-- Rows of numbers in memory, a row of them each; all below a number. -/
structure RowsI (w : World) (so : Value) (n : Nat) (S : Nat → List Nat) : Prop where
  form : ∃ p c, so = .slice p n c ∧ ∀ i, i < n → ∃ (g o : Nat) (v : Value), p = some ⟨g, o, none⟩ ∧ w.cell? ⟨g, o + i, none⟩ = some v ∧ RowI w v ((S i).map fun k : Nat => (k : Int))
  lt : ∀ i, ∀ k ∈ S i, k < n
theorem RowsI.below {w w' : World} {so : Value} {n : Nat} {S : Nat → List Nat} (h : RowsI w so n S) (hb : Below w.heap.size w w') : RowsI w' so n S := by
  obtain ⟨p, c, h1, h2⟩ := h.form
  refine ⟨⟨p, c, h1, fun i hi => ?_⟩, h.lt⟩
  obtain ⟨g, o, v, e, hc, hr⟩ := h2 i hi
  exact ⟨g, o, v, e, (hb.cell (block_lt_of_cell hc)).trans hc, hr.below hb⟩
/-- What is said of the world while marks are followed. -/
structure FSt (w : World) (n : Nat) (so : Value) (m : Nat → Bool) (wr : World) : Prop where
  bel : Below w.heap.size w wr
  b1 : wr.heap[w.heap.size]? = some (.cells #[so] 43 (0, 0))
  marks : wr.heap[w.heap.size + 1]? = some (.cells (bcells n m) 4 (0, 0))
  b2 : wr.heap[w.heap.size + 1 + 1]? = some (.cells #[.slice (some ⟨w.heap.size + 1, 0, none⟩) n n] 48 (0, 0))
  b3 : wr.heap[w.heap.size + 1 + 1 + 1]? = some (.cells #[.func (.func 24) #[] #[.pointer (some ⟨w.heap.size, 0, none⟩), .pointer (some ⟨w.heap.size + 1 + 1, 0, none⟩), .pointer (some ⟨w.heap.size + 1 + 1 + 1, 0, none⟩)]] 58 (0, 0))
theorem FSt.set {w wr : World} {n : Nat} {so : Value} {m : Nat → Bool} (h : FSt w n so m wr) (i : Nat) : FSt w n so (upd m i) (wr.setCell ⟨w.heap.size + 1, i, none⟩ (.bool true)) := by
  have ho : ∀ q, q ≠ w.heap.size + 1 → (wr.setCell ⟨w.heap.size + 1, i, none⟩ (.bool true)).heap[q]? = wr.heap[q]? := fun q hq => heap_setCell_other wr ⟨w.heap.size + 1, i, none⟩ q _ hq
  refine ⟨h.bel.setCell (by show w.heap.size ≤ w.heap.size + 1; omega) _, (ho _ (by omega)).trans h.b1, ?_, (ho _ (by omega)).trans h.b2, (ho _ (by omega)).trans h.b3⟩
  rw [← bcells_set]
  exact heap_setCell_same wr (w.heap.size + 1) i _ _ _ h.marks
/-- The first so many, followed. -/
def folL (S : Nat → List Nat) (f : Nat) (m : Nat → Bool) (l : List Nat) : Nat → Bool := l.foldl (fun m n => if m n = true then m else fol S f (upd m n) n) m
def FRel (w : World) (n : Nat) (so : Value) (S : Nat → List Nat) (f : Nat) (m : Nat → Bool) (r : Nat) (t : Value) (wr : World) : Prop := ∃ j : Nat, t = .int .i64 (j : Int) ∧ j ≤ (S r).length ∧ (∀ k, m k = true → folL S f m ((S r).take j) k = true) ∧ FSt w n so (folL S f m ((S r).take j)) wr
def OutF (w : World) (n : Nat) (so : Value) (m' : Nat → Bool) (e : Ending) (w' : World) : Prop := e = .returned (.tuple #[]) ∧ FSt w n so m' w'
set_option maxRecDepth 100000 in
set_option maxHeartbeats 2000000 in
theorem follow_any (w : World) (so : Value) (n : Nat) (S : Nat → List Nat) (hS : RowsI w so n S) (hn : n < 9223372036854775808) : ∀ (f : Nat) (m : Nat → Bool) (r : Nat) (wr : World), FSt w n so m wr → r < n → unm m n + 1 ≤ f →
    Calls Tryd.prog 24 #[.int .i64 (r : Int), .pointer (some ⟨w.heap.size, 0, none⟩), .pointer (some ⟨w.heap.size + 1 + 1, 0, none⟩), .pointer (some ⟨w.heap.size + 1 + 1 + 1, 0, none⟩)] wr (OutF w n so (fol S f m r))
  | 0, _, _, _, _, _, h => by omega
  | f + 1, m, r, wr, hF, hr, hu => by
    have ih := follow_any w so n S hS hn f
    obtain ⟨p, c, rfl, hrows⟩ := hS.form
    obtain ⟨g, o, v, hp, hcv, hrow⟩ := hrows r hr
    subst hp
    obtain ⟨pv, cv, rfl, hlv, hcells⟩ := hrow
    have hltS := hS.lt r
    rw [List.length_map] at hlv
    rw [List.length_map] at hcv
    have HC : Hid (∀ (j k : Nat), (S r)[j]? = some k → ∃ g o : Nat, pv = some ⟨g, o, none⟩ ∧ w.cell? ⟨g, o + j, none⟩ = some (.int .i64 (k : Int))) := fun j k hj => hcells j _ (by rw [List.getElem?_map, hj]; rfl)
    have HL : Hid (∀ j k : Nat, (S r)[j]? = some k → k < n) := fun j k hj => hltS k (List.mem_of_getElem? hj)
    have HX : Hid (fol S (f + 1) m r = folL S f m (S r)) := rfl
    have d0 := (hF.bel.cell (block_lt_of_cell hcv)).trans hcv
    have k1 := (cell_of_row _ _ 0 _ _ _ hF.b1).trans rfl
    have hr0 : (0 : Int) ≤ (r : Int) := by omega
    have hrn : (r : Int) < (n : Int) := by omega
    clear hcells hltS hrows hcv
    go_enter Tryd.func24, Tryd.ntmps24
    go_wp2_with fail
    go_loopw [6, 12] (fun _ t wr => FRel w n (.slice (some ⟨g, o, none⟩) n c) S f m r t wr) (fun _ t _ => (S r).length - (intOf t).toNat)
    case atStart => exact ⟨0, rfl, by omega, fun k hk => hk, hF⟩
    case round =>
      obtain ⟨j, rfl, hj, hup, hst⟩ := hrel
      clear hF d0 k1
      have hj0 : (0 : Int) ≤ (j : Int) := by omega
      by_cases hlt : j < (S r).length
      · have hlt' : (j : Int) < ((S r).length : Int) := by omega
        obtain ⟨k, hjk⟩ : ∃ k, (S r)[j]? = some k := ⟨(S r)[j], List.getElem?_eq_getElem hlt⟩
        have hkn := HL.out j k hjk
        obtain ⟨g', o', hpv, c0⟩ := HC.out j k hjk
        subst hpv
        have e0 := (hst.bel.cell (block_lt_of_cell c0)).trans c0
        have hstep : folL S f m ((S r).take (j + 1)) = if folL S f m ((S r).take j) k = true then folL S f m ((S r).take j) else fol S f (upd (folL S f m ((S r).take j)) k) k := by
          unfold folL
          rw [List.take_add_one, hjk, Option.toList_some, List.foldl_append]
          rfl
        have k2 := (cell_of_row _ _ 0 _ _ _ hst.b2).trans rfl
        have k3 := (cell_of_row _ _ 0 _ _ _ hst.b3).trans rfl
        have km := (cell_of_row _ _ k _ _ _ hst.marks).trans (bcells_at hkn)
        have kz := frozen_of_row _ _ k _ _ hst.marks
        have hk0 : (0 : Int) ≤ (k : Int) := by omega
        have hkI : (k : Int) < (n : Int) := by omega
        have hle := unm_le hup n
        generalize hM : folL S f m ((S r).take j) = M at *
        cases hMk : M k with
        | true =>
          rw [hMk] at km
          rw [if_pos hMk] at hstep
          have HN : Hid (FRel w n (.slice (some ⟨g, o, none⟩) n c) S f m r (.int .i64 ((j + 1 : Nat) : Int)) wr) := ⟨j + 1, rfl, by omega, by rw [hstep]; exact hup, by rw [hstep]; exact hst⟩
          clear hstep hup hst hMk hM HC HL c0 ih
          go_wp2_with fail
          go_roundw
          case rel => exact HN.out
          case measure => simp [intOf]; omega
        | false =>
          rw [hMk] at km
          rw [if_neg (by rw [hMk]; decide)] at hstep
          have hu' := unm_upd hMk n hkn
          have hst2 := hst.set k
          have cI := ih (upd M k) k _ hst2 hkn (by omega)
          have k3' := (cell_of_row _ _ 0 _ _ _ hst2.b3).trans rfl
          have hup2 : ∀ q, m q = true → fol S f (upd M k) k q = true := fun q hq => (fol_ok hS.lt f (upd M k) k (by omega)).up q (by simp [upd, hup q hq])
          have HN : Hid (∀ W, FSt w n (.slice (some ⟨g, o, none⟩) n c) (fol S f (upd M k) k) W → FRel w n (.slice (some ⟨g, o, none⟩) n c) S f m r (.int .i64 ((j + 1 : Nat) : Int)) W) := fun W hW => ⟨j + 1, rfl, by omega, by rw [hstep]; exact hup2, by rw [hstep]; exact hW⟩
          clear hup hst hMk hM c0 ih hst2 hup2 hstep
          go_wp2_with fail
          refine cI.mono ?_
          rintro e w2 ⟨rfl, hst3⟩
          clear cI
          go_wp2_with fail
          go_roundw
          case rel => exact HN.out _ hst3
          case measure => simp [intOf]; omega
      · have hlt' : ¬ (j : Int) < ((S r).length : Int) := by omega
        have HN : Hid (FSt w n (.slice (some ⟨g, o, none⟩) n c) (fol S (f + 1) m r) wr) := by
          have e : (S r).take j = S r := List.take_of_length_le (by omega)
          rw [e] at hst
          show FSt _ _ _ _ _
          rw [HX.out]
          exact hst
        clear hst hup HC HL ih HX
        go_wp2_with fail
        refine bodyPost_ret (results_none rfl _ _ _) rfl ?_
        exact ⟨rfl, HN.out⟩
def OutRe (n : Nat) (m : Nat → Bool) (w : World) (e : Ending) (w' : World) : Prop := ∃ g, e = .returned (.slice (some ⟨g, 0, none⟩) n n) ∧ w'.heap[g]? = some (.cells (bcells n m) 4 (0, 0)) ∧ Below w.heap.size w w'
theorem boolInfo : (Tryd.prog.info? 4).map (fun i => (i.zero, i.size, i.bytes)) = some (some (.bool false), 1, 1) := by kernel_rfl
theorem boolsType : Tryd.prog.underlying 48 = some (.slice 4) := by kernel_rfl
set_option maxRecDepth 100000 in
set_option maxHeartbeats 2000000 in
theorem reached_any (so : Value) (n : Nat) (S : Nat → List Nat) (r : Nat) (w : World) (hS : RowsI w so n S) (hn : n ≤ 1000000) (hr : r < n) :
    Calls Tryd.prog 18 #[so, .int .i64 (r : Int)] w (OutRe n (fol S (n + 1) (fun _ => false) r) w) := by
  obtain ⟨p, c, rfl, _⟩ := hS.form
  have hmk := run_make_row' (P := Tryd.prog) 48 4 (.bool false) 1 boolsType boolInfo rfl .i64 .i64 n (by omega) (by omega)
  have hz : unm (fun _ => false) n ≤ n := by
    have : ∀ n, unm (fun _ => false) n = n := by
      intro n
      induction n with
      | zero => rfl
      | succ n ih => simp [unm, ih]; omega
    rw [this]; omega
  rw [bcells_none] at hmk
  have bA := (Below.refl w.heap.size w).alloc (Nat.le_refl _) (.cells #[.slice p n c] 43)
  have bB := bA.alloc bA.size (.cells (bcells n (fun _ => false)) 4)
  have bC := bB.alloc bB.size (.cells #[.slice (some ⟨w.heap.size + 1, 0, none⟩) n n] 48)
  have bD := bC.alloc bC.size (.cells #[.nilFunc] 58)
  have s1 : (w.alloc (.cells #[.slice p n c] 43)).heap.size = w.heap.size + 1 := by simp
  have s2 : ((w.alloc (.cells #[.slice p n c] 43)).alloc (.cells (bcells n (fun _ => false)) 4)).heap.size = w.heap.size + 1 + 1 := by simp
  have s3 : (((w.alloc (.cells #[.slice p n c] 43)).alloc (.cells (bcells n (fun _ => false)) 4)).alloc (.cells #[.slice (some ⟨w.heap.size + 1, 0, none⟩) n n] 48)).heap.size = w.heap.size + 1 + 1 + 1 := by simp
  have h0 : ((((w.alloc (.cells #[.slice p n c] 43)).alloc (.cells (bcells n (fun _ => false)) 4)).alloc (.cells #[.slice (some ⟨w.heap.size + 1, 0, none⟩) n n] 48)).alloc (.cells #[.nilFunc] 58)).heap[w.heap.size]? = some (.cells #[.slice p n c] 43 (0, 0)) := (Below.heap_alloc _ _ _ (by rw [s3]; omega)).trans ((Below.heap_alloc _ _ _ (by rw [s2]; omega)).trans ((Below.heap_alloc _ _ _ (by rw [s1]; omega)).trans (heap_alloc_new w _)))
  have h1 : ((((w.alloc (.cells #[.slice p n c] 43)).alloc (.cells (bcells n (fun _ => false)) 4)).alloc (.cells #[.slice (some ⟨w.heap.size + 1, 0, none⟩) n n] 48)).alloc (.cells #[.nilFunc] 58)).heap[w.heap.size + 1]? = some (.cells (bcells n (fun _ => false)) 4 (0, 0)) := by
    refine (Below.heap_alloc _ _ _ (by rw [s3]; omega)).trans ((Below.heap_alloc _ _ _ (by rw [s2]; omega)).trans ?_)
    have := heap_alloc_new (w.alloc (.cells #[.slice p n c] 43)) (.cells (bcells n (fun _ => false)) 4)
    rw [s1] at this
    exact this
  have h2 : ((((w.alloc (.cells #[.slice p n c] 43)).alloc (.cells (bcells n (fun _ => false)) 4)).alloc (.cells #[.slice (some ⟨w.heap.size + 1, 0, none⟩) n n] 48)).alloc (.cells #[.nilFunc] 58)).heap[w.heap.size + 1 + 1]? = some (.cells #[.slice (some ⟨w.heap.size + 1, 0, none⟩) n n] 48 (0, 0)) := by
    refine (Below.heap_alloc _ _ _ (by rw [s3]; omega)).trans ?_
    have := heap_alloc_new ((w.alloc (.cells #[.slice p n c] 43)).alloc (.cells (bcells n (fun _ => false)) 4)) (.cells #[.slice (some ⟨w.heap.size + 1, 0, none⟩) n n] 48)
    rw [s2] at this
    exact this
  have h3 : ((((w.alloc (.cells #[.slice p n c] 43)).alloc (.cells (bcells n (fun _ => false)) 4)).alloc (.cells #[.slice (some ⟨w.heap.size + 1, 0, none⟩) n n] 48)).alloc (.cells #[.nilFunc] 58)).heap[w.heap.size + 1 + 1 + 1]? = some (.cells #[.nilFunc] 58 (0, 0)) := by
    have := heap_alloc_new (((w.alloc (.cells #[.slice p n c] 43)).alloc (.cells (bcells n (fun _ => false)) 4)).alloc (.cells #[.slice (some ⟨w.heap.size + 1, 0, none⟩) n n] 48)) (.cells #[.nilFunc] 58)
    rw [s3] at this
    exact this
  have z3 := (cell_of_row _ _ 0 _ _ _ h3).trans rfl
  have y3 := frozen_of_row _ _ 0 _ _ h3
  generalize hW4 : ((((w.alloc (.cells #[.slice p n c] 43)).alloc (.cells (bcells n (fun _ => false)) 4)).alloc (.cells #[.slice (some ⟨w.heap.size + 1, 0, none⟩) n n] 48)).alloc (.cells #[.nilFunc] 58)) = W4 at *
  have ho : ∀ q, q ≠ w.heap.size + 1 + 1 + 1 → (W4.setCell ⟨w.heap.size + 1 + 1 + 1, 0, none⟩ (.func (.func 24) #[] #[.pointer (some ⟨w.heap.size, 0, none⟩), .pointer (some ⟨w.heap.size + 1 + 1, 0, none⟩), .pointer (some ⟨w.heap.size + 1 + 1 + 1, 0, none⟩)])).heap[q]? = W4.heap[q]? := fun q hq => heap_setCell_other W4 ⟨w.heap.size + 1 + 1 + 1, 0, none⟩ q _ hq
  have hst : FSt w n (.slice p n c) (fun _ => false) (W4.setCell ⟨w.heap.size + 1 + 1 + 1, 0, none⟩ (.func (.func 24) #[] #[.pointer (some ⟨w.heap.size, 0, none⟩), .pointer (some ⟨w.heap.size + 1 + 1, 0, none⟩), .pointer (some ⟨w.heap.size + 1 + 1 + 1, 0, none⟩)])) :=
    ⟨bD.setCell (by show w.heap.size ≤ w.heap.size + 1 + 1 + 1; omega) _, (ho _ (by omega)).trans h0, (ho _ (by omega)).trans h1, (ho _ (by omega)).trans h2, heap_setCell_same W4 (w.heap.size + 1 + 1 + 1) 0 _ _ _ h3⟩
  have cF := follow_any w (.slice p n c) n S hS (by omega) (n + 1) (fun _ => false) r _ hst hr (by omega)
  have k3 := (cell_of_row _ _ 0 _ _ _ hst.b3).trans rfl
  have hmf : ∀ (fn : Fn) (first cap : Array Value) (w : World), (Instr.makeFunc fn first cap).run Tryd.prog w = .ok (.func fn first cap) w := fun _ _ _ _ => rfl
  clear bA bB bC bD s1 s2 s3 hst hz h0 h1 h2 h3 ho
  go_enter Tryd.func18, Tryd.ntmps18
  go_wp2_with fail
  refine cF.mono ?_
  rintro e w2 ⟨rfl, hst⟩
  have k2 := (cell_of_row _ _ 0 _ _ _ hst.b2).trans rfl
  have HO : Hid (OutRe n (fol S (n + 1) (fun _ => false) r) w (.returned (.slice (some ⟨w.heap.size + 1, 0, none⟩) n n)) w2) := ⟨_, rfl, hst.marks, hst.bel⟩
  clear cF hst
  go_wp2_with fail
  go_ret
  exact HO.out
end Go.Proofs.YtgjggpgkcbekoadDoor
