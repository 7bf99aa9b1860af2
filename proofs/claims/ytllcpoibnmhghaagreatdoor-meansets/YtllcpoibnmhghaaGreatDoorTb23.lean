/- What check's Wrong comes to. -/
import Derived.Test.YtllcpoibnmhghaaGreatDoorTb22
namespace Lx
/-- The first one, from so many on, of so many. -/
def frF (p : Nat → Bool) : Nat → Nat → Option Nat
  | _, 0 => none
  | i, k + 1 => if p i = true then some i else frF p (i + 1) k
theorem frF_some {p : Nat → Bool} {j : Nat} (hp : p j = true) : ∀ (k i : Nat), i ≤ j → j < i + k → (∀ i', i ≤ i' → i' < j → p i' = false) → frF p i k = some j
  | 0, i, h1, h2, _ => by omega
  | k + 1, i, h1, h2, h3 => by
    rw [frF]
    by_cases e : i = j
    · subst e; rw [if_pos hp]
    · rw [if_neg (by rw [h3 i (Nat.le_refl _) (by omega)]; decide)]
      exact frF_some hp k (i + 1) (by omega) (by omega) fun i' a b => h3 i' (by omega) b
theorem frF_none {p : Nat → Bool} : ∀ (k i : Nat), (∀ i', i ≤ i' → i' < i + k → p i' = false) → frF p i k = none
  | 0, _, _ => rfl
  | k + 1, i, h => by
    rw [frF, if_neg (by rw [h i (Nat.le_refl _) (by omega)]; decide)]
    exact frF_none k (i + 1) fun i' a b => h i' (by omega) (by omega)
end Lx
namespace Go.Proofs.YtllcpoibnmhghaaGreatDoor
open Go.RowKit Lx

def lk1 (l : List Ru) (i : Nat) : Bool := match l[i]? with | some u => atP5 l u.1 != (i : Int) | none => false
def lk2 (l : List Ru) (i : Nat) : Bool := match l[i]? with | some u => decide (-1 ∈ spkR l u) | none => false
def lk3 (l : List Ru) (i : Nat) : Bool := fol (leadS l) (l.length + 1) (fun _ => false) i i
/-- What is wrong with rules, and with what they refer to. -/
def chkW (l : List Ru) : Int × Nat := if (wrongR l).1 ≠ 0 then wrongR l else match frF (lk1 l) 0 l.length with
  | some i => (7, i)
  | none => match frF (lk2 l) 0 l.length with
    | some i => (6, i)
    | none => match frF (lk3 l) 0 l.length with
      | some i => (9, i)
      | none => (0, 0)
theorem chk_a {l : List Ru} {i : Nat} (h0 : (wrongR l).1 = 0) (hi : i < l.length) (hp : lk1 l i = true) (hall : ∀ i', i' < i → lk1 l i' = false) : chkW l = (7, i) := by
  unfold chkW
  rw [if_neg (by simpa using h0), frF_some hp l.length 0 (by omega) (by omega) fun i' _ h => hall i' h]
theorem chk_b {l : List Ru} {i : Nat} (h0 : (wrongR l).1 = 0) (h1 : ∀ i', i' < l.length → lk1 l i' = false) (hi : i < l.length) (hp : lk2 l i = true) (hall : ∀ i', i' < i → lk2 l i' = false) : chkW l = (6, i) := by
  unfold chkW
  rw [if_neg (by simpa using h0), frF_none l.length 0 fun i' _ h => h1 i' (by omega), frF_some hp l.length 0 (by omega) (by omega) fun i' _ h => hall i' h]
theorem chk_c {l : List Ru} {i : Nat} (h0 : (wrongR l).1 = 0) (h1 : ∀ i', i' < l.length → lk1 l i' = false) (h2 : ∀ i', i' < l.length → lk2 l i' = false) (hi : i < l.length) (hp : lk3 l i = true) (hall : ∀ i', i' < i → lk3 l i' = false) : chkW l = (9, i) := by
  unfold chkW
  rw [if_neg (by simpa using h0), frF_none l.length 0 fun i' _ h => h1 i' (by omega), frF_none l.length 0 fun i' _ h => h2 i' (by omega), frF_some hp l.length 0 (by omega) (by omega) fun i' _ h => hall i' h]
theorem chk_d {l : List Ru} (h0 : (wrongR l).1 = 0) (h1 : ∀ i', i' < l.length → lk1 l i' = false) (h2 : ∀ i', i' < l.length → lk2 l i' = false) (h3 : ∀ i', i' < l.length → lk3 l i' = false) : chkW l = (0, 0) := by
  unfold chkW
  rw [if_neg (by simpa using h0), frF_none l.length 0 fun i' _ h => h1 i' (by omega), frF_none l.length 0 fun i' _ h => h2 i' (by omega), frF_none l.length 0 fun i' _ h => h3 i' (by omega)]
/-- What the inner loop keeps. -/
def IRel (n : Nat) (p : Nat → Bool) (W0 wB : World) (t : Value) (wr : World) : Prop := ∃ i : Nat, t = .int .i64 (i : Int) ∧ i ≤ n ∧ (∀ i', i' < i → p i' = false) ∧ Below W0.heap.size W0 wr ∧ Below wB.heap.size wB wr
/-- What the outer loop keeps. -/
def ORel (l : List Ru) (n : Nat) (W0 : World) (t : Value) (wr : World) : Prop := ∃ k : Nat, t = .int .i64 (k : Int) ∧ k ≤ 3 ∧ ((0 < k → ∀ i', i' < n → lk1 l i' = false) ∧ (1 < k → ∀ i', i' < n → lk2 l i' = false) ∧ (2 < k → ∀ i', i' < n → lk3 l i' = false)) ∧ Below W0.heap.size W0 wr
theorem wrong_nms {l : List Ru} (h : (wrongR l).1 = 0) : l.length ≤ 40 ∧ ∀ u ∈ l, (nms u.2).length ≤ 600 := by
  unfold wrongR at h
  split at h
  · cases h
  · refine ⟨by omega, ?_⟩
    have aux : ∀ (l : List Ru) (i : Nat), (wrongL l i).1 = 0 → ∀ u ∈ l, ruleP u = 0 := by
      intro l
      induction l with
      | nil => intro _ _ u hu; cases hu
      | cons x l ih =>
        intro i h u hu
        rw [wrongL] at h
        split at h
        · rename_i hx; exact absurd h hx
        · rename_i hx
          rcases List.mem_cons.1 hu with rfl | hu
          · simpa using hx
          · exact ih _ h u hu
    intro u hu
    have hr := aux l 0 h u hu
    unfold ruleP at hr
    split at hr
    · cases hr
    · have h1 := nms_shape _ u.2 1 0 (Nat.le_refl _) hr
      have h2 := shapeP_le hr
      omega
set_option maxRecDepth 100000 in
set_option maxHeartbeats 8000000 in
theorem chk_any (us : List (Ru × Value)) (v : Value) (w : World) (h : InR w v us) : Calls Tryz.prog 27 #[v] w fun r w' => r = .returned (.agg #[.int .i64 (chkW (us.map (fun p => p.1))).1, .int .i64 ((chkW (us.map (fun p => p.1))).2 : Int)]) ∧ Below w.heap.size w w' := by
  obtain ⟨l, hl⟩ : ∃ l, us.map (fun p => p.1) = l := ⟨_, rfl⟩
  have hll : l.length = us.length := by rw [← hl, List.length_map]
  obtain ⟨pv, cv, rfl⟩ := h.form
  have bA := (Below.refl w.heap.size w).alloc (Nat.le_refl _) (.cells #[.slice pv us.length cv] 22)
  have bB := bA.alloc bA.size (.cells #[.int .i64 0, .int .i64 0] 43)
  have s1 : (w.alloc (.cells #[.slice pv us.length cv] 22)).heap.size = w.heap.size + 1 := by simp
  have n1 := (Below.heap_alloc _ (.cells #[.int .i64 0, .int .i64 0] 43) _ (lt_of_block (heap_alloc_new w (.cells #[.slice pv us.length cv] 22)))).trans (heap_alloc_new w (.cells #[.slice pv us.length cv] 22))
  have n2 := heap_alloc_new (w.alloc (.cells #[.slice pv us.length cv] 22)) (.cells #[.int .i64 0, .int .i64 0] 43)
  rw [s1] at n2
  clear s1 bA
  generalize hwB : (w.alloc (.cells #[.slice pv us.length cv] 22)).alloc (.cells #[.int .i64 0, .int .i64 0] 43) = wB at *
  have cW := wrong_any us _ wB (h.below bB)
  have k1 := (cell_of_row _ _ 0 _ _ _ n1).trans rfl
  rw [hl] at cW ⊢
  go_enter Tryz.func27, Tryz.ntmps27
  go_wp2_with fail
  refine cW.mono ?_
  rintro r w1 ⟨rfl, hb1⟩
  have m1 := (hb1.block _ (lt_of_block n1)).trans n1
  have m2 := (hb1.block _ (lt_of_block n2)).trans n2
  have hb1w := bB.trans (hb1.mono bB.size)
  clear cW hb1 n1 n2 bB k1 hwB
  by_cases h0 : (wrongR l).1 = 0
  · obtain ⟨h40, hnm⟩ := wrong_nms h0
    rw [h0]
    generalize (((wrongR l).2 : Nat) : Int) = at0 at *
    have bC := (Below.refl w1.heap.size w1).alloc (Nat.le_refl _) (.cells #[.int .i64 0, .int .i64 at0] 43)
    have hb2w := hb1w.trans (bC.mono hb1w.size)
    have m1' := (bC.block _ (lt_of_block m1)).trans m1
    have m2' := (bC.block _ (lt_of_block m2)).trans m2
    have k1 := (cell_of_row _ _ 0 _ _ _ m1').trans rfl
    have cN := numbers_any us _ _ (h.below hb2w)
    have m3 := heap_alloc_new w1 (.cells #[.int .i64 0, .int .i64 at0] 43)
    clear m1 m2 bC hb1w
    generalize hw2 : w1.alloc (.cells #[.int .i64 0, .int .i64 at0] 43) = w2 at *
    have z0 := (cell_of_row _ _ 0 _ _ _ m3).trans rfl
    go_wp2_with fail
    clear z0 m3
    refine cN.mono ?_
    rintro r w3 ⟨mb, rfl, hmb, hM, hb3⟩
    have m1 := (hb3.block _ (lt_of_block m1')).trans m1'
    have m2 := (hb3.block _ (lt_of_block m2')).trans m2'
    have hb3w := hb2w.trans (hb3.mono hb2w.size)
    have bD := (Below.refl w3.heap.size w3).alloc (Nat.le_refl _) (.cells #[.map (some mb)] 61)
    have hb4w := hb3w.trans (bD.mono hb3w.size)
    have hM4 : MapN (w3.alloc (.cells #[.map (some mb)] 61)) mb (us.map (fun p => p.1)) := hM.later (bD.block _ (lt_of_map hM))
    have q1 := (bD.block _ (lt_of_block m1)).trans m1
    have q2 := (bD.block _ (lt_of_block m2)).trans m2
    have q4 := heap_alloc_new w3 (.cells #[.map (some mb)] 61)
    have cS := spoken_any us _ mb _ (h.below hb4w) hM4 (by omega) (fun p hp => by
      have := hnm p.1 (by rw [← hl]; exact List.mem_map.2 ⟨p, hp, rfl⟩)
      omega)
    clear cN hb3 hb3w m1 m2 m1' m2' hM hb2w k1 hw2 hmb bD
    generalize hw4 : w3.alloc (.cells #[.map (some mb)] 61) = w4 at *
    have k1 := (cell_of_row _ _ 0 _ _ _ q1).trans rfl
    have k4 := (cell_of_row _ _ 0 _ _ _ q4).trans rfl
    go_wp2_with fail
    refine cS.mono ?_
    rintro r w5 ⟨so, rfl, hZ, hb5⟩
    rw [hl] at hZ
    obtain ⟨pz, cz, hso, _⟩ := (show RowsZ w5 so (l.map (spkR l)) from hZ)
    rw [List.length_map, hll] at hso
    obtain ⟨b4, hb4⟩ : ∃ b, w3.heap.size = b := ⟨_, rfl⟩
    have p1 := (hb5.block _ (lt_of_block q1)).trans q1
    have p2 := (hb5.block _ (lt_of_block q2)).trans q2
    have p4 := (hb5.block _ (lt_of_block q4)).trans q4
    have hM5 := hM4.later (hb5.block _ (lt_of_map hM4))
    have hb5w := hb4w.trans (hb5.mono hb4w.size)
    have bE := (Below.refl w5.heap.size w5).alloc (Nat.le_refl _) (.cells #[so] 73)
    have hb6w := hb5w.trans (bE.mono hb5w.size)
    have x5 := heap_alloc_new w5 (.cells #[so] 73)
    have x1 := (bE.block _ (lt_of_block p1)).trans p1
    have x2 := (bE.block _ (lt_of_block p2)).trans p2
    have x4 := (bE.block _ (lt_of_block p4)).trans p4
    have hM6 := hM5.later (bE.block _ (lt_of_map hM5))
    have hZ6 := RowsZ.below hZ bE
    clear cS hb5 q1 q2 q4 hM4 hb4w hb5w p1 p2 p4 hM5 hZ bE k1 k4 hw4
    generalize hw6 : w5.alloc (.cells #[so] 73) = w6 at *
    rw [hb4] at x4
    obtain ⟨b5, hb5⟩ : ∃ b, w5.heap.size = b := ⟨_, rfl⟩
    rw [hb5] at x5
    have bF := (Below.refl w6.heap.size w6).alloc (Nat.le_refl _) (.cells #[.int .i64 7, .func (.func 36) #[] #[.pointer (some ⟨b4, 0, none⟩), .pointer (some ⟨w.heap.size, 0, none⟩)], .int .i64 6, .func (.func 37) #[] #[.pointer (some ⟨b5, 0, none⟩)], .int .i64 9, .func (.func 39) #[] #[.pointer (some ⟨b5, 0, none⟩)]] 75)
    have hlo := heap_alloc_new w6 (.cells #[.int .i64 7, .func (.func 36) #[] #[.pointer (some ⟨b4, 0, none⟩), .pointer (some ⟨w.heap.size, 0, none⟩)], .int .i64 6, .func (.func 37) #[] #[.pointer (some ⟨b5, 0, none⟩)], .int .i64 9, .func (.func 39) #[] #[.pointer (some ⟨b5, 0, none⟩)]] 75)
    have HbW := hid5 (hb6w.trans (bF.mono hb6w.size))
    have y1 := (bF.block _ (lt_of_block x1)).trans x1
    have y2 := (bF.block _ (lt_of_block x2)).trans x2
    have y4 := (bF.block _ (lt_of_block x4)).trans x4
    have y5 := (bF.block _ (lt_of_block x5)).trans x5
    have hM7 := hM6.later (bF.block _ (lt_of_map hM6))
    have hZ7 := RowsZ.below hZ6 bF
    have hin7 := h.below HbW.out
    have HLL := hid5 hll
    have H0 := hid5 h0
    have hmf : ∀ (fn : Fn) (first cap : Array Value) (w : World), (Instr.makeFunc fn first cap).run Tryz.prog w = .ok (.func fn first cap) w := fun _ _ _ _ => rfl
    subst hso
    clear hb6w bF x1 x2 x4 x5 hM6 hZ6
    try simp only [hb4]
    try simp only [hb5]
    go_wp2_with fail
    try simp only [hb4]
    try simp only [hb5]
    generalize hW0 : w6.alloc (.cells #[.int .i64 7, .func (.func 36) #[] #[.pointer (some ⟨b4, 0, none⟩), .pointer (some ⟨w.heap.size, 0, none⟩)], .int .i64 6, .func (.func 37) #[] #[.pointer (some ⟨b5, 0, none⟩)], .int .i64 9, .func (.func 39) #[] #[.pointer (some ⟨b5, 0, none⟩)]] 75) = W0 at *
    clear hW0 hw6 hb4 hb5
    have kl := (cell_of_row _ _ 0 _ _ _ y1).trans rfl
    have g0 := (cell_of_row _ _ 0 _ _ _ hlo).trans rfl
    have g1 := (cell_of_row _ _ 1 _ _ _ hlo).trans rfl
    have g2 := (cell_of_row _ _ 2 _ _ _ hlo).trans rfl
    have g3 := (cell_of_row _ _ 3 _ _ _ hlo).trans rfl
    have g4 := (cell_of_row _ _ 4 _ _ _ hlo).trans rfl
    have g5 := (cell_of_row _ _ 5 _ _ _ hlo).trans rfl
    have hres := y2
    have HC1 : Hid (∀ (i : Nat), i < us.length → ∀ W, Below W0.heap.size W0 W → Calls Tryz.prog 36 #[.int .i64 (i : Int), .pointer (some ⟨b4, 0, none⟩), .pointer (some ⟨w.heap.size, 0, none⟩)] W fun r w' => r = .returned (.bool (lk1 l i)) ∧ Below W.heap.size W w') := fun i hi W hW => by
      obtain ⟨u, hu⟩ : ∃ u, l[i]? = some u := ⟨l[i]'(by omega), List.getElem?_eq_getElem _⟩
      have e : lk1 l i = (atP5 l u.1 != (i : Int)) := by unfold lk1; rw [hu]
      rw [e]
      have := look1_any us pv cv mb b4 w.heap.size i u W (hin7.below hW) (hM7.later (hW.block _ (lt_of_map hM7))) ((hW.block _ (lt_of_block y1)).trans y1) ((hW.block _ (lt_of_block y4)).trans y4) (by rw [hl]; exact hu)
      rw [hl] at this
      exact this
    have HC2 : Hid (∀ (i : Nat), i < us.length → ∀ W, Below W0.heap.size W0 W → Calls Tryz.prog 37 #[.int .i64 (i : Int), .pointer (some ⟨b5, 0, none⟩)] W fun r w' => r = .returned (.bool (lk2 l i)) ∧ Below W.heap.size W w') := fun i hi W hW => by
      obtain ⟨u, hu⟩ : ∃ u, l[i]? = some u := ⟨l[i]'(by omega), List.getElem?_eq_getElem _⟩
      have e : lk2 l i = decide (-1 ∈ spkR l u) := by unfold lk2; rw [hu]
      rw [e]
      exact look2_any l _ b5 i u W (hZ7.below hW) ((hW.block _ (lt_of_block y5)).trans y5) hu
    have HC3 : Hid ((∀ i', i' < us.length → lk2 l i' = false) → ∀ (i : Nat), i < us.length → ∀ W, Below W0.heap.size W0 W → Calls Tryz.prog 39 #[.int .i64 (i : Int), .pointer (some ⟨b5, 0, none⟩)] W fun r w' => r = .returned (.bool (lk3 l i)) ∧ Below W.heap.size W w') := fun hno i hi W hW => by
      refine look3_any l _ b5 i W (rowsI_of (hZ7.below hW) fun u hu hm => ?_) (by omega) ((hW.block _ (lt_of_block y5)).trans y5) (by omega)
      obtain ⟨j, hj⟩ := List.getElem?_of_mem hu
      have hj' : j < l.length := (List.getElem?_eq_some_iff.1 hj).1
      have := hno j (by omega)
      unfold lk2 at this
      rw [hj] at this
      dsimp only at this
      rw [decide_eq_true hm] at this
      cases this
    have hI40 : (us.length : Int) ≤ 40 := by omega
    clear y1 y2 y4 y5 hM7 hZ7 hin7 hlo h hnm h40 hll h0
    go_loopw [8, 9, 30] (fun _ _ t wr => ORel l us.length W0 t wr) (fun _ _ t _ => 3 - (intOf t).toNat)
    case atStart => exact ⟨0, rfl, by omega, ⟨fun h => absurd h (by omega), fun h => absurd h (by omega), fun h => absurd h (by omega)⟩, Below.refl _ _⟩
    case round =>
      obtain ⟨k, rfl, hk3, hno, hbr⟩ := hrel
      match k, hk3 with
      | 0, _ =>
        have d0 := (hbr.cell (block_lt_of_cell g0)).trans g0
        have d1 := (hbr.cell (block_lt_of_cell g1)).trans g1
        have hbA := hbr.alloc hbr.size (.cells #[.int .i64 7, .func (.func 36) #[] #[.pointer (some ⟨b4, 0, none⟩), .pointer (some ⟨w.heap.size, 0, none⟩)]] 75)
        have hxB := heap_alloc_new wr (.cells #[.int .i64 7, .func (.func 36) #[] #[.pointer (some ⟨b4, 0, none⟩), .pointer (some ⟨w.heap.size, 0, none⟩)]] 75)
        have cL := HC1.out
        generalize hwB : wr.alloc (.cells #[.int .i64 7, .func (.func 36) #[] #[.pointer (some ⟨b4, 0, none⟩), .pointer (some ⟨w.heap.size, 0, none⟩)]] 75) = wB at *
        have e0 := (cell_of_row _ _ 0 _ _ _ hxB).trans rfl
        have e1 := (cell_of_row _ _ 1 _ _ _ hxB).trans rfl
        have kl' := (hbA.cell (block_lt_of_cell kl)).trans kl
        have Hno := hid5 hno
        clear hbr hno hxB g0 g1 g2 g3 g4 g5
        go_wp2_with fail
        clear d0 d1 kl' hwB
        obtain ⟨b8, hb8⟩ : ∃ b, wr.heap.size = b := ⟨_, rfl⟩
        simp only [hb8] at e0 e1 ⊢
        clear hb8
        go_loopw [9, 36] (fun _ t wr => IRel us.length (lk1 l) W0 wB t wr) (fun _ t _ => us.length - (intOf t).toNat)
        case atStart => exact ⟨0, rfl, by omega, fun i' hi' => by omega, hbA, Below.refl _ _⟩
        case round =>
          obtain ⟨i, rfl, hi, hall, hbi, hbB⟩ := hrel
          have hi0 : (0 : Int) ≤ (i : Int) := by omega
          have e0' := (hbB.cell (block_lt_of_cell e0)).trans e0
          have e1' := (hbB.cell (block_lt_of_cell e1)).trans e1
          have Hall := hid5 hall
          by_cases hlt : i < us.length
          · have hlt' : (i : Int) < (us.length : Int) := by omega
            have cC := cL i hlt wr hbi
            clear hbA e0 e1 cL hall
            cases hp : lk1 l i with
            | true =>
              rw [hp] at cC
              have HX : Hid (chkW l = (7, i)) := by
                have hall := Hall.out
                have hno := Hno.out
                have h0 := H0.out
                have hlt : i < l.length := by rw [HLL.out]; exact hlt
                have hLL := HLL.out
                exact chk_a h0 hlt hp hall
              clear Hall Hno hp
              go_wp2_with fail
              refine cC.mono ?_
              rintro r w2 ⟨rfl, hb2⟩
              have e0'' := (hb2.cell (block_lt_of_cell e0')).trans e0'
              have hbw := hbi.trans (hb2.mono hbi.size)
              have hz := (hbw.block _ (lt_of_block hres)).trans hres
              have hbF := below_setRow ((HbW.out).trans (hbw.mono (HbW.out).size)) (show w.heap.size ≤ w.heap.size + 1 by omega) #[.int .i64 7, .int .i64 (i : Int)]
              clear cC hb2 e0' e1' hbi hbB hbw
              go_wp2_with (first
                | (refine wpList_store_row rfl 43 _ _ rfl _ _ rfl rfl _ _ hz (by kernel_rfl) (by simp) (by simp [Value.oneCell']) ?_))
              refine flt_ret 2 (by kernel_rfl) (w.heap.size + 1) _ _ rfl rfl (setRow_heap _ _ _ _ _ _ hz) ?_
              rw [HX.out]
              exact ⟨rfl, hbF⟩
            | false =>
              rw [hp] at cC
              have HN : Hid (∀ i', i' < i + 1 → lk1 l i' = false) := fun i' hi' => by
                by_cases e : i' = i
                · rw [e]; exact hp
                · exact Hall.out i' (by omega)
              clear Hall hp
              go_wp2_with fail
              refine cC.mono ?_
              rintro r w2 ⟨rfl, hb2⟩
              have hbw := hbi.trans (hb2.mono hbi.size)
              have hbw2 := hbB.trans (hb2.mono hbB.size)
              clear cC hb2 e0' e1' hbi hbB
              go_wp2_with fail
              go_roundw
              case rel =>
                (repeat apply Exists.intro)
                refine ⟨?_, rfl⟩
                exact ⟨i + 1, by go_num, by omega, HN.out, hbw, hbw2⟩
              case measure => simp [intOf]; omega
          · have hlt' : ¬ (i : Int) < (us.length : Int) := by omega
            have ei : i = us.length := by omega
            have HN : Hid (ORel l us.length W0 (.int .i64 1) wr) := by
              have hno := Hno.out
              have hall := Hall.out
              rw [ei] at hall
              exact ⟨1, rfl, by omega, ⟨fun _ => hall, fun h => absurd h (by omega), fun h => absurd h (by omega)⟩, hbi⟩
            clear hbA e0 e1 e0' e1' hbB Hall Hno hall cL ei hbi
            go_wp2_with fail
            go_roundw
            case rel => exact HN.out
            case measure => simp [intOf]
      | 1, _ =>
        have d0 := (hbr.cell (block_lt_of_cell g2)).trans g2
        have d1 := (hbr.cell (block_lt_of_cell g3)).trans g3
        have hbA := hbr.alloc hbr.size (.cells #[.int .i64 6, .func (.func 37) #[] #[.pointer (some ⟨b5, 0, none⟩)]] 75)
        have hxB := heap_alloc_new wr (.cells #[.int .i64 6, .func (.func 37) #[] #[.pointer (some ⟨b5, 0, none⟩)]] 75)
        have cL := HC2.out
        generalize hwB : wr.alloc (.cells #[.int .i64 6, .func (.func 37) #[] #[.pointer (some ⟨b5, 0, none⟩)]] 75) = wB at *
        have e0 := (cell_of_row _ _ 0 _ _ _ hxB).trans rfl
        have e1 := (cell_of_row _ _ 1 _ _ _ hxB).trans rfl
        have kl' := (hbA.cell (block_lt_of_cell kl)).trans kl
        have Hno := hid5 hno
        clear hbr hno hxB g0 g1 g2 g3 g4 g5
        go_wp2_with fail
        clear d0 d1 kl' hwB
        obtain ⟨b8, hb8⟩ : ∃ b, wr.heap.size = b := ⟨_, rfl⟩
        simp only [hb8] at e0 e1 ⊢
        clear hb8
        go_loopw [9, 36] (fun _ t wr => IRel us.length (lk2 l) W0 wB t wr) (fun _ t _ => us.length - (intOf t).toNat)
        case atStart => exact ⟨0, rfl, by omega, fun i' hi' => by omega, hbA, Below.refl _ _⟩
        case round =>
          obtain ⟨i, rfl, hi, hall, hbi, hbB⟩ := hrel
          have hi0 : (0 : Int) ≤ (i : Int) := by omega
          have e0' := (hbB.cell (block_lt_of_cell e0)).trans e0
          have e1' := (hbB.cell (block_lt_of_cell e1)).trans e1
          have Hall := hid5 hall
          by_cases hlt : i < us.length
          · have hlt' : (i : Int) < (us.length : Int) := by omega
            have cC := cL i hlt wr hbi
            clear hbA e0 e1 cL hall
            cases hp : lk2 l i with
            | true =>
              rw [hp] at cC
              have HX : Hid (chkW l = (6, i)) := by
                have hall := Hall.out
                have hno := Hno.out
                have h0 := H0.out
                have hlt : i < l.length := by rw [HLL.out]; exact hlt
                have hLL := HLL.out
                exact chk_b h0 (fun a b => hno.1 (by omega) a (by omega)) hlt hp hall
              clear Hall Hno hp
              go_wp2_with fail
              refine cC.mono ?_
              rintro r w2 ⟨rfl, hb2⟩
              have e0'' := (hb2.cell (block_lt_of_cell e0')).trans e0'
              have hbw := hbi.trans (hb2.mono hbi.size)
              have hz := (hbw.block _ (lt_of_block hres)).trans hres
              have hbF := below_setRow ((HbW.out).trans (hbw.mono (HbW.out).size)) (show w.heap.size ≤ w.heap.size + 1 by omega) #[.int .i64 6, .int .i64 (i : Int)]
              clear cC hb2 e0' e1' hbi hbB hbw
              go_wp2_with (first
                | (refine wpList_store_row rfl 43 _ _ rfl _ _ rfl rfl _ _ hz (by kernel_rfl) (by simp) (by simp [Value.oneCell']) ?_))
              refine flt_ret 2 (by kernel_rfl) (w.heap.size + 1) _ _ rfl rfl (setRow_heap _ _ _ _ _ _ hz) ?_
              rw [HX.out]
              exact ⟨rfl, hbF⟩
            | false =>
              rw [hp] at cC
              have HN : Hid (∀ i', i' < i + 1 → lk2 l i' = false) := fun i' hi' => by
                by_cases e : i' = i
                · rw [e]; exact hp
                · exact Hall.out i' (by omega)
              clear Hall hp
              go_wp2_with fail
              refine cC.mono ?_
              rintro r w2 ⟨rfl, hb2⟩
              have hbw := hbi.trans (hb2.mono hbi.size)
              have hbw2 := hbB.trans (hb2.mono hbB.size)
              clear cC hb2 e0' e1' hbi hbB
              go_wp2_with fail
              go_roundw
              case rel =>
                (repeat apply Exists.intro)
                refine ⟨?_, rfl⟩
                exact ⟨i + 1, by go_num, by omega, HN.out, hbw, hbw2⟩
              case measure => simp [intOf]; omega
          · have hlt' : ¬ (i : Int) < (us.length : Int) := by omega
            have ei : i = us.length := by omega
            have HN : Hid (ORel l us.length W0 (.int .i64 2) wr) := by
              have hno := Hno.out
              have hall := Hall.out
              rw [ei] at hall
              exact ⟨2, rfl, by omega, ⟨fun _ => hno.1 (by omega), fun _ => hall, fun h => absurd h (by omega)⟩, hbi⟩
            clear hbA e0 e1 e0' e1' hbB Hall Hno hall cL ei hbi
            go_wp2_with fail
            go_roundw
            case rel => exact HN.out
            case measure => simp [intOf]
      | 2, _ =>
        have d0 := (hbr.cell (block_lt_of_cell g4)).trans g4
        have d1 := (hbr.cell (block_lt_of_cell g5)).trans g5
        have hbA := hbr.alloc hbr.size (.cells #[.int .i64 9, .func (.func 39) #[] #[.pointer (some ⟨b5, 0, none⟩)]] 75)
        have hxB := heap_alloc_new wr (.cells #[.int .i64 9, .func (.func 39) #[] #[.pointer (some ⟨b5, 0, none⟩)]] 75)
        have cL := HC3.out (hno.2.1 (by omega))
        generalize hwB : wr.alloc (.cells #[.int .i64 9, .func (.func 39) #[] #[.pointer (some ⟨b5, 0, none⟩)]] 75) = wB at *
        have e0 := (cell_of_row _ _ 0 _ _ _ hxB).trans rfl
        have e1 := (cell_of_row _ _ 1 _ _ _ hxB).trans rfl
        have kl' := (hbA.cell (block_lt_of_cell kl)).trans kl
        have Hno := hid5 hno
        clear hbr hno hxB g0 g1 g2 g3 g4 g5
        go_wp2_with fail
        clear d0 d1 kl' hwB
        obtain ⟨b8, hb8⟩ : ∃ b, wr.heap.size = b := ⟨_, rfl⟩
        simp only [hb8] at e0 e1 ⊢
        clear hb8
        go_loopw [9, 36] (fun _ t wr => IRel us.length (lk3 l) W0 wB t wr) (fun _ t _ => us.length - (intOf t).toNat)
        case atStart => exact ⟨0, rfl, by omega, fun i' hi' => by omega, hbA, Below.refl _ _⟩
        case round =>
          obtain ⟨i, rfl, hi, hall, hbi, hbB⟩ := hrel
          have hi0 : (0 : Int) ≤ (i : Int) := by omega
          have e0' := (hbB.cell (block_lt_of_cell e0)).trans e0
          have e1' := (hbB.cell (block_lt_of_cell e1)).trans e1
          have Hall := hid5 hall
          by_cases hlt : i < us.length
          · have hlt' : (i : Int) < (us.length : Int) := by omega
            have cC := cL i hlt wr hbi
            clear hbA e0 e1 cL hall
            cases hp : lk3 l i with
            | true =>
              rw [hp] at cC
              have HX : Hid (chkW l = (9, i)) := by
                have hall := Hall.out
                have hno := Hno.out
                have h0 := H0.out
                have hlt : i < l.length := by rw [HLL.out]; exact hlt
                have hLL := HLL.out
                exact chk_c h0 (fun a b => hno.1 (by omega) a (by omega)) (fun a b => hno.2.1 (by omega) a (by omega)) hlt hp hall
              clear Hall Hno hp
              go_wp2_with fail
              refine cC.mono ?_
              rintro r w2 ⟨rfl, hb2⟩
              have e0'' := (hb2.cell (block_lt_of_cell e0')).trans e0'
              have hbw := hbi.trans (hb2.mono hbi.size)
              have hz := (hbw.block _ (lt_of_block hres)).trans hres
              have hbF := below_setRow ((HbW.out).trans (hbw.mono (HbW.out).size)) (show w.heap.size ≤ w.heap.size + 1 by omega) #[.int .i64 9, .int .i64 (i : Int)]
              clear cC hb2 e0' e1' hbi hbB hbw
              go_wp2_with (first
                | (refine wpList_store_row rfl 43 _ _ rfl _ _ rfl rfl _ _ hz (by kernel_rfl) (by simp) (by simp [Value.oneCell']) ?_))
              refine flt_ret 2 (by kernel_rfl) (w.heap.size + 1) _ _ rfl rfl (setRow_heap _ _ _ _ _ _ hz) ?_
              rw [HX.out]
              exact ⟨rfl, hbF⟩
            | false =>
              rw [hp] at cC
              have HN : Hid (∀ i', i' < i + 1 → lk3 l i' = false) := fun i' hi' => by
                by_cases e : i' = i
                · rw [e]; exact hp
                · exact Hall.out i' (by omega)
              clear Hall hp
              go_wp2_with fail
              refine cC.mono ?_
              rintro r w2 ⟨rfl, hb2⟩
              have hbw := hbi.trans (hb2.mono hbi.size)
              have hbw2 := hbB.trans (hb2.mono hbB.size)
              clear cC hb2 e0' e1' hbi hbB
              go_wp2_with fail
              go_roundw
              case rel =>
                (repeat apply Exists.intro)
                refine ⟨?_, rfl⟩
                exact ⟨i + 1, by go_num, by omega, HN.out, hbw, hbw2⟩
              case measure => simp [intOf]; omega
          · have hlt' : ¬ (i : Int) < (us.length : Int) := by omega
            have ei : i = us.length := by omega
            have HN : Hid (ORel l us.length W0 (.int .i64 3) wr) := by
              have hno := Hno.out
              have hall := Hall.out
              rw [ei] at hall
              exact ⟨3, rfl, by omega, ⟨fun _ => hno.1 (by omega), fun _ => hno.2.1 (by omega), fun _ => hall⟩, hbi⟩
            clear hbA e0 e1 e0' e1' hbB Hall Hno hall cL ei hbi
            go_wp2_with fail
            go_roundw
            case rel => exact HN.out
            case measure => simp [intOf]
      | 3, _ =>
        have hz := (hbr.block _ (lt_of_block hres)).trans hres
        have hbF := below_setRow ((HbW.out).trans (hbr.mono (HbW.out).size)) (show w.heap.size ≤ w.heap.size + 1 by omega) #[.int .i64 0, .int .i64 0]
        have HX : Hid (chkW l = (0, 0)) := by
          have e := HLL.out
          exact chk_d H0.out (by rw [e]; exact hno.1 (by omega)) (by rw [e]; exact hno.2.1 (by omega)) (by rw [e]; exact hno.2.2 (by omega))
        clear hno HC1 HC2 HC3 g0 g1 g2 g3 g4 g5 hbr
        go_wp2_with (first
          | (refine wpList_store_row rfl 43 _ _ rfl _ _ rfl rfl _ _ hz (by kernel_rfl) (by simp) (by simp [Value.oneCell']) ?_))
        refine flt_ret 2 (by kernel_rfl) (w.heap.size + 1) _ _ rfl rfl (setRow_heap _ _ _ _ _ _ hz) ?_
        rw [HX.out]
        exact ⟨rfl, hbF⟩
      | k + 4, hk3 => exact absurd hk3 (by omega)
  · have HX : Hid (chkW l = wrongR l) := by
      show _ = _
      unfold chkW
      rw [if_pos h0]
    have hne : ((wrongR l).1 != 0) = true := by simpa using h0
    have HR : Hid (∀ W, Below w.heap.size w W → (fun (r : Ending) (w' : World) => r = .returned (.agg #[.int .i64 (chkW l).1, .int .i64 ((chkW l).2 : Int)]) ∧ Below w.heap.size w w') (.returned (.agg #[.int .i64 (wrongR l).1, .int .i64 ((wrongR l).2 : Int)])) W) := fun W hW => ⟨by rw [HX.out], hW⟩
    generalize (wrongR l).1 = er at *
    generalize (((wrongR l).2 : Nat) : Int) = at0 at *
    have bC := (Below.refl w1.heap.size w1).alloc (Nat.le_refl _) (.cells #[.int .i64 er, .int .i64 at0] 43)
    have hb2w := hb1w.trans (bC.mono hb1w.size)
    have m2' := (bC.block _ (lt_of_block m2)).trans m2
    have m3 := heap_alloc_new w1 (.cells #[.int .i64 er, .int .i64 at0] 43)
    have hbF := below_setRow hb2w (show w.heap.size ≤ w.heap.size + 1 by omega) #[.int .i64 er, .int .i64 at0]
    clear m1 m2 bC hb1w h hl hll h0
    generalize hw2 : w1.alloc (.cells #[.int .i64 er, .int .i64 at0] 43) = w2 at *
    have z0 := (cell_of_row _ _ 0 _ _ _ m3).trans rfl
    go_wp2_with (first
      | (refine wpList_load_row rfl 43 _ rfl _ rfl _ _ _ _ m3 faultType rfl (by kernel_rfl) ?_)
      | (refine wpList_store_row rfl 43 _ _ rfl _ _ rfl rfl _ _ m2' (by kernel_rfl) (by simp) (by simp [Value.oneCell']) ?_))
    refine flt_ret 2 (by kernel_rfl) (w.heap.size + 1) _ _ rfl rfl (setRow_heap _ _ _ _ _ _ m2') ?_
    exact HR.out _ hbF
end Go.Proofs.YtllcpoibnmhghaaGreatDoor
