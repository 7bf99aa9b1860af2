/- What check's Wrong comes to. -/
import Derived.Test.YtgfjbcdjpkcbkaaGreatDoorDu14
import Derived.Test.YtgfjbcdjpkcbkaaGreatDoorDu04
import Derived.Test.YtgfjbcdjpkcbkaaGreatDoorDu13
import Derived.Test.YtgfjbcdjpkcbkaaGreatDoorDu12
import Derived.Deep.MidRow
namespace Lx
def frF (p : Nat → Bool) : Nat → Nat → Option Nat
  | _, 0 => none
  | i, k + 1 => if p i = true then some i else frF p (i + 1) k
theorem frF_some {p : Nat → Bool} {j : Nat} (hp : p j = true) : ∀ (k i : Nat), i ≤ j → j < i + k → (∀ i', i ≤ i' → i' < j → p i' = false) → frF p i k = some j
  | 0, i, h1, h2, _ => by omega
  | k + 1, i, h1, h2, h3 => by
    rw [frF]
    by_cases e : i = j
    · subst e; rw [if_pos hp]
    · rw [if_neg (by rw [h3 i (Nat.le_refl _) (by omega)]; decide)]
      exact frF_some hp k (i + 1) (by omega) (by omega) fun i' a b => h3 i' (by omega) b
theorem frF_none {p : Nat → Bool} : ∀ (k i : Nat), (∀ i', i ≤ i' → i' < i + k → p i' = false) → frF p i k = none
  | 0, _, _ => rfl
  | k + 1, i, h => by
    rw [frF, if_neg (by rw [h i (Nat.le_refl _) (by omega)]; decide)]
    exact frF_none k (i + 1) fun i' a b => h i' (by omega) (by omega)
end Lx
namespace Go.Proofs.YtgfjbcdjpkcbkaaGreatDoor
open Go.RowKit Lx
def lk1 (l : List Ru) (i : Nat) : Bool := match l[i]? with | some u => atP5 l u.1 != (i : Int) | none => false
def lk2 (l : List Ru) (i : Nat) : Bool := match l[i]? with | some u => decide (-1 ∈ spkR l u) | none => false
def lk3 (l : List Ru) (i : Nat) : Bool := fol (leadS l) (l.length + 1) (fun _ => false) i i
def chkW (l : List Ru) : Int × Nat := if (wrongR l).1 ≠ 0 then wrongR l else match frF (lk1 l) 0 l.length with
  | some i => (7, i)
  | none => match frF (lk2 l) 0 l.length with
    | some i => (6, i)
    | none => match frF (lk3 l) 0 l.length with
      | some i => (9, i)
      | none => (0, 0)
theorem chk_a {l : List Ru} {i : Nat} (h0 : (wrongR l).1 = 0) (hi : i < l.length) (hp : lk1 l i = true) (hall : ∀ i', i' < i → lk1 l i' = false) : chkW l = (7, i) := by
  unfold chkW
  rw [if_neg (by simpa using h0), frF_some hp l.length 0 (by omega) (by omega) fun i' _ h => hall i' h]
theorem chk_b {l : List Ru} {i : Nat} (h0 : (wrongR l).1 = 0) (h1 : ∀ i', i' < l.length → lk1 l i' = false) (hi : i < l.length) (hp : lk2 l i = true) (hall : ∀ i', i' < i → lk2 l i' = false) : chkW l = (6, i) := by
  unfold chkW
  rw [if_neg (by simpa using h0), frF_none l.length 0 fun i' _ h => h1 i' (by omega), frF_some hp l.length 0 (by omega) (by omega) fun i' _ h => hall i' h]
theorem chk_c {l : List Ru} {i : Nat} (h0 : (wrongR l).1 = 0) (h1 : ∀ i', i' < l.length → lk1 l i' = false) (h2 : ∀ i', i' < l.length → lk2 l i' = false) (hi : i < l.length) (hp : lk3 l i = true) (hall : ∀ i', i' < i → lk3 l i' = false) : chkW l = (9, i) := by
  unfold chkW
  rw [if_neg (by simpa using h0), frF_none l.length 0 fun i' _ h => h1 i' (by omega), frF_none l.length 0 fun i' _ h => h2 i' (by omega), frF_some hp l.length 0 (by omega) (by omega) fun i' _ h => hall i' h]
theorem chk_d {l : List Ru} (h0 : (wrongR l).1 = 0) (h1 : ∀ i', i' < l.length → lk1 l i' = false) (h2 : ∀ i', i' < l.length → lk2 l i' = false) (h3 : ∀ i', i' < l.length → lk3 l i' = false) : chkW l = (0, 0) := by
  unfold chkW
  rw [if_neg (by simpa using h0), frF_none l.length 0 fun i' _ h => h1 i' (by omega), frF_none l.length 0 fun i' _ h => h2 i' (by omega), frF_none l.length 0 fun i' _ h => h3 i' (by omega)]
def IRel (n : Nat) (p : Nat → Bool) (W0 wB : World) (t : Value) (wr : World) : Prop := ∃ i : Nat, t = .int .i64 (i : Int) ∧ i ≤ n ∧ (∀ i', i' < i → p i' = false) ∧ Below W0.heap.size W0 wr ∧ Below wB.heap.size wB wr
def ORel (l : List Ru) (n : Nat) (W0 : World) (t : Value) (wr : World) : Prop := ∃ k : Nat, t = .int .i64 (k : Int) ∧ k ≤ 3 ∧ ((0 < k → ∀ i', i' < n → lk1 l i' = false) ∧ (1 < k → ∀ i', i' < n → lk2 l i' = false) ∧ (2 < k → ∀ i', i' < n → lk3 l i' = false)) ∧ Below W0.heap.size W0 wr
theorem wrong_nms {l : List Ru} (h : (wrongR l).1 = 0) : l.length ≤ 40 ∧ ∀ u ∈ l, (nms u.2).length ≤ 600 := by
  unfold wrongR at h
  split at h
  · cases h
  · refine ⟨by omega, ?_⟩
    have aux : ∀ (l : List Ru) (i : Nat), (wrongL l i).1 = 0 → ∀ u ∈ l, ruleP u = 0 := by
      intro l
      induction l with
      | nil => intro _ _ u hu; cases hu
      | cons x l ih =>
        intro i h u hu
        rw [wrongL] at h
        split at h
        · rename_i hx; exact absurd h hx
        · rename_i hx
          rcases List.mem_cons.1 hu with rfl | hu
          · simpa using hx
          · exact ih _ h u hu
    intro u hu
    have hr := aux l 0 h u hu
    unfold ruleP at hr
    split at hr
    · cases hr
    · have h1 := nms_shape _ u.2 1 0 (Nat.le_refl _) hr
      have h2 := shapeP_le hr
      omega
set_option maxRecDepth 100000 in
set_option maxHeartbeats 8000000 in
theorem chk_any (us : List (Ru × Value)) (v : Value) (w : World) (h : InR w v us) : Calls Tryz.prog 6 #[v] w fun r w' => r = .returned (.agg #[.int .i64 (chkW (us.map (fun p => p.1))).1, .int .i64 ((chkW (us.map (fun p => p.1))).2 : Int)]) ∧ Below w.heap.size w w' := by
  obtain ⟨l, hl⟩ : ∃ l, us.map (fun p => p.1) = l := ⟨_, rfl⟩
  have hll : l.length = us.length := by rw [← hl, List.length_map]
  obtain ⟨pv, cv, rfl⟩ := h.form
  have bA := (Below.refl w.heap.size w).alloc (Nat.le_refl _) (.cells #[.slice pv us.length cv] 22)
  have bB := bA.alloc bA.size (.cells #[.int .i64 0, .int .i64 0] 26)
  have s1 : (w.alloc (.cells #[.slice pv us.length cv] 22)).heap.size = w.heap.size + 1 := by simp
  have n1 := (Below.heap_alloc _ (.cells #[.int .i64 0, .int .i64 0] 26) _ (lt_of_block (heap_alloc_new w (.cells #[.slice pv us.length cv] 22)))).trans (heap_alloc_new w (.cells #[.slice pv us.length cv] 22))
  have n2 := heap_alloc_new (w.alloc (.cells #[.slice pv us.length cv] 22)) (.cells #[.int .i64 0, .int .i64 0] 26)
  rw [s1] at n2
  clear s1 bA
  generalize hwB : (w.alloc (.cells #[.slice pv us.length cv] 22)).alloc (.cells #[.int .i64 0, .int .i64 0] 26) = wB at *
  have cW := wrong_any us _ wB (h.below bB)
  have k1 := (cell_of_row _ _ 0 _ _ _ n1).trans rfl
  rw [hl] at cW ⊢
  go_enter Tryz.func6, Tryz.ntmps6
  go_wp2_with fail
  refine cW.mono ?_
  rintro r w1 ⟨rfl, hb1⟩
  have m1 := (hb1.block _ (lt_of_block n1)).trans n1
  have m2 := (hb1.block _ (lt_of_block n2)).trans n2
  have hb1w := bB.trans (hb1.mono bB.size)
  clear cW hb1 n1 n2 bB k1 hwB
  by_cases h0 : (wrongR l).1 = 0
  · obtain ⟨h40, hnm⟩ := wrong_nms h0
    rw [h0]
    generalize (((wrongR l).2 : Nat) : Int) = at0 at *
    have bC := (Below.refl w1.heap.size w1).alloc (Nat.le_refl _) (.cells #[.int .i64 0, .int .i64 at0] 26)
    have hb2w := hb1w.trans (bC.mono hb1w.size)
    have m1' := (bC.block _ (lt_of_block m1)).trans m1
    have m2' := (bC.block _ (lt_of_block m2)).trans m2
    have k1 := (cell_of_row _ _ 0 _ _ _ m1').trans rfl
    have cN := numbers_any us _ _ (h.below hb2w)
    have m3 := heap_alloc_new w1 (.cells #[.int .i64 0, .int .i64 at0] 26)
    clear m1 m2 bC hb1w
    generalize hw2 : w1.alloc (.cells #[.int .i64 0, .int .i64 at0] 26) = w2 at *
    have z0 := (cell_of_row _ _ 0 _ _ _ m3).trans rfl
    go_wp2_with fail
    clear z0 m3
    refine cN.mono ?_
    rintro r w3 ⟨mb, rfl, hmb, hM, hb3⟩
    have m1 := (hb3.block _ (lt_of_block m1')).trans m1'
    have m2 := (hb3.block _ (lt_of_block m2')).trans m2'
    have hb3w := hb2w.trans (hb3.mono hb2w.size)
    have bD := (Below.refl w3.heap.size w3).alloc (Nat.le_refl _) (.cells #[.map (some mb)] 53)
    have hb4w := hb3w.trans (bD.mono hb3w.size)
    have hM4 : MapN (w3.alloc (.cells #[.map (some mb)] 53)) mb (us.map (fun p => p.1)) := hM.later (bD.block _ (lt_of_map hM))
    have q1 := (bD.block _ (lt_of_block m1)).trans m1
    have q2 := (bD.block _ (lt_of_block m2)).trans m2
    have q4 := heap_alloc_new w3 (.cells #[.map (some mb)] 53)
    have cS := spoken_any us _ mb _ (h.below hb4w) hM4 (by omega) (fun p hp => by
      have := hnm p.1 (by rw [← hl]; exact List.mem_map.2 ⟨p, hp, rfl⟩)
      omega)
    clear cN hb3 hb3w m1 m2 m1' m2' hM hb2w k1 hw2 hmb bD
    generalize hw4 : w3.alloc (.cells #[.map (some mb)] 53) = w4 at *
    have k1 := (cell_of_row _ _ 0 _ _ _ q1).trans rfl
    have k4 := (cell_of_row _ _ 0 _ _ _ q4).trans rfl
    go_wp2_with fail
    refine cS.mono ?_
    rintro r w5 ⟨so, rfl, hZ, hb5⟩
    rw [hl] at hZ
    obtain ⟨pz, cz, hso, _⟩ := (show RowsZ w5 so (l.map (spkR l)) from hZ)
    rw [List.length_map, hll] at hso
    obtain ⟨b4, hb4⟩ : ∃ b, w3.heap.size = b := ⟨_, rfl⟩
    have p1 := (hb5.block _ (lt_of_block q1)).trans q1
    have p2 := (hb5.block _ (lt_of_block q2)).trans q2
    have p4 := (hb5.block _ (lt_of_block q4)).trans q4
    have hM5 := hM4.later (hb5.block _ (lt_of_map hM4))
    have hb5w := hb4w.trans (hb5.mono hb4w.size)
    have bE := (Below.refl w5.heap.size w5).alloc (Nat.le_refl _) (.cells #[so] 55)
    have hb6w := hb5w.trans (bE.mono hb5w.size)
    have x5 := heap_alloc_new w5 (.cells #[so] 55)
    have x1 := (bE.block _ (lt_of_block p1)).trans p1
    have x2 := (bE.block _ (lt_of_block p2)).trans p2
    have x4 := (bE.block _ (lt_of_block p4)).trans p4
    have hM6 := hM5.later (bE.block _ (lt_of_map hM5))
    have hZ6 := RowsZ.below hZ bE
    clear cS hb5 q1 q2 q4 hM4 hb4w hb5w p1 p2 p4 hM5 hZ bE k1 k4 hw4
    generalize hw6 : w5.alloc (.cells #[so] 55) = w6 at *
    rw [hb4] at x4
    obtain ⟨b5, hb5⟩ : ∃ b, w5.heap.size = b := ⟨_, rfl⟩
    rw [hb5] at x5
    have bF := (Below.refl w6.heap.size w6).alloc (Nat.le_refl _) (.cells #[.int .i64 7, .func (.func 19) #[] #[.pointer (some ⟨b4, 0, none⟩), .pointer (some ⟨w.heap.size, 0, none⟩)], .int .i64 6, .func (.func 20) #[] #[.pointer (some ⟨b5, 0, none⟩)], .int .i64 9, .func (.func 22) #[] #[.pointer (some ⟨b5, 0, none⟩)]] 58)
    have hlo := heap_alloc_new w6 (.cells #[.int .i64 7, .func (.func 19) #[] #[.pointer (some ⟨b4, 0, none⟩), .pointer (some ⟨w.heap.size, 0, none⟩)], .int .i64 6, .func (.func 20) #[] #[.pointer (some ⟨b5, 0, none⟩)], .int .i64 9, .func (.func 22) #[] #[.pointer (some ⟨b5, 0, none⟩)]] 58)
    have HbW := hid5 (hb6w.trans (bF.mono hb6w.size))
    have y1 := (bF.block _ (lt_of_block x1)).trans x1
    have y2 := (bF.block _ (lt_of_block x2)).trans x2
    have y4 := (bF.block _ (lt_of_block x4)).trans x4
    have y5 := (bF.block _ (lt_of_block x5)).trans x5
    have hM7 := hM6.later (bF.block _ (lt_of_map hM6))
    have hZ7 := RowsZ.below hZ6 bF
    have hin7 := h.below HbW.out
    have HLL := hid5 hll
    have H0 := hid5 h0
    have hmf : ∀ (fn : Fn) (first cap : Array Value) (w : World), (Instr.makeFunc fn first cap).run Tryz.prog w = .ok (.func fn first cap) w := fun _ _ _ _ => rfl
    subst hso
    clear hb6w bF x1 x2 x4 x5 hM6 hZ6
    try simp only [hb4]
    try simp only [hb5]
    go_wp2_with fail
    try simp only [hb4]
    try simp only [hb5]
    generalize hW0 : w6.alloc (.cells #[.int .i64 7, .func (.func 19) #[] #[.pointer (some ⟨b4, 0, none⟩), .pointer (some ⟨w.heap.size, 0, none⟩)], .int .i64 6, .func (.func 20) #[] #[.pointer (some ⟨b5, 0, none⟩)], .int .i64 9, .func (.func 22) #[] #[.pointer (some ⟨b5, 0, none⟩)]] 58) = W0 at *
    clear hW0 hw6 hb4 hb5
    have kl := (cell_of_row _ _ 0 _ _ _ y1).trans rfl
    have g0 := (cell_of_row _ _ 0 _ _ _ hlo).trans rfl
    have g1 := (cell_of_row _ _ 1 _ _ _ hlo).trans rfl
    have g2 := (cell_of_row _ _ 2 _ _ _ hlo).trans rfl
    have g3 := (cell_of_row _ _ 3 _ _ _ hlo).trans rfl
    have g4 := (cell_of_row _ _ 4 _ _ _ hlo).trans rfl
    have g5 := (cell_of_row _ _ 5 _ _ _ hlo).trans rfl
    have hres := y2
    have HC1 : Hid (∀ (i : Nat), i < us.length → ∀ W, Below W0.heap.size W0 W → Calls Tryz.prog 19 #[.int .i64 (i : Int), .pointer (some ⟨b4, 0, none⟩), .pointer (some ⟨w.heap.size, 0, none⟩)] W fun r w' => r = .returned (.bool (lk1 l i)) ∧ Below W.heap.size W w') := fun i hi W hW => by
      obtain ⟨u, hu⟩ : ∃ u, l[i]? = some u := ⟨l[i]'(by omega), List.getElem?_eq_getElem _⟩
      have e : lk1 l i = (atP5 l u.1 != (i : Int)) := by unfold lk1; rw [hu]
      rw [e]
      have := look1_any us pv cv mb b4 w.heap.size i u W (hin7.below hW) (hM7.later (hW.block _ (lt_of_map hM7))) ((hW.block _ (lt_of_block y1)).trans y1) ((hW.block _ (lt_of_block y4)).trans y4) (by rw [hl]; exact hu)
      rw [hl] at this
      exact this
    have HC2 : Hid (∀ (i : Nat), i < us.length → ∀ W, Below W0.heap.size W0 W → Calls Tryz.prog 20 #[.int .i64 (i : Int), .pointer (some ⟨b5, 0, none⟩)] W fun r w' => r = .returned (.bool (lk2 l i)) ∧ Below W.heap.size W w') := fun i hi W hW => by
      obtain ⟨u, hu⟩ : ∃ u, l[i]? = some u := ⟨l[i]'(by omega), List.getElem?_eq_getElem _⟩
      have e : lk2 l i = decide (-1 ∈ spkR l u) := by unfold lk2; rw [hu]
      rw [e]
      exact look2_any l _ b5 i u W (hZ7.below hW) ((hW.block _ (lt_of_block y5)).trans y5) hu
    have HC3 : Hid ((∀ i', i' < us.length → lk2 l i' = false) → ∀ (i : Nat), i < us.length → ∀ W, Below W0.heap.size W0 W → Calls Tryz.prog 22 #[.int .i64 (i : Int), .pointer (some ⟨b5, 0, none⟩)] W fun r w' => r = .returned (.bool (lk3 l i)) ∧ Below W.heap.size W w') := fun hno i hi W hW => by
      refine look3_any l _ b5 i W (rowsI_of (hZ7.below hW) fun u hu hm => ?_) (by omega) ((hW.block _ (lt_of_block y5)).trans y5) (by omega)
      obtain ⟨j, hj⟩ := List.getElem?_of_mem hu
      have hj' : j < l.length := (List.getElem?_eq_some_iff.1 hj).1
      have := hno j (by omega)
      unfold lk2 at this
      rw [hj] at this
      dsimp only at this
      rw [decide_eq_true hm] at this
      cases this
    have hI40 : (us.length : Int) ≤ 40 := by omega
    clear y1 y2 y4 y5 hM7 hZ7 hin7 hlo h hnm h40 hll h0
    go_loopw [8, 9, 30] (fun _ _ t wr => ORel l us.length W0 t wr) (fun _ _ t _ => 3 - (intOf t).toNat)
    case atStart => exact ⟨0, rfl, by omega, ⟨fun h => absurd h (by omega), fun h => absurd h (by omega), fun h => absurd h (by omega)⟩, Below.refl _ _⟩
    case round =>
      obtain ⟨k, rfl, hk3, hno, hbr⟩ := hrel
      match k, hk3 with
      | 0, _ =>
        have d0 := (hbr.cell (block_lt_of_cell g0)).trans g0
        have d1 := (hbr.cell (block_lt_of_cell g1)).trans g1
        have hbA := hbr.alloc hbr.size (.cells #[.int .i64 7, .func (.func 19) #[] #[.pointer (some ⟨b4, 0, none⟩), .pointer (some ⟨w.heap.size, 0, none⟩)]] 58)
        have hxB := heap_alloc_new wr (.cells #[.int .i64 7, .func (.func 19) #[] #[.pointer (some ⟨b4, 0, none⟩), .pointer (some ⟨w.heap.size, 0, none⟩)]] 58)
        have cL := HC1.out
        generalize hwB : wr.alloc (.cells #[.int .i64 7, .func (.func 19) #[] #[.pointer (some ⟨b4, 0, none⟩), .pointer (some ⟨w.heap.size, 0, none⟩)]] 58) = wB at *
        have e0 := (cell_of_row _ _ 0 _ _ _ hxB).trans rfl
        have e1 := (cell_of_row _ _ 1 _ _ _ hxB).trans rfl
        have kl' := (hbA.cell (block_lt_of_cell kl)).trans kl
        have Hno := hid5 hno
        clear hbr hno hxB g0 g1 g2 g3 g4 g5
        go_wp2_with fail
        clear d0 d1 kl' hwB
        obtain ⟨b8, hb8⟩ : ∃ b, wr.heap.size = b := ⟨_, rfl⟩
        simp only [hb8] at e0 e1 ⊢
        clear hb8
        go_loopw [9, 36] (fun _ t wr => IRel us.length (lk1 l) W0 wB t wr) (fun _ t _ => us.length - (intOf t).toNat)
        case atStart => exact ⟨0, rfl, by omega, fun i' hi' => by omega, hbA, Below.refl _ _⟩
        case round =>
          obtain ⟨i, rfl, hi, hall, hbi, hbB⟩ := hrel
          have hi0 : (0 : Int) ≤ (i : Int) := by omega
          have e0' := (hbB.cell (block_lt_of_cell e0)).trans e0
          have e1' := (hbB.cell (block_lt_of_cell e1)).trans e1
          have Hall := hid5 hall
          by_cases hlt : i < us.length
          · have hlt' : (i : Int) < (us.length : Int) := by omega
            have cC := cL i hlt wr hbi
            clear hbA e0 e1 cL hall
            cases hp : lk1 l i with
            | true =>
              rw [hp] at cC
              have HX : Hid (chkW l = (7, i)) := by
                have hall := Hall.out
                have hno := Hno.out
                have h0 := H0.out
                have hlt : i < l.length := by rw [HLL.out]; exact hlt
                have hLL := HLL.out
                exact chk_a h0 hlt hp hall
              clear Hall Hno hp
              go_wp2_with fail
              refine cC.mono ?_
              rintro r w2 ⟨rfl, hb2⟩
              have e0'' := (hb2.cell (block_lt_of_cell e0')).trans e0'
              have hbw := hbi.trans (hb2.mono hbi.size)
              have hz := (hbw.block _ (lt_of_block hres)).trans hres
              have hbF := below_setRow ((HbW.out).trans (hbw.mono (HbW.out).size)) (show w.heap.size ≤ w.heap.size + 1 by omega) #[.int .i64 7, .int .i64 (i : Int)]
              clear cC hb2 e0' e1' hbi hbB hbw
              go_wp2_with (first
                | (refine wpList_store_row rfl 26 _ _ rfl _ _ rfl rfl _ _ hz (by kernel_rfl) (by simp) (by simp [Value.oneCell']) ?_))
              refine flt_ret 2 (by kernel_rfl) (w.heap.size + 1) _ _ rfl rfl (setRow_heap _ _ _ _ _ _ hz) ?_
              rw [HX.out]
              exact ⟨rfl, hbF⟩
            | false =>
              rw [hp] at cC
              have HN : Hid (∀ i', i' < i + 1 → lk1 l i' = false) := fun i' hi' => by
                by_cases e : i' = i
                · rw [e]; exact hp
                · exact Hall.out i' (by omega)
              clear Hall hp
              go_wp2_with fail
              refine cC.mono ?_
              rintro r w2 ⟨rfl, hb2⟩
              have hbw := hbi.trans (hb2.mono hbi.size)
              have hbw2 := hbB.trans (hb2.mono hbB.size)
              clear cC hb2 e0' e1' hbi hbB
              go_wp2_with fail
              go_roundw
              case rel =>
                (repeat apply Exists.intro)
                refine ⟨?_, rfl⟩
                exact ⟨i + 1, by go_num, by omega, HN.out, hbw, hbw2⟩
              case measure => simp [intOf]; omega
          · have hlt' : ¬ (i : Int) < (us.length : Int) := by omega
            have ei : i = us.length := by omega
            have HN : Hid (ORel l us.length W0 (.int .i64 1) wr) := by
              have hno := Hno.out
              have hall := Hall.out
              rw [ei] at hall
              exact ⟨1, rfl, by omega, ⟨fun _ => hall, fun h => absurd h (by omega), fun h => absurd h (by omega)⟩, hbi⟩
            clear hbA e0 e1 e0' e1' hbB Hall Hno hall cL ei hbi
            go_wp2_with fail
            go_roundw
            case rel => exact HN.out
            case measure => simp [intOf]
      | 1, _ =>
        have d0 := (hbr.cell (block_lt_of_cell g2)).trans g2
        have d1 := (hbr.cell (block_lt_of_cell g3)).trans g3
        have hbA := hbr.alloc hbr.size (.cells #[.int .i64 6, .func (.func 20) #[] #[.pointer (some ⟨b5, 0, none⟩)]] 58)
        have hxB := heap_alloc_new wr (.cells #[.int .i64 6, .func (.func 20) #[] #[.pointer (some ⟨b5, 0, none⟩)]] 58)
        have cL := HC2.out
        generalize hwB : wr.alloc (.cells #[.int .i64 6, .func (.func 20) #[] #[.pointer (some ⟨b5, 0, none⟩)]] 58) = wB at *
        have e0 := (cell_of_row _ _ 0 _ _ _ hxB).trans rfl
        have e1 := (cell_of_row _ _ 1 _ _ _ hxB).trans rfl
        have kl' := (hbA.cell (block_lt_of_cell kl)).trans kl
        have Hno := hid5 hno
        clear hbr hno hxB g0 g1 g2 g3 g4 g5
        go_wp2_with fail
        clear d0 d1 kl' hwB
        obtain ⟨b8, hb8⟩ : ∃ b, wr.heap.size = b := ⟨_, rfl⟩
        simp only [hb8] at e0 e1 ⊢
        clear hb8
        go_loopw [9, 36] (fun _ t wr => IRel us.length (lk2 l) W0 wB t wr) (fun _ t _ => us.length - (intOf t).toNat)
        case atStart => exact ⟨0, rfl, by omega, fun i' hi' => by omega, hbA, Below.refl _ _⟩
        case round =>
          obtain ⟨i, rfl, hi, hall, hbi, hbB⟩ := hrel
          have hi0 : (0 : Int) ≤ (i : Int) := by omega
          have e0' := (hbB.cell (block_lt_of_cell e0)).trans e0
          have e1' := (hbB.cell (block_lt_of_cell e1)).trans e1
          have Hall := hid5 hall
          by_cases hlt : i < us.length
          · have hlt' : (i : Int) < (us.length : Int) := by omega
            have cC := cL i hlt wr hbi
            clear hbA e0 e1 cL hall
            cases hp : lk2 l i with
            | true =>
              rw [hp] at cC
              have HX : Hid (chkW l = (6, i)) := by
                have hall := Hall.out
                have hno := Hno.out
                have h0 := H0.out
                have hlt : i < l.length := by rw [HLL.out]; exact hlt
                have hLL := HLL.out
                exact chk_b h0 (fun a b => hno.1 (by omega) a (by omega)) hlt hp hall
              clear Hall Hno hp
              go_wp2_with fail
              refine cC.mono ?_
              rintro r w2 ⟨rfl, hb2⟩
              have e0'' := (hb2.cell (block_lt_of_cell e0')).trans e0'
              have hbw := hbi.trans (hb2.mono hbi.size)
              have hz := (hbw.block _ (lt_of_block hres)).trans hres
              have hbF := below_setRow ((HbW.out).trans (hbw.mono (HbW.out).size)) (show w.heap.size ≤ w.heap.size + 1 by omega) #[.int .i64 6, .int .i64 (i : Int)]
              clear cC hb2 e0' e1' hbi hbB hbw
              go_wp2_with (first
                | (refine wpList_store_row rfl 26 _ _ rfl _ _ rfl rfl _ _ hz (by kernel_rfl) (by simp) (by simp [Value.oneCell']) ?_))
              refine flt_ret 2 (by kernel_rfl) (w.heap.size + 1) _ _ rfl rfl (setRow_heap _ _ _ _ _ _ hz) ?_
              rw [HX.out]
              exact ⟨rfl, hbF⟩
            | false =>
              rw [hp] at cC
              have HN : Hid (∀ i', i' < i + 1 → lk2 l i' = false) := fun i' hi' => by
                by_cases e : i' = i
                · rw [e]; exact hp
                · exact Hall.out i' (by omega)
              clear Hall hp
              go_wp2_with fail
              refine cC.mono ?_
              rintro r w2 ⟨rfl, hb2⟩
              have hbw := hbi.trans (hb2.mono hbi.size)
              have hbw2 := hbB.trans (hb2.mono hbB.size)
              clear cC hb2 e0' e1' hbi hbB
              go_wp2_with fail
              go_roundw
              case rel =>
                (repeat apply Exists.intro)
                refine ⟨?_, rfl⟩
                exact ⟨i + 1, by go_num, by omega, HN.out, hbw, hbw2⟩
              case measure => simp [intOf]; omega
          · have hlt' : ¬ (i : Int) < (us.length : Int) := by omega
            have ei : i = us.length := by omega
            have HN : Hid (ORel l us.length W0 (.int .i64 2) wr) := by
              have hno := Hno.out
              have hall := Hall.out
              rw [ei] at hall
              exact ⟨2, rfl, by omega, ⟨fun _ => hno.1 (by omega), fun _ => hall, fun h => absurd h (by omega)⟩, hbi⟩
            clear hbA e0 e1 e0' e1' hbB Hall Hno hall cL ei hbi
            go_wp2_with fail
            go_roundw
            case rel => exact HN.out
            case measure => simp [intOf]
      | 2, _ =>
        have d0 := (hbr.cell (block_lt_of_cell g4)).trans g4
        have d1 := (hbr.cell (block_lt_of_cell g5)).trans g5
        have hbA := hbr.alloc hbr.size (.cells #[.int .i64 9, .func (.func 22) #[] #[.pointer (some ⟨b5, 0, none⟩)]] 58)
        have hxB := heap_alloc_new wr (.cells #[.int .i64 9, .func (.func 22) #[] #[.pointer (some ⟨b5, 0, none⟩)]] 58)
        have cL := HC3.out (hno.2.1 (by omega))
        generalize hwB : wr.alloc (.cells #[.int .i64 9, .func (.func 22) #[] #[.pointer (some ⟨b5, 0, none⟩)]] 58) = wB at *
        have e0 := (cell_of_row _ _ 0 _ _ _ hxB).trans rfl
        have e1 := (cell_of_row _ _ 1 _ _ _ hxB).trans rfl
        have kl' := (hbA.cell (block_lt_of_cell kl)).trans kl
        have Hno := hid5 hno
        clear hbr hno hxB g0 g1 g2 g3 g4 g5
        go_wp2_with fail
        clear d0 d1 kl' hwB
        obtain ⟨b8, hb8⟩ : ∃ b, wr.heap.size = b := ⟨_, rfl⟩
        simp only [hb8] at e0 e1 ⊢
        clear hb8
        go_loopw [9, 36] (fun _ t wr => IRel us.length (lk3 l) W0 wB t wr) (fun _ t _ => us.length - (intOf t).toNat)
        case atStart => exact ⟨0, rfl, by omega, fun i' hi' => by omega, hbA, Below.refl _ _⟩
        case round =>
          obtain ⟨i, rfl, hi, hall, hbi, hbB⟩ := hrel
          have hi0 : (0 : Int) ≤ (i : Int) := by omega
          have e0' := (hbB.cell (block_lt_of_cell e0)).trans e0
          have e1' := (hbB.cell (block_lt_of_cell e1)).trans e1
          have Hall := hid5 hall
          by_cases hlt : i < us.length
          · have hlt' : (i : Int) < (us.length : Int) := by omega
            have cC := cL i hlt wr hbi
            clear hbA e0 e1 cL hall
            cases hp : lk3 l i with
            | true =>
              rw [hp] at cC
              have HX : Hid (chkW l = (9, i)) := by
                have hall := Hall.out
                have hno := Hno.out
                have h0 := H0.out
                have hlt : i < l.length := by rw [HLL.out]; exact hlt
                have hLL := HLL.out
                exact chk_c h0 (fun a b => hno.1 (by omega) a (by omega)) (fun a b => hno.2.1 (by omega) a (by omega)) hlt hp hall
              clear Hall Hno hp
              go_wp2_with fail
              refine cC.mono ?_
              rintro r w2 ⟨rfl, hb2⟩
              have e0'' := (hb2.cell (block_lt_of_cell e0')).trans e0'
              have hbw := hbi.trans (hb2.mono hbi.size)
              have hz := (hbw.block _ (lt_of_block hres)).trans hres
              have hbF := below_setRow ((HbW.out).trans (hbw.mono (HbW.out).size)) (show w.heap.size ≤ w.heap.size + 1 by omega) #[.int .i64 9, .int .i64 (i : Int)]
              clear cC hb2 e0' e1' hbi hbB hbw
              go_wp2_with (first
                | (refine wpList_store_row rfl 26 _ _ rfl _ _ rfl rfl _ _ hz (by kernel_rfl) (by simp) (by simp [Value.oneCell']) ?_))
              refine flt_ret 2 (by kernel_rfl) (w.heap.size + 1) _ _ rfl rfl (setRow_heap _ _ _ _ _ _ hz) ?_
              rw [HX.out]
              exact ⟨rfl, hbF⟩
            | false =>
              rw [hp] at cC
              have HN : Hid (∀ i', i' < i + 1 → lk3 l i' = false) := fun i' hi' => by
                by_cases e : i' = i
                · rw [e]; exact hp
                · exact Hall.out i' (by omega)
              clear Hall hp
              go_wp2_with fail
              refine cC.mono ?_
              rintro r w2 ⟨rfl, hb2⟩
              have hbw := hbi.trans (hb2.mono hbi.size)
              have hbw2 := hbB.trans (hb2.mono hbB.size)
              clear cC hb2 e0' e1' hbi hbB
              go_wp2_with fail
              go_roundw
              case rel =>
                (repeat apply Exists.intro)
                refine ⟨?_, rfl⟩
                exact ⟨i + 1, by go_num, by omega, HN.out, hbw, hbw2⟩
              case measure => simp [intOf]; omega
          · have hlt' : ¬ (i : Int) < (us.length : Int) := by omega
            have ei : i = us.length := by omega
            have HN : Hid (ORel l us.length W0 (.int .i64 3) wr) := by
              have hno := Hno.out
              have hall := Hall.out
              rw [ei] at hall
              exact ⟨3, rfl, by omega, ⟨fun _ => hno.1 (by omega), fun _ => hno.2.1 (by omega), fun _ => hall⟩, hbi⟩
            clear hbA e0 e1 e0' e1' hbB Hall Hno hall cL ei hbi
            go_wp2_with fail
            go_roundw
            case rel => exact HN.out
            case measure => simp [intOf]
      | 3, _ =>
        have hz := (hbr.block _ (lt_of_block hres)).trans hres
        have hbF := below_setRow ((HbW.out).trans (hbr.mono (HbW.out).size)) (show w.heap.size ≤ w.heap.size + 1 by omega) #[.int .i64 0, .int .i64 0]
        have HX : Hid (chkW l = (0, 0)) := by
          have e := HLL.out
          exact chk_d H0.out (by rw [e]; exact hno.1 (by omega)) (by rw [e]; exact hno.2.1 (by omega)) (by rw [e]; exact hno.2.2 (by omega))
        clear hno HC1 HC2 HC3 g0 g1 g2 g3 g4 g5 hbr
        go_wp2_with (first
          | (refine wpList_store_row rfl 26 _ _ rfl _ _ rfl rfl _ _ hz (by kernel_rfl) (by simp) (by simp [Value.oneCell']) ?_))
        refine flt_ret 2 (by kernel_rfl) (w.heap.size + 1) _ _ rfl rfl (setRow_heap _ _ _ _ _ _ hz) ?_
        rw [HX.out]
        exact ⟨rfl, hbF⟩
      | k + 4, hk3 => exact absurd hk3 (by omega)
  · have HX : Hid (chkW l = wrongR l) := by
      show _ = _
      unfold chkW
      rw [if_pos h0]
    have hne : ((wrongR l).1 != 0) = true := by simpa using h0
    have HR : Hid (∀ W, Below w.heap.size w W → (fun (r : Ending) (w' : World) => r = .returned (.agg #[.int .i64 (chkW l).1, .int .i64 ((chkW l).2 : Int)]) ∧ Below w.heap.size w w') (.returned (.agg #[.int .i64 (wrongR l).1, .int .i64 ((wrongR l).2 : Int)])) W) := fun W hW => ⟨by rw [HX.out], hW⟩
    generalize (wrongR l).1 = er at *
    generalize (((wrongR l).2 : Nat) : Int) = at0 at *
    have bC := (Below.refl w1.heap.size w1).alloc (Nat.le_refl _) (.cells #[.int .i64 er, .int .i64 at0] 26)
    have hb2w := hb1w.trans (bC.mono hb1w.size)
    have m2' := (bC.block _ (lt_of_block m2)).trans m2
    have m3 := heap_alloc_new w1 (.cells #[.int .i64 er, .int .i64 at0] 26)
    have hbF := below_setRow hb2w (show w.heap.size ≤ w.heap.size + 1 by omega) #[.int .i64 er, .int .i64 at0]
    clear m1 m2 bC hb1w h hl hll h0
    generalize hw2 : w1.alloc (.cells #[.int .i64 er, .int .i64 at0] 26) = w2 at *
    have z0 := (cell_of_row _ _ 0 _ _ _ m3).trans rfl
    go_wp2_with (first
      | (refine wpList_load_row rfl 26 _ rfl _ rfl _ _ _ _ m3 faultType rfl (by kernel_rfl) ?_)
      | (refine wpList_store_row rfl 26 _ _ rfl _ _ rfl rfl _ _ m2' (by kernel_rfl) (by simp) (by simp [Value.oneCell']) ?_))
    refine flt_ret 2 (by kernel_rfl) (w.heap.size + 1) _ _ rfl rfl (setRow_heap _ _ _ _ _ _ m2') ?_
    exact HR.out _ hbF
end Go.Proofs.YtgfjbcdjpkcbkaaGreatDoor

/- What check's Uses comes to; and Ints. -/
namespace Go.Proofs.YtgfjbcdjpkcbkaaGreatDoor
open Go.RowKit Lx
def mkL (m : Nat → Bool) (j : Nat) : List Int := ((List.range j).filter m).map fun k : Nat => (k : Int)
theorem mkL_len (m : Nat → Bool) (j : Nat) : (mkL m j).length ≤ j := by
  unfold mkL
  rw [List.length_map]
  have := List.length_filter_le m (List.range j)
  simpa using this
def usesL (l : List Ru) (r : Int) : List Int := if r < 0 ∨ (l.length : Int) ≤ r ∨ (chkW l).1 ≠ 0 then [] else mkL (fol (leadS l) (l.length + 1) (fun _ => false) r.toNat) l.length
theorem chk_lk2 {l : List Ru} (h : (chkW l).1 = 0) : (wrongR l).1 = 0 ∧ ∀ u ∈ l, -1 ∉ spkR l u := by
  unfold chkW at h
  split at h
  · rename_i h0; exact absurd h h0
  · rename_i h0
    refine ⟨by simpa using h0, fun u hu hm => ?_⟩
    split at h
    · cases h
    · split at h
      · cases h
      · rename_i h2
        obtain ⟨j, hj⟩ := List.getElem?_of_mem hu
        have hj' : j < l.length := (List.getElem?_eq_some_iff.1 hj).1
        have hp : lk2 l j = true := by
          unfold lk2
          rw [hj]
          exact decide_eq_true hm
        have : ∀ (k i : Nat), i ≤ j → j < i + k → frF (lk2 l) i k ≠ none := by
          intro k
          induction k with
          | zero => intro i a b; omega
          | succ k ih =>
            intro i a b
            rw [frF]
            split
            · simp
            · rename_i hn
              have : i ≠ j := fun e => hn (by rw [e]; exact hp)
              exact ih (i + 1) (by omega) (by omega)
        exact this l.length 0 (by omega) (by omega) h2
theorem fieldFlt5 (c0 c1 : Value) (w : World) : (Instr.field 26 (.agg #[c0, c1]) 0).run Tryz.prog w = .ok c0 w := by
  unfold Instr.field
  simp [go_sem, asAgg]
attribute [go_sem] fieldFlt5
end Go.Proofs.YtgfjbcdjpkcbkaaGreatDoor

/- What the document tells of who refers to whom is what the program tells: plain. -/
namespace Lx
end Lx
namespace Go.Proofs.YtgfjbcdjpkcbkaaGreatDoor
open Go.RowKit Lx
theorem right_all {l : List Ru} (h : (wrongR l).1 = 0) : ∀ u ∈ l, ∃ deep n, (shapeP u.2 deep n).1 = 0 := by
  unfold wrongR at h
  split at h
  · cases h
  · have aux : ∀ (l : List Ru) (i : Nat), (wrongL l i).1 = 0 → ∀ u ∈ l, ruleP u = 0 := by
      intro l
      induction l with
      | nil => intro _ _ u hu; cases hu
      | cons x l ih =>
        intro i h u hu
        rw [wrongL] at h
        split at h
        · rename_i hx; exact absurd h hx
        · rename_i hx
          rcases List.mem_cons.1 hu with rfl | hu
          · simpa using hx
          · exact ih _ h u hu
    intro u hu
    have hr := aux l 0 h u hu
    unfold ruleP at hr
    split at hr
    · cases hr
    · exact ⟨1, 0, hr⟩
theorem leadS_lt {l : List Ru} (hno : ∀ u ∈ l, -1 ∉ spkR l u) : ∀ r, ∀ k ∈ leadS l r, k < l.length := fun i k hk' => by
  unfold leadS at hk'
  split at hk'
  · rename_i u hu
    unfold natsOf at hk'
    obtain ⟨m, hm, rfl⟩ := List.mem_map.1 hk'
    have hb := (spoken_len (l := l) (nms u.2) [] List.nodup_nil (fun m hm => by cases hm)).2 m hm
    have hne : m ≠ -1 := fun e => hno u (List.mem_of_getElem? hu) (e ▸ hm)
    omega
  · cases hk'
theorem frF_all {p : Nat → Bool} : ∀ (k i : Nat), frF p i k = none → ∀ j, i ≤ j → j < i + k → p j = false
  | 0, i, _, j, a, b => by omega
  | k + 1, i, h, j, a, b => by
    rw [frF] at h
    split at h
    · cases h
    · rename_i hn
      by_cases e : j = i
      · rw [e]; simpa using hn
      · exact frF_all k (i + 1) h j (by omega) (by omega)
end Go.Proofs.YtgfjbcdjpkcbkaaGreatDoor

/- Who refers to whom: to all that it speaks of, and to all that those refer to: plain. -/
namespace Go.Proofs.YtgfjbcdjpkcbkaaGreatDoor
open Go.RowKit Lx
theorem chk_all {l : List Ru} (h : (chkW l).1 = 0) : (∀ i, i < l.length → lk1 l i = false) ∧ ∀ i, i < l.length → lk3 l i = false := by
  unfold chkW at h
  split at h
  · rename_i h0; exact absurd h h0
  · split at h
    · cases h
    · rename_i h1
      split at h
      · cases h
      · split at h
        · cases h
        · rename_i h3
          exact ⟨fun i hi => frF_all l.length 0 h1 i (by omega) (by omega), fun i hi => frF_all l.length 0 h3 i (by omega) (by omega)⟩
theorem mem_mkL {m : Nat → Bool} {n : Nat} {x : Int} : x ∈ mkL m n ↔ ∃ k : Nat, x = (k : Int) ∧ k < n ∧ m k = true := by
  unfold mkL
  rw [List.mem_map]
  constructor
  · rintro ⟨k, hk, rfl⟩
    rw [List.mem_filter, List.mem_range] at hk
    exact ⟨k, rfl, hk.1, hk.2⟩
  · rintro ⟨k, rfl, h1, h2⟩
    exact ⟨k, by rw [List.mem_filter, List.mem_range]; exact ⟨h1, h2⟩, rfl⟩
theorem way_step {E : Nat → Nat → Bool} {i k : Nat} : Lx.Way E i k ↔ E i k = true ∨ ∃ j, E i j = true ∧ Lx.Way E j k := by
  constructor
  · intro h
    induction h with
    | single h => exact .inl h
    | tail _ h2 ih =>
      rcases ih with ih | ⟨j, h1, ih⟩
      · exact .inr ⟨_, ih, .single h2⟩
      · exact .inr ⟨j, h1, .tail ih h2⟩
  · rintro (h | ⟨j, h1, h2⟩)
    · exact .single h
    · exact (Relation.TransGen.single (r := fun a b => E a b = true) h1).trans h2
theorem uses_mem {l : List Ru} (h : (chkW l).1 = 0) {i : Nat} (hi : i < l.length) {x : Int} : x ∈ usesL l (i : Int) ↔ ∃ k : Nat, x = (k : Int) ∧ k < l.length ∧ Lx.Way (fun a b => (leadS l a).contains b) i k := by
  obtain ⟨h0, hno⟩ := chk_lk2 h
  have e : usesL l (i : Int) = mkL (fol (leadS l) (l.length + 1) (fun _ => false) i) l.length := by
    unfold usesL
    rw [if_neg (by omega)]
    rfl
  rw [e, mem_mkL]
  constructor
  · rintro ⟨k, a, b, c⟩
    exact ⟨k, a, b, (fol_way (leadS_lt hno) (Nat.le_refl _)).1 c⟩
  · rintro ⟨k, a, b, c⟩
    exact ⟨k, a, b, (fol_way (leadS_lt hno) (Nat.le_refl _)).2 c⟩
theorem uses_ok {l : List Ru} (h : (chkW l).1 = 0) {i : Nat} (hi : i < l.length) {x : Int} (hx : x ∈ usesL l (i : Int)) : 0 ≤ x ∧ x < l.length ∧ x ≠ (i : Int) := by
  obtain ⟨h0, hno⟩ := chk_lk2 h
  obtain ⟨k, rfl, hk, hw⟩ := (uses_mem h hi).1 hx
  refine ⟨by omega, by omega, fun e => ?_⟩
  have e' : k = i := by omega
  subst e'
  have h3 := (chk_all h).2 k hk
  unfold lk3 at h3
  rw [(fol_way (leadS_lt hno) (Nat.le_refl _)).2 hw] at h3
  cases h3
end Go.Proofs.YtgfjbcdjpkcbkaaGreatDoor

/- What rules mean on a day: plain. -/
namespace Go.Proofs.YtgfjbcdjpkcbkaaGreatDoor
open Go.RowKit Lx
def nev : Nat → Bool := fun _ => false
def valK (week : Bool) (day : Int) (kind a b : Int) (nm : Nat → Bool) (ks : List (Nat → Bool)) : Nat → Bool :=
  if kind = 2 then fun i => decide (i < 1440)
  else if kind = 3 then fun i => (decide (a ≤ (i : Int)) && decide ((i : Int) < b)) && decide (i < 1440)
  else if kind = 4 then (if week = true then ks.getD 0 nev else nev)
  else if kind = 5 then (if a ≤ day ∧ day ≤ b then ks.getD 0 nev else nev)
  else if kind = 6 then fun i => (ks.getD 0 nev i || ks.getD 1 nev i) && decide (i < 1440)
  else if kind = 7 then fun i => (ks.getD 0 nev i && !ks.getD 1 nev i) && decide (i < 1440)
  else if kind = 8 then fun i => (ks.getD 0 nev i && ks.getD 1 nev i) && decide (i < 1440)
  else if kind = 9 then shf (ks.getD 0 nev) a
  else if kind = 10 then nm
  else nev
def valE (wk : Int → Bool) (day : Int) (env : List UInt8 → Nat → Bool) (e : Ex) : Nat → Bool := valK (wk e.a) day e.kind e.a e.b (env e.name) (e.kids.attach.map fun k => valE wk day env k.1)
  termination_by SizeOf.sizeOf e
  decreasing_by exact kid_lt k.2
theorem valE_eq (wk : Int → Bool) (day : Int) (env : List UInt8 → Nat → Bool) (e : Ex) : valE wk day env e = valK (wk e.a) day e.kind e.a e.b (env e.name) (e.kids.map (valE wk day env)) := by
  rw [valE]
  congr 1
  have h := congrArg (List.map (valE wk day env)) (List.attach_map_subtype_val e.kids)
  rw [List.map_map] at h
  exact h
theorem valE_congr {wk : Int → Bool} {day : Int} {env env' : List UInt8 → Nat → Bool} : ∀ (N : Nat) (e : Ex), SizeOf.sizeOf e ≤ N → (∀ x ∈ nms e, env x = env' x) → valE wk day env e = valE wk day env' e
  | 0, e, hN, _ => by cases e; simp at hN
  | N + 1, e, hN, h => by
    rw [valE_eq, valE_eq]
    have hk : e.kids.map (valE wk day env) = e.kids.map (valE wk day env') := List.map_congr_left fun k hk => valE_congr N k (by have := kid_lt hk; omega) fun x hx => h x (by
      rw [nms_eq, List.mem_append]
      right
      unfold nmsL
      exact List.mem_flatten.2 ⟨nms k, List.mem_map.2 ⟨k, hk, rfl⟩, hx⟩)
    rw [hk]
    by_cases h10 : e.kind = 10
    · rw [h e.name (by rw [nms_eq, if_pos h10]; simp)]
    · unfold valK
      simp only [if_neg h10]
def meanF (l : List Ru) (wk : Int → Bool) (day : Int) : Nat → Nat → Nat → Bool
  | 0, _ => nev
  | f + 1, i => match l[i]? with
    | some u => valE wk day (fun x => meanF l wk day f (atP5 l x).toNat) u.2
    | none => nev
def muR (l : List Ru) (i : Nat) : Nat := (usesL l (i : Int)).length
theorem mkL_nodup (m : Nat → Bool) (n : Nat) : (mkL m n).Nodup := by
  unfold mkL
  have h : ((List.range n).filter m).Nodup := List.nodup_range.filter m
  rw [List.nodup_iff_pairwise_ne, List.pairwise_map]
  exact (List.nodup_iff_pairwise_ne.1 h).imp fun hab e => hab (by omega)
theorem uses_nodup (l : List Ru) (r : Int) : (usesL l r).Nodup := by
  unfold usesL
  split
  · exact List.nodup_nil
  · exact mkL_nodup _ _
theorem nd_len : ∀ (l m : List Int), l.Nodup → (∀ x ∈ l, x ∈ m) → l.length ≤ m.length
  | [], _, _, _ => Nat.zero_le _
  | x :: l, m, hnd, hs => by
    have h1 := List.nodup_cons.1 hnd
    have ih := nd_len l (m.erase x) h1.2 fun y hy => by
      have hne : y ≠ x := fun e => by
        subst e
        exact h1.1 hy
      exact (List.mem_erase_of_ne hne).2 (hs y (List.mem_cons_of_mem _ hy))
    have hx := hs x List.mem_cons_self
    rw [List.length_erase_of_mem hx] at ih
    have := List.length_pos_of_mem hx
    simp only [List.length_cons]
    omega
theorem muR_lt {l : List Ru} (h : (chkW l).1 = 0) {i j : Nat} (hi : i < l.length) (hj : j ∈ leadS l i) : muR l j < muR l i := by
  obtain ⟨_, hno⟩ := chk_lk2 h
  have hjl := leadS_lt hno i j hj
  have hE : (leadS l i).contains j = true := by simpa using hj
  have hsub : ∀ x ∈ (j : Int) :: usesL l (j : Int), x ∈ usesL l (i : Int) := fun x hx => by
    rcases List.mem_cons.1 hx with rfl | hx
    · exact (uses_mem h hi).2 ⟨j, rfl, hjl, way_step.2 (.inl hE)⟩
    · obtain ⟨k, rfl, hk, hw⟩ := (uses_mem h hjl).1 hx
      exact (uses_mem h hi).2 ⟨k, rfl, hk, way_step.2 (.inr ⟨j, hE, hw⟩)⟩
  have hnd : ((j : Int) :: usesL l (j : Int)).Nodup := List.nodup_cons.2 ⟨fun hm => (uses_ok h hjl hm).2.2 rfl, uses_nodup l _⟩
  have := nd_len _ _ hnd hsub
  simp only [List.length_cons] at this
  unfold muR
  omega
theorem lead_of_name {l : List Ru} (_ : (chkW l).1 = 0) {i : Nat} {u : Ru} (hu : l[i]? = some u) {x : List UInt8} (hx : x ∈ nms u.2) : (atP5 l x).toNat ∈ leadS l i := by
  rw [leadS_at hu]
  unfold natsOf spkR
  exact List.mem_map.2 ⟨atP5 l x, (spoken_mem _ _).2 (.inr ⟨x, hx, rfl⟩), rfl⟩
theorem meanF_same {l : List Ru} {wk : Int → Bool} {day : Int} (h : (chkW l).1 = 0) : ∀ (f f' i : Nat), i < l.length → muR l i < f → muR l i < f' → meanF l wk day f i = meanF l wk day f' i
  | 0, _, _, _, a, _ => by omega
  | _ + 1, 0, _, _, _, b => by omega
  | f + 1, f' + 1, i, hi, a, b => by
    obtain ⟨u, hu⟩ : ∃ u, l[i]? = some u := ⟨l[i], List.getElem?_eq_getElem hi⟩
    obtain ⟨_, hno⟩ := chk_lk2 h
    rw [meanF, meanF, hu]
    dsimp only
    refine valE_congr _ u.2 (Nat.le_refl _) fun x hx => ?_
    have hj := lead_of_name h hu hx
    have hlt := muR_lt h hi hj
    exact meanF_same h f f' _ (leadS_lt hno i _ hj) (by omega) (by omega)
theorem uses_len' (l : List Ru) (r : Int) : (usesL l r).length ≤ l.length := by
  unfold usesL
  split
  · exact Nat.zero_le _
  · exact mkL_len _ _
def meanP (l : List Ru) (wk : Int → Bool) (day : Int) (i : Nat) : Nat → Bool := meanF l wk day (l.length + 1) i
theorem meanP_eq {l : List Ru} {wk : Int → Bool} {day : Int} (h : (chkW l).1 = 0) {i : Nat} {u : Ru} (hu : l[i]? = some u) : meanP l wk day i = valE wk day (fun x => meanP l wk day (atP5 l x).toNat) u.2 := by
  have hi : i < l.length := (List.getElem?_eq_some_iff.1 hu).1
  obtain ⟨_, hno⟩ := chk_lk2 h
  have hmu : ∀ j, muR l j ≤ l.length := fun j => uses_len' l (j : Int)
  have e : meanP l wk day i = valE wk day (fun x => meanF l wk day l.length (atP5 l x).toNat) u.2 := by
    unfold meanP
    rw [meanF, hu]
  rw [e]
  refine valE_congr _ u.2 (Nat.le_refl _) fun x hx => ?_
  have hj := lead_of_name h hu hx
  have hlt := muR_lt h hi hj
  have := hmu i
  have := hmu (atP5 l x).toNat
  exact meanF_same h _ _ _ (leadS_lt hno i _ hj) (by omega) (by omega)
end Go.Proofs.YtgfjbcdjpkcbkaaGreatDoor

/- Which day of the week a day is; whether a day is one of those of a guard. -/
namespace Go.Proofs.YtgfjbcdjpkcbkaaGreatDoor
open Go.RowKit Lx
set_option maxHeartbeats 400000 in
theorem isDay6 (n : Int) (w : World) (a : 0 ≤ n) (b : n < 146097) : Calls Tryz.prog 82 #[.int .i64 n] w fun e w' => e = .returned (.bool true) ∧ w' = w := by
  go_enter Tryz.func82, Tryz.ntmps82
  go_wp2
  go_ret
  exact ⟨rfl, rfl⟩
def wkd (n : Int) : Int := (n + 5).tmod 7
theorem wkd_eq (n : Int) (a : 0 ≤ n) : wkd n = (n + 5) % 7 := by
  unfold wkd
  rw [Int.tmod_eq_emod_of_nonneg (by omega)]
theorem wkd_bd (n : Int) (a : 0 ≤ n) : 0 ≤ wkd n ∧ wkd n < 7 := by
  rw [wkd_eq n a]
  omega
set_option maxHeartbeats 400000 in
theorem week6 (n : Int) (w : World) (a : 0 ≤ n) (b : n < 146097) : Calls Tryz.prog 59 #[.int .i64 n] w fun e w' => e = .returned (.int .i64 (wkd n)) ∧ w' = w := by
  have c1 := isDay6 n w a b
  have hb := wkd_bd n a
  have hw : (n + 5).tmod 7 = wkd n := rfl
  go_enter Tryz.func59, Tryz.ntmps59
  go_wp2_with fail
  refine c1.mono ?_
  rintro e w' ⟨rfl, rfl⟩
  clear c1
  go_wp2_with fail
  go_ret
  exact ⟨rfl, rfl⟩
structure DaySt (w : World) (g : Nat) (n : Int) (lv : Value) (mb : Nat) (kv mv' : Value) : Prop where
  blk : w.heap[g]? = some (.cells #[.int .i64 n, lv, .map (some mb), kv, mv'] 64 (0, 0))
def wkB (n a : Int) : Bool := bits BinOp.and IntKind.i64 (a / 2 ^ (wkd n).toNat) 1 == 1
set_option maxHeartbeats 400000 in
theorem isOf4 (g : Nat) (n : Int) (lv : Value) (mb : Nat) (kv mv' : Value) (e : Ex) (pe : Option Addr) (ce : Nat) (w : World) (h : DaySt w g n lv mb kv mv') (a : 0 ≤ n) (b : n < 146097) (hk : e.kind = 4) :
    Calls Tryz.prog 45 #[.pointer (some ⟨g, 0, none⟩), .agg #[.int .i64 e.kind, .int .i64 e.a, .int .i64 e.b, .string ⟨e.name.toArray⟩, .slice pe e.kids.length ce]] w fun r w' => r = .returned (.bool (wkB n e.a)) ∧ Below w.heap.size w w' := by
  have k0 := (cell_of_row _ _ 0 _ _ _ h.blk).trans rfl
  have bA := (Below.refl w.heap.size w).alloc (Nat.le_refl _) (.cells #[.int .i64 e.kind, .int .i64 e.a, .int .i64 e.b, .string ⟨e.name.toArray⟩, .slice pe e.kids.length ce] 31)
  have k0' := (bA.cell (block_lt_of_cell k0)).trans k0
  have hb := wkd_bd n a
  have cw := fun W => week6 n W a b
  rw [hk] at bA k0' ⊢
  go_enter Tryz.func45, Tryz.ntmps45
  go_wp2_with fail
  go_quiet ((go_at_call 59; exact Calls.quiet_of_same (cw _)))
  go_wp2_with fail
  go_ret
  exact ⟨rfl, below_drewN bA nq⟩
set_option maxHeartbeats 400000 in
theorem isOf5 (g : Nat) (n : Int) (lv : Value) (mb : Nat) (kv mv' : Value) (e : Ex) (pe : Option Addr) (ce : Nat) (w : World) (h : DaySt w g n lv mb kv mv') (hk : e.kind = 5) :
    Calls Tryz.prog 45 #[.pointer (some ⟨g, 0, none⟩), .agg #[.int .i64 e.kind, .int .i64 e.a, .int .i64 e.b, .string ⟨e.name.toArray⟩, .slice pe e.kids.length ce]] w fun r w' => r = .returned (.bool (decide (e.a ≤ n) && decide (n ≤ e.b))) ∧ Below w.heap.size w w' := by
  have k0 := (cell_of_row _ _ 0 _ _ _ h.blk).trans rfl
  have bA := (Below.refl w.heap.size w).alloc (Nat.le_refl _) (.cells #[.int .i64 e.kind, .int .i64 e.a, .int .i64 e.b, .string ⟨e.name.toArray⟩, .slice pe e.kids.length ce] 31)
  have k0' := (bA.cell (block_lt_of_cell k0)).trans k0
  rw [hk] at bA k0' ⊢
  by_cases h1 : e.a ≤ n
  · by_cases h2 : n ≤ e.b
    · rw [decide_eq_true h1, decide_eq_true h2]
      go_enter Tryz.func45, Tryz.ntmps45
      go_wp2_with fail
      go_quiet (fail)
      go_wp2_with fail
      go_ret
      exact ⟨rfl, below_drewN bA nq⟩
    · rw [decide_eq_true h1, decide_eq_false h2]
      have hd2 : decide (n ≤ e.b) = false := decide_eq_false h2
      go_enter Tryz.func45, Tryz.ntmps45
      go_wp2_with fail
      go_quiet (fail)
      go_wp2_with fail
      go_ret
      first
        | exact ⟨rfl, below_drewN bA nq⟩
        | exact ⟨congrArg (fun x => Ending.returned (.bool x)) hd2, below_drewN bA nq⟩
  · rw [decide_eq_false h1]
    have hd1 : decide (e.a ≤ n) = false := decide_eq_false h1
    go_enter Tryz.func45, Tryz.ntmps45
    go_wp2_with fail
    go_quiet (fail)
    go_wp2_with fail
    go_ret
    exact ⟨rfl, below_drewN bA nq⟩
end Go.Proofs.YtgfjbcdjpkcbkaaGreatDoor

/- A rule more that nobody speaks of, of a new name, that speaks of none: plain. -/
namespace Go.Proofs.YtgfjbcdjpkcbkaaGreatDoor
open Go.RowKit Lx
end Go.Proofs.YtgfjbcdjpkcbkaaGreatDoor

/- What rules mean beside other rules, and in other weeks: plain. -/
namespace Go.Proofs.YtgfjbcdjpkcbkaaGreatDoor
open Go.RowKit Lx
section
variable {wk : Int → Bool} {day : Int}
end
end Go.Proofs.YtgfjbcdjpkcbkaaGreatDoor

/- The day's struct in memory: what is known of rules, and what they mean. -/
namespace Go.Proofs.YtgfjbcdjpkcbkaaGreatDoor
open Go.RowKit Lx
theorem heap_setCells_other (b : Nat) : ∀ (vs : List Value) (o : Nat) (w : World) (q : Nat), q ≠ b → (w.setCells b o vs).heap[q]? = w.heap[q]?
  | [], _, _, _, _ => rfl
  | v :: vs, o, w, q, h => by
    rw [World.setCells, heap_setCells_other b vs (o + 1) _ q h]
    exact heap_setCell_other w ⟨b, o, none⟩ q v h
theorem below_setCellsM {w : World} (b : Nat) (hb : w.heap.size ≤ b) : ∀ (vs : List Value) (o : Nat) (W : World), Below w.heap.size w W → Below w.heap.size w (W.setCells b o vs)
  | [], _, _, h => h
  | v :: vs, o, W, h => by
    rw [World.setCells]
    exact below_setCellsM b hb vs (o + 1) _ (h.setCell hb v)
theorem range_later {W W' : World} {b o : Nat} {cs : List Value} (h : W.rangeAt b o cs) (hb : Below W.heap.size W W') : W'.rangeAt b o cs := fun j v hv => (hb.cell (block_lt_of_cell (h j v hv))).trans (h j v hv)
structure MSt (w : World) (n g gk gm mb : Nat) (day : Int) (lv : Value) (l : List Ru) (K : Nat → Bool) (M : Nat → Nat → Bool) (W : World) : Prop where
  bel : Below w.heap.size w W
  blk : W.heap[g]? = some (.cells #[.int .i64 day, lv, .map (some mb), .slice (some ⟨gk, 0, none⟩) n n, .slice (some ⟨gm, 0, none⟩) n n] 64 (0, 0))
  known : W.heap[gk]? = some (.cells (bcells n K) 4 (0, 0))
  meant : ∀ i, i < n → W.rangeAt gm (i * 23) (mv (M i)).toList
  held : ∃ cs, W.heap[gm]? = some (.cells cs 43 (0, 0))
  nums : MapN W mb l
  lo : w.heap.size ≤ g ∧ w.heap.size ≤ gk ∧ w.heap.size ≤ gm
  ne : g ≠ gk ∧ g ≠ gm ∧ gk ≠ gm ∧ mb ≠ gk ∧ mb ≠ gm
variable {w W W' : World} {n g gk gm mb : Nat} {day : Int} {lv : Value} {l : List Ru} {K : Nat → Bool} {M : Nat → Nat → Bool}
theorem MSt.later (h : MSt w n g gk gm mb day lv l K M W) (hb : Below W.heap.size W W') : MSt w n g gk gm mb day lv l K M W' :=
  ⟨h.bel.trans (hb.mono h.bel.size), (hb.block _ (lt_of_block h.blk)).trans h.blk, (hb.block _ (lt_of_block h.known)).trans h.known, fun i hi => range_later (h.meant i hi) hb, by
    obtain ⟨cs, hc⟩ := h.held
    exact ⟨cs, (hb.block _ (lt_of_block hc)).trans hc⟩, h.nums.later (hb.block _ (lt_of_map h.nums)), h.lo, h.ne⟩
theorem MSt.mark (h : MSt w n g gk gm mb day lv l K M W) (i : Nat) : MSt w n g gk gm mb day lv l (upd K i) M (W.setCell ⟨gk, i, none⟩ (.bool true)) := by
  obtain ⟨n1, n2, n3, n4, n5⟩ := h.ne
  have ho : ∀ q, q ≠ gk → (W.setCell ⟨gk, i, none⟩ (.bool true)).heap[q]? = W.heap[q]? := fun q hq => heap_setCell_other W ⟨gk, i, none⟩ q _ hq
  refine ⟨h.bel.setCell h.lo.2.1 _, (ho _ n1).trans h.blk, ?_, fun j hj => ?_, ?_, h.nums.later (ho _ n4), h.lo, h.ne⟩
  · rw [← bcells_set]
    exact heap_setCell_same W gk i _ _ _ h.known
  · intro k v hv
    rw [← h.meant j hj k v hv]
    exact World.cell?_setCell_other _ _ _ _ (fun e => n3 (congrArg Addr.block e))
  · obtain ⟨cs, hc⟩ := h.held
    exact ⟨cs, (ho _ (fun e => n3 e.symm)).trans hc⟩
theorem heap_setCells_cells (b : Nat) {t : TypeId} : ∀ (vs : List Value) (o : Nat) (W : World), (∃ cs, W.heap[b]? = some (.cells cs t (0, 0))) → ∃ cs, (W.setCells b o vs).heap[b]? = some (.cells cs t (0, 0))
  | [], _, _, h => h
  | v :: vs, o, W, h => by
    rw [World.setCells]
    obtain ⟨cs, hc⟩ := h
    exact heap_setCells_cells b vs (o + 1) _ ⟨_, heap_setCell_same W b o cs t v hc⟩
def updM (M : Nat → Nat → Bool) (i : Nat) (f : Nat → Bool) : Nat → Nat → Bool := fun j => if j = i then f else M j
theorem MSt.there (h : MSt w n g gk gm mb day lv l K M W) {i : Nat} (hi : i < n) : W.there gm (i * 23) 23 := fun j hj => by
  obtain ⟨cs, hc⟩ := h.held
  refine ⟨(h.meant i hi).isSome j (by rw [Array.length_toList, mv_size]; exact hj), frozen_of_row _ _ _ _ _ hc⟩
theorem MSt.put (h : MSt w n g gk gm mb day lv l K M W) {i : Nat} (hi : i < n) (f : Nat → Bool) : MSt w n g gk gm mb day lv l K (updM M i f) (W.setCells gm (i * 23) (mv f).toList) := by
  obtain ⟨n1, n2, n3, n4, n5⟩ := h.ne
  have ho : ∀ q, q ≠ gm → (W.setCells gm (i * 23) (mv f).toList).heap[q]? = W.heap[q]? := fun q hq => heap_setCells_other gm _ _ W q hq
  refine ⟨below_setCellsM gm h.lo.2.2 _ _ _ h.bel, (ho _ n2).trans h.blk, (ho _ n3).trans h.known, fun j hj => ?_, heap_setCells_cells gm _ _ W h.held, h.nums.later (ho _ n5), h.lo, h.ne⟩
  by_cases e : j = i
  · subst e
    rw [updM, if_pos rfl]
    exact World.rangeAt_setCells_same W gm _ _ (by rw [Array.length_toList, mv_size]; exact h.there hj)
  · rw [updM, if_neg e]
    refine World.rangeAt_setCells_apart (h.meant j hj) gm _ _ (.inr ?_)
    rw [Array.length_toList, Array.length_toList, mv_size, mv_size]
    omega
end Go.Proofs.YtgfjbcdjpkcbkaaGreatDoor

/- What a rule means, as the program finds it out: a rule that is known. -/
namespace Go.Proofs.YtgfjbcdjpkcbkaaGreatDoor
open Go.RowKit Lx
variable {w W W' : World} {n g gk gm mb : Nat} {day : Int} {lv : Value} {l : List Ru} {K : Nat → Bool} {M : Nat → Nat → Bool}
theorem maskT6 : Tryz.prog.underlying 43 = some (.array 23 41) := by kernel_rfl
theorem maskLen (f : Nat → Bool) : (Tryz.prog.info? 43).map (fun i => i.size) = some (mv f).toList.length := by
  rw [Array.length_toList]
  exact maskSize f
theorem wpList_load_mask {W : World} {ops : Array Oper} {rest : List Oper} {op : Oper} {a : Act} {Q : Exit → Act → World → Prop} (hgd : op.guard = none) (x : Operand) (ho : op.op = .load 43 x) (b o : Nat) (hx : a.eval x = .pointer (some ⟨b, o, none⟩)) (f : Nat → Bool) (hc : W.rangeAt b o (mv f).toList)
    (h : wpList Tryz.prog ops Q rest (a.put op.dst (.agg (mv f))) W) : wpList Tryz.prog ops Q (op :: rest) a W :=
  wpList_load_mid hgd 43 x ho b o hx (mv f).toList _ hc maskT6 rfl (maskLen f) (by rw [Array.toArray_toList]; exact h)
theorem wp_load_mask {op : Oper} {a : Act} {W : World} {K : Act → World → Prop} {Q : Exit → Act → World → Prop} (x : Operand) (ho : op.op = .load 43 x) (b o : Nat) (hx : a.eval x = .pointer (some ⟨b, o, none⟩)) (f : Nat → Bool) (hc : W.rangeAt b o (mv f).toList)
    (h : K (a.put op.dst (.agg (mv f))) W) : op.wp Tryz.prog a W K Q :=
  wp_load_mid 43 x ho b o hx (mv f).toList _ hc maskT6 rfl (maskLen f) (by rw [Array.toArray_toList]; exact h)
set_option maxRecDepth 100000 in
set_option maxHeartbeats 1000000 in
theorem rule_known (h : MSt w n g gk gm mb day lv l K M W) {i : Nat} (hi : i < n) (hn : n ≤ 40) (hK : K i = true) :
    Calls Tryz.prog 24 #[.pointer (some ⟨g, 0, none⟩), .int .i64 (i : Int)] W fun e w' => e = .returned (.agg (mv (M i))) ∧ Below W.heap.size W w' := by
  have hz := mv_lit
  have bA := (Below.refl W.heap.size W).alloc (Nat.le_refl _) (.cells (mv fun _ => false) 43)
  have nA := heap_alloc_new W (.cells (mv fun _ => false) 43)
  have h' := h.later bA
  generalize hwA : W.alloc (.cells (mv fun _ => false) 43) = WA at *
  have k3 := (cell_of_row _ _ 3 _ _ _ h'.blk).trans rfl
  have k4 := (cell_of_row _ _ 4 _ _ _ h'.blk).trans rfl
  have ki := (cell_of_row _ _ i _ _ _ h'.known).trans (bcells_at hi)
  rw [hK] at ki
  have hi0 : (0 : Int) ≤ (i : Int) := by omega
  have hin : (i : Int) < (n : Int) := by omega
  have hn40 : (n : Int) ≤ 40 := by omega
  have HM := hid5 (h'.meant i hi)
  clear h hK h'
  go_enter Tryz.func24, Tryz.ntmps24
  go_wp2_with (first
    | (refine wpList_load_mask rfl _ rfl gm (i * 23) rfl (M i) HM.out ?_)
    | (refine wpList_store_row rfl 43 _ _ rfl _ _ rfl rfl _ _ nA (maskSize _) (by simp [mv_size]) (mv_all _) ?_))
  refine bodyPost_ret (v := .agg (mv (M i))) ?_ rfl ⟨rfl, ?_⟩
  · exact results_cell_row rfl _ _ W.heap.size _ _ _ _ rfl (setRow_heap _ _ _ _ _ _ nA) maskType rfl (maskSize _)
  · exact below_setRow bA (Nat.le_refl _) _
end Go.Proofs.YtgfjbcdjpkcbkaaGreatDoor

/- The week's bit, as the program and as the document ask for it. -/
namespace Go.Proofs.YtgfjbcdjpkcbkaaGreatDoor
open Go.RowKit Lx
end Go.Proofs.YtgfjbcdjpkcbkaaGreatDoor
