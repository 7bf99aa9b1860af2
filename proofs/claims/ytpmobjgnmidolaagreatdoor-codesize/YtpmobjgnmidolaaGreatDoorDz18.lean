/- What check's Wrong comes to. -/
import Derived.Test.YtpmobjgnmidolaaGreatDoorDz17
import Derived.Test.YtpmobjgnmidolaaGreatDoorDz04
import Derived.Test.YtpmobjgnmidolaaGreatDoorDz10
namespace Lx
def frF (p : Nat → Bool) : Nat → Nat → Option Nat
  | _, 0 => none
  | i, k + 1 => if p i = true then some i else frF p (i + 1) k
theorem frF_some {p : Nat → Bool} {j : Nat} (hp : p j = true) : ∀ (k i : Nat), i ≤ j → j < i + k → (∀ i', i ≤ i' → i' < j → p i' = false) → frF p i k = some j
  | 0, i, h1, h2, _ => by omega
  | k + 1, i, h1, h2, h3 => by
    rw [frF]
    by_cases e : i = j
    · subst e; rw [if_pos hp]
    · rw [if_neg (by rw [h3 i (Nat.le_refl _) (by omega)]; decide)]
      exact frF_some hp k (i + 1) (by omega) (by omega) fun i' a b => h3 i' (by omega) b
theorem frF_none {p : Nat → Bool} : ∀ (k i : Nat), (∀ i', i ≤ i' → i' < i + k → p i' = false) → frF p i k = none
  | 0, _, _ => rfl
  | k + 1, i, h => by
    rw [frF, if_neg (by rw [h i (Nat.le_refl _) (by omega)]; decide)]
    exact frF_none k (i + 1) fun i' a b => h i' (by omega) (by omega)
end Lx
namespace Go.Proofs.YtpmobjgnmidolaaGreatDoor
open Go.RowKit Lx
def lk1 (l : List Ru) (i : Nat) : Bool := match l[i]? with | some u => atP5 l u.1 != (i : Int) | none => false
def lk2 (l : List Ru) (i : Nat) : Bool := match l[i]? with | some u => decide (-1 ∈ spkR l u) | none => false
def lk3 (l : List Ru) (i : Nat) : Bool := fol (leadS l) (l.length + 1) (fun _ => false) i i
def chkW (l : List Ru) : Int × Nat := if (wrongR l).1 ≠ 0 then wrongR l else match frF (lk1 l) 0 l.length with
  | some i => (7, i)
  | none => match frF (lk2 l) 0 l.length with
    | some i => (6, i)
    | none => match frF (lk3 l) 0 l.length with
      | some i => (9, i)
      | none => (0, 0)
theorem chk_a {l : List Ru} {i : Nat} (h0 : (wrongR l).1 = 0) (hi : i < l.length) (hp : lk1 l i = true) (hall : ∀ i', i' < i → lk1 l i' = false) : chkW l = (7, i) := by
  unfold chkW
  rw [if_neg (by simpa using h0), frF_some hp l.length 0 (by omega) (by omega) fun i' _ h => hall i' h]
theorem chk_b {l : List Ru} {i : Nat} (h0 : (wrongR l).1 = 0) (h1 : ∀ i', i' < l.length → lk1 l i' = false) (hi : i < l.length) (hp : lk2 l i = true) (hall : ∀ i', i' < i → lk2 l i' = false) : chkW l = (6, i) := by
  unfold chkW
  rw [if_neg (by simpa using h0), frF_none l.length 0 fun i' _ h => h1 i' (by omega), frF_some hp l.length 0 (by omega) (by omega) fun i' _ h => hall i' h]
theorem chk_c {l : List Ru} {i : Nat} (h0 : (wrongR l).1 = 0) (h1 : ∀ i', i' < l.length → lk1 l i' = false) (h2 : ∀ i', i' < l.length → lk2 l i' = false) (hi : i < l.length) (hp : lk3 l i = true) (hall : ∀ i', i' < i → lk3 l i' = false) : chkW l = (9, i) := by
  unfold chkW
  rw [if_neg (by simpa using h0), frF_none l.length 0 fun i' _ h => h1 i' (by omega), frF_none l.length 0 fun i' _ h => h2 i' (by omega), frF_some hp l.length 0 (by omega) (by omega) fun i' _ h => hall i' h]
theorem chk_d {l : List Ru} (h0 : (wrongR l).1 = 0) (h1 : ∀ i', i' < l.length → lk1 l i' = false) (h2 : ∀ i', i' < l.length → lk2 l i' = false) (h3 : ∀ i', i' < l.length → lk3 l i' = false) : chkW l = (0, 0) := by
  unfold chkW
  rw [if_neg (by simpa using h0), frF_none l.length 0 fun i' _ h => h1 i' (by omega), frF_none l.length 0 fun i' _ h => h2 i' (by omega), frF_none l.length 0 fun i' _ h => h3 i' (by omega)]
def IRel (n : Nat) (p : Nat → Bool) (W0 wB : World) (t : Value) (wr : World) : Prop := ∃ i : Nat, t = .int .i64 (i : Int) ∧ i ≤ n ∧ (∀ i', i' < i → p i' = false) ∧ Below W0.heap.size W0 wr ∧ Below wB.heap.size wB wr
def ORel (l : List Ru) (n : Nat) (W0 : World) (t : Value) (wr : World) : Prop := ∃ k : Nat, t = .int .i64 (k : Int) ∧ k ≤ 3 ∧ ((0 < k → ∀ i', i' < n → lk1 l i' = false) ∧ (1 < k → ∀ i', i' < n → lk2 l i' = false) ∧ (2 < k → ∀ i', i' < n → lk3 l i' = false)) ∧ Below W0.heap.size W0 wr
theorem wrong_nms {l : List Ru} (h : (wrongR l).1 = 0) : l.length ≤ 40 ∧ ∀ u ∈ l, (nms u.2).length ≤ 600 := by
  unfold wrongR at h
  split at h
  · cases h
  · refine ⟨by omega, ?_⟩
    have aux : ∀ (l : List Ru) (i : Nat), (wrongL l i).1 = 0 → ∀ u ∈ l, ruleP u = 0 := by
      intro l
      induction l with
      | nil => intro _ _ u hu; cases hu
      | cons x l ih =>
        intro i h u hu
        rw [wrongL] at h
        split at h
        · rename_i hx; exact absurd h hx
        · rename_i hx
          rcases List.mem_cons.1 hu with rfl | hu
          · simpa using hx
          · exact ih _ h u hu
    intro u hu
    have hr := aux l 0 h u hu
    unfold ruleP at hr
    split at hr
    · cases hr
    · have h1 := nms_shape _ u.2 1 0 (Nat.le_refl _) hr
      have h2 := shapeP_le hr
      omega
set_option maxRecDepth 100000 in
set_option maxHeartbeats 8000000 in
theorem chk_any (us : List (Ru × Value)) (v : Value) (w : World) (h : InR w v us) : Calls Tryz.prog 9 #[v] w fun r w' => r = .returned (.agg #[.int .i64 (chkW (us.map (fun p => p.1))).1, .int .i64 ((chkW (us.map (fun p => p.1))).2 : Int)]) ∧ Below w.heap.size w w' := by
  obtain ⟨l, hl⟩ : ∃ l, us.map (fun p => p.1) = l := ⟨_, rfl⟩
  have hll : l.length = us.length := by rw [← hl, List.length_map]
  obtain ⟨pv, cv, rfl⟩ := h.form
  have bA := (Below.refl w.heap.size w).alloc (Nat.le_refl _) (.cells #[.slice pv us.length cv] 22)
  have bB := bA.alloc bA.size (.cells #[.int .i64 0, .int .i64 0] 27)
  have s1 : (w.alloc (.cells #[.slice pv us.length cv] 22)).heap.size = w.heap.size + 1 := by simp
  have n1 := (Below.heap_alloc _ (.cells #[.int .i64 0, .int .i64 0] 27) _ (lt_of_block (heap_alloc_new w (.cells #[.slice pv us.length cv] 22)))).trans (heap_alloc_new w (.cells #[.slice pv us.length cv] 22))
  have n2 := heap_alloc_new (w.alloc (.cells #[.slice pv us.length cv] 22)) (.cells #[.int .i64 0, .int .i64 0] 27)
  rw [s1] at n2
  clear s1 bA
  generalize hwB : (w.alloc (.cells #[.slice pv us.length cv] 22)).alloc (.cells #[.int .i64 0, .int .i64 0] 27) = wB at *
  have cW := wrong_any us _ wB (h.below bB)
  have k1 := (cell_of_row _ _ 0 _ _ _ n1).trans rfl
  rw [hl] at cW ⊢
  go_enter Tryz.func9, Tryz.ntmps9
  go_wp2_with fail
  refine cW.mono ?_
  rintro r w1 ⟨rfl, hb1⟩
  have m1 := (hb1.block _ (lt_of_block n1)).trans n1
  have m2 := (hb1.block _ (lt_of_block n2)).trans n2
  have hb1w := bB.trans (hb1.mono bB.size)
  clear cW hb1 n1 n2 bB k1 hwB
  by_cases h0 : (wrongR l).1 = 0
  · obtain ⟨h40, hnm⟩ := wrong_nms h0
    rw [h0]
    generalize (((wrongR l).2 : Nat) : Int) = at0 at *
    have bC := (Below.refl w1.heap.size w1).alloc (Nat.le_refl _) (.cells #[.int .i64 0, .int .i64 at0] 27)
    have hb2w := hb1w.trans (bC.mono hb1w.size)
    have m1' := (bC.block _ (lt_of_block m1)).trans m1
    have m2' := (bC.block _ (lt_of_block m2)).trans m2
    have k1 := (cell_of_row _ _ 0 _ _ _ m1').trans rfl
    have cN := numbers_any us _ _ (h.below hb2w)
    have m3 := heap_alloc_new w1 (.cells #[.int .i64 0, .int .i64 at0] 27)
    clear m1 m2 bC hb1w
    generalize hw2 : w1.alloc (.cells #[.int .i64 0, .int .i64 at0] 27) = w2 at *
    have z0 := (cell_of_row _ _ 0 _ _ _ m3).trans rfl
    go_wp2_with fail
    clear z0 m3
    refine cN.mono ?_
    rintro r w3 ⟨mb, rfl, hmb, hM, hb3⟩
    have m1 := (hb3.block _ (lt_of_block m1')).trans m1'
    have m2 := (hb3.block _ (lt_of_block m2')).trans m2'
    have hb3w := hb2w.trans (hb3.mono hb2w.size)
    have bD := (Below.refl w3.heap.size w3).alloc (Nat.le_refl _) (.cells #[.map (some mb)] 50)
    have hb4w := hb3w.trans (bD.mono hb3w.size)
    have hM4 : MapN (w3.alloc (.cells #[.map (some mb)] 50)) mb (us.map (fun p => p.1)) := hM.later (bD.block _ (lt_of_map hM))
    have q1 := (bD.block _ (lt_of_block m1)).trans m1
    have q2 := (bD.block _ (lt_of_block m2)).trans m2
    have q4 := heap_alloc_new w3 (.cells #[.map (some mb)] 50)
    have cS := spoken_any us _ mb _ (h.below hb4w) hM4 (by omega) (fun p hp => by
      have := hnm p.1 (by rw [← hl]; exact List.mem_map.2 ⟨p, hp, rfl⟩)
      omega)
    clear cN hb3 hb3w m1 m2 m1' m2' hM hb2w k1 hw2 hmb bD
    generalize hw4 : w3.alloc (.cells #[.map (some mb)] 50) = w4 at *
    have k1 := (cell_of_row _ _ 0 _ _ _ q1).trans rfl
    have k4 := (cell_of_row _ _ 0 _ _ _ q4).trans rfl
    go_wp2_with fail
    refine cS.mono ?_
    rintro r w5 ⟨so, rfl, hZ, hb5⟩
    rw [hl] at hZ
    obtain ⟨pz, cz, hso, _⟩ := (show RowsZ w5 so (l.map (spkR l)) from hZ)
    rw [List.length_map, hll] at hso
    obtain ⟨b4, hb4⟩ : ∃ b, w3.heap.size = b := ⟨_, rfl⟩
    have p1 := (hb5.block _ (lt_of_block q1)).trans q1
    have p2 := (hb5.block _ (lt_of_block q2)).trans q2
    have p4 := (hb5.block _ (lt_of_block q4)).trans q4
    have hM5 := hM4.later (hb5.block _ (lt_of_map hM4))
    have hb5w := hb4w.trans (hb5.mono hb4w.size)
    have bE := (Below.refl w5.heap.size w5).alloc (Nat.le_refl _) (.cells #[so] 61)
    have hb6w := hb5w.trans (bE.mono hb5w.size)
    have x5 := heap_alloc_new w5 (.cells #[so] 61)
    have x1 := (bE.block _ (lt_of_block p1)).trans p1
    have x2 := (bE.block _ (lt_of_block p2)).trans p2
    have x4 := (bE.block _ (lt_of_block p4)).trans p4
    have hM6 := hM5.later (bE.block _ (lt_of_map hM5))
    have hZ6 := RowsZ.below hZ bE
    clear cS hb5 q1 q2 q4 hM4 hb4w hb5w p1 p2 p4 hM5 hZ bE k1 k4 hw4
    generalize hw6 : w5.alloc (.cells #[so] 61) = w6 at *
    rw [hb4] at x4
    obtain ⟨b5, hb5⟩ : ∃ b, w5.heap.size = b := ⟨_, rfl⟩
    rw [hb5] at x5
    have bF := (Below.refl w6.heap.size w6).alloc (Nat.le_refl _) (.cells #[.int .i64 7, .func (.func 19) #[] #[.pointer (some ⟨b4, 0, none⟩), .pointer (some ⟨w.heap.size, 0, none⟩)], .int .i64 6, .func (.func 20) #[] #[.pointer (some ⟨b5, 0, none⟩)], .int .i64 9, .func (.func 22) #[] #[.pointer (some ⟨b5, 0, none⟩)]] 64)
    have hlo := heap_alloc_new w6 (.cells #[.int .i64 7, .func (.func 19) #[] #[.pointer (some ⟨b4, 0, none⟩), .pointer (some ⟨w.heap.size, 0, none⟩)], .int .i64 6, .func (.func 20) #[] #[.pointer (some ⟨b5, 0, none⟩)], .int .i64 9, .func (.func 22) #[] #[.pointer (some ⟨b5, 0, none⟩)]] 64)
    have HbW := hid5 (hb6w.trans (bF.mono hb6w.size))
    have y1 := (bF.block _ (lt_of_block x1)).trans x1
    have y2 := (bF.block _ (lt_of_block x2)).trans x2
    have y4 := (bF.block _ (lt_of_block x4)).trans x4
    have y5 := (bF.block _ (lt_of_block x5)).trans x5
    have hM7 := hM6.later (bF.block _ (lt_of_map hM6))
    have hZ7 := RowsZ.below hZ6 bF
    have hin7 := h.below HbW.out
    have HLL := hid5 hll
    have H0 := hid5 h0
    have hmf : ∀ (fn : Fn) (first cap : Array Value) (w : World), (Instr.makeFunc fn first cap).run Tryz.prog w = .ok (.func fn first cap) w := fun _ _ _ _ => rfl
    subst hso
    clear hb6w bF x1 x2 x4 x5 hM6 hZ6
    try simp only [hb4]
    try simp only [hb5]
    go_wp2_with fail
    try simp only [hb4]
    try simp only [hb5]
    generalize hW0 : w6.alloc (.cells #[.int .i64 7, .func (.func 19) #[] #[.pointer (some ⟨b4, 0, none⟩), .pointer (some ⟨w.heap.size, 0, none⟩)], .int .i64 6, .func (.func 20) #[] #[.pointer (some ⟨b5, 0, none⟩)], .int .i64 9, .func (.func 22) #[] #[.pointer (some ⟨b5, 0, none⟩)]] 64) = W0 at *
    clear hW0 hw6 hb4 hb5
    have kl := (cell_of_row _ _ 0 _ _ _ y1).trans rfl
    have g0 := (cell_of_row _ _ 0 _ _ _ hlo).trans rfl
    have g1 := (cell_of_row _ _ 1 _ _ _ hlo).trans rfl
    have g2 := (cell_of_row _ _ 2 _ _ _ hlo).trans rfl
    have g3 := (cell_of_row _ _ 3 _ _ _ hlo).trans rfl
    have g4 := (cell_of_row _ _ 4 _ _ _ hlo).trans rfl
    have g5 := (cell_of_row _ _ 5 _ _ _ hlo).trans rfl
    have hres := y2
    have HC1 : Hid (∀ (i : Nat), i < us.length → ∀ W, Below W0.heap.size W0 W → Calls Tryz.prog 19 #[.int .i64 (i : Int), .pointer (some ⟨b4, 0, none⟩), .pointer (some ⟨w.heap.size, 0, none⟩)] W fun r w' => r = .returned (.bool (lk1 l i)) ∧ Below W.heap.size W w') := fun i hi W hW => by
      obtain ⟨u, hu⟩ : ∃ u, l[i]? = some u := ⟨l[i]'(by omega), List.getElem?_eq_getElem _⟩
      have e : lk1 l i = (atP5 l u.1 != (i : Int)) := by unfold lk1; rw [hu]
      rw [e]
      have := look1_any us pv cv mb b4 w.heap.size i u W (hin7.below hW) (hM7.later (hW.block _ (lt_of_map hM7))) ((hW.block _ (lt_of_block y1)).trans y1) ((hW.block _ (lt_of_block y4)).trans y4) (by rw [hl]; exact hu)
      rw [hl] at this
      exact this
    have HC2 : Hid (∀ (i : Nat), i < us.length → ∀ W, Below W0.heap.size W0 W → Calls Tryz.prog 20 #[.int .i64 (i : Int), .pointer (some ⟨b5, 0, none⟩)] W fun r w' => r = .returned (.bool (lk2 l i)) ∧ Below W.heap.size W w') := fun i hi W hW => by
      obtain ⟨u, hu⟩ : ∃ u, l[i]? = some u := ⟨l[i]'(by omega), List.getElem?_eq_getElem _⟩
      have e : lk2 l i = decide (-1 ∈ spkR l u) := by unfold lk2; rw [hu]
      rw [e]
      exact look2_any l _ b5 i u W (hZ7.below hW) ((hW.block _ (lt_of_block y5)).trans y5) hu
    have HC3 : Hid ((∀ i', i' < us.length → lk2 l i' = false) → ∀ (i : Nat), i < us.length → ∀ W, Below W0.heap.size W0 W → Calls Tryz.prog 22 #[.int .i64 (i : Int), .pointer (some ⟨b5, 0, none⟩)] W fun r w' => r = .returned (.bool (lk3 l i)) ∧ Below W.heap.size W w') := fun hno i hi W hW => by
      refine look3_any l _ b5 i W (rowsI_of (hZ7.below hW) fun u hu hm => ?_) (by omega) ((hW.block _ (lt_of_block y5)).trans y5) (by omega)
      obtain ⟨j, hj⟩ := List.getElem?_of_mem hu
      have hj' : j < l.length := (List.getElem?_eq_some_iff.1 hj).1
      have := hno j (by omega)
      unfold lk2 at this
      rw [hj] at this
      dsimp only at this
      rw [decide_eq_true hm] at this
      cases this
    have hI40 : (us.length : Int) ≤ 40 := by omega
    clear y1 y2 y4 y5 hM7 hZ7 hin7 hlo h hnm h40 hll h0
    go_loopw [8, 9, 30] (fun _ _ t wr => ORel l us.length W0 t wr) (fun _ _ t _ => 3 - (intOf t).toNat)
    case atStart => exact ⟨0, rfl, by omega, ⟨fun h => absurd h (by omega), fun h => absurd h (by omega), fun h => absurd h (by omega)⟩, Below.refl _ _⟩
    case round =>
      obtain ⟨k, rfl, hk3, hno, hbr⟩ := hrel
      match k, hk3 with
      | 0, _ =>
        have d0 := (hbr.cell (block_lt_of_cell g0)).trans g0
        have d1 := (hbr.cell (block_lt_of_cell g1)).trans g1
        have hbA := hbr.alloc hbr.size (.cells #[.int .i64 7, .func (.func 19) #[] #[.pointer (some ⟨b4, 0, none⟩), .pointer (some ⟨w.heap.size, 0, none⟩)]] 64)
        have hxB := heap_alloc_new wr (.cells #[.int .i64 7, .func (.func 19) #[] #[.pointer (some ⟨b4, 0, none⟩), .pointer (some ⟨w.heap.size, 0, none⟩)]] 64)
        have cL := HC1.out
        generalize hwB : wr.alloc (.cells #[.int .i64 7, .func (.func 19) #[] #[.pointer (some ⟨b4, 0, none⟩), .pointer (some ⟨w.heap.size, 0, none⟩)]] 64) = wB at *
        have e0 := (cell_of_row _ _ 0 _ _ _ hxB).trans rfl
        have e1 := (cell_of_row _ _ 1 _ _ _ hxB).trans rfl
        have kl' := (hbA.cell (block_lt_of_cell kl)).trans kl
        have Hno := hid5 hno
        clear hbr hno hxB g0 g1 g2 g3 g4 g5
        go_wp2_with fail
        clear d0 d1 kl' hwB
        obtain ⟨b8, hb8⟩ : ∃ b, wr.heap.size = b := ⟨_, rfl⟩
        simp only [hb8] at e0 e1 ⊢
        clear hb8
        go_loopw [9, 36] (fun _ t wr => IRel us.length (lk1 l) W0 wB t wr) (fun _ t _ => us.length - (intOf t).toNat)
        case atStart => exact ⟨0, rfl, by omega, fun i' hi' => by omega, hbA, Below.refl _ _⟩
        case round =>
          obtain ⟨i, rfl, hi, hall, hbi, hbB⟩ := hrel
          have hi0 : (0 : Int) ≤ (i : Int) := by omega
          have e0' := (hbB.cell (block_lt_of_cell e0)).trans e0
          have e1' := (hbB.cell (block_lt_of_cell e1)).trans e1
          have Hall := hid5 hall
          by_cases hlt : i < us.length
          · have hlt' : (i : Int) < (us.length : Int) := by omega
            have cC := cL i hlt wr hbi
            clear hbA e0 e1 cL hall
            cases hp : lk1 l i with
            | true =>
              rw [hp] at cC
              have HX : Hid (chkW l = (7, i)) := by
                have hall := Hall.out
                have hno := Hno.out
                have h0 := H0.out
                have hlt : i < l.length := by rw [HLL.out]; exact hlt
                have hLL := HLL.out
                exact chk_a h0 hlt hp hall
              clear Hall Hno hp
              go_wp2_with fail
              refine cC.mono ?_
              rintro r w2 ⟨rfl, hb2⟩
              have e0'' := (hb2.cell (block_lt_of_cell e0')).trans e0'
              have hbw := hbi.trans (hb2.mono hbi.size)
              have hz := (hbw.block _ (lt_of_block hres)).trans hres
              have hbF := below_setRow ((HbW.out).trans (hbw.mono (HbW.out).size)) (show w.heap.size ≤ w.heap.size + 1 by omega) #[.int .i64 7, .int .i64 (i : Int)]
              clear cC hb2 e0' e1' hbi hbB hbw
              go_wp2_with (first
                | (refine wpList_store_row rfl 27 _ _ rfl _ _ rfl rfl _ _ hz (by kernel_rfl) (by simp) (by simp [Value.oneCell']) ?_))
              refine flt_ret 2 (by kernel_rfl) (w.heap.size + 1) _ _ rfl rfl (setRow_heap _ _ _ _ _ _ hz) ?_
              rw [HX.out]
              exact ⟨rfl, hbF⟩
            | false =>
              rw [hp] at cC
              have HN : Hid (∀ i', i' < i + 1 → lk1 l i' = false) := fun i' hi' => by
                by_cases e : i' = i
                · rw [e]; exact hp
                · exact Hall.out i' (by omega)
              clear Hall hp
              go_wp2_with fail
              refine cC.mono ?_
              rintro r w2 ⟨rfl, hb2⟩
              have hbw := hbi.trans (hb2.mono hbi.size)
              have hbw2 := hbB.trans (hb2.mono hbB.size)
              clear cC hb2 e0' e1' hbi hbB
              go_wp2_with fail
              go_roundw
              case rel =>
                (repeat apply Exists.intro)
                refine ⟨?_, rfl⟩
                exact ⟨i + 1, by go_num, by omega, HN.out, hbw, hbw2⟩
              case measure => simp [intOf]; omega
          · have hlt' : ¬ (i : Int) < (us.length : Int) := by omega
            have ei : i = us.length := by omega
            have HN : Hid (ORel l us.length W0 (.int .i64 1) wr) := by
              have hno := Hno.out
              have hall := Hall.out
              rw [ei] at hall
              exact ⟨1, rfl, by omega, ⟨fun _ => hall, fun h => absurd h (by omega), fun h => absurd h (by omega)⟩, hbi⟩
            clear hbA e0 e1 e0' e1' hbB Hall Hno hall cL ei hbi
            go_wp2_with fail
            go_roundw
            case rel => exact HN.out
            case measure => simp [intOf]
      | 1, _ =>
        have d0 := (hbr.cell (block_lt_of_cell g2)).trans g2
        have d1 := (hbr.cell (block_lt_of_cell g3)).trans g3
        have hbA := hbr.alloc hbr.size (.cells #[.int .i64 6, .func (.func 20) #[] #[.pointer (some ⟨b5, 0, none⟩)]] 64)
        have hxB := heap_alloc_new wr (.cells #[.int .i64 6, .func (.func 20) #[] #[.pointer (some ⟨b5, 0, none⟩)]] 64)
        have cL := HC2.out
        generalize hwB : wr.alloc (.cells #[.int .i64 6, .func (.func 20) #[] #[.pointer (some ⟨b5, 0, none⟩)]] 64) = wB at *
        have e0 := (cell_of_row _ _ 0 _ _ _ hxB).trans rfl
        have e1 := (cell_of_row _ _ 1 _ _ _ hxB).trans rfl
        have kl' := (hbA.cell (block_lt_of_cell kl)).trans kl
        have Hno := hid5 hno
        clear hbr hno hxB g0 g1 g2 g3 g4 g5
        go_wp2_with fail
        clear d0 d1 kl' hwB
        obtain ⟨b8, hb8⟩ : ∃ b, wr.heap.size = b := ⟨_, rfl⟩
        simp only [hb8] at e0 e1 ⊢
        clear hb8
        go_loopw [9, 36] (fun _ t wr => IRel us.length (lk2 l) W0 wB t wr) (fun _ t _ => us.length - (intOf t).toNat)
        case atStart => exact ⟨0, rfl, by omega, fun i' hi' => by omega, hbA, Below.refl _ _⟩
        case round =>
          obtain ⟨i, rfl, hi, hall, hbi, hbB⟩ := hrel
          have hi0 : (0 : Int) ≤ (i : Int) := by omega
          have e0' := (hbB.cell (block_lt_of_cell e0)).trans e0
          have e1' := (hbB.cell (block_lt_of_cell e1)).trans e1
          have Hall := hid5 hall
          by_cases hlt : i < us.length
          · have hlt' : (i : Int) < (us.length : Int) := by omega
            have cC := cL i hlt wr hbi
            clear hbA e0 e1 cL hall
            cases hp : lk2 l i with
            | true =>
              rw [hp] at cC
              have HX : Hid (chkW l = (6, i)) := by
                have hall := Hall.out
                have hno := Hno.out
                have h0 := H0.out
                have hlt : i < l.length := by rw [HLL.out]; exact hlt
                have hLL := HLL.out
                exact chk_b h0 (fun a b => hno.1 (by omega) a (by omega)) hlt hp hall
              clear Hall Hno hp
              go_wp2_with fail
              refine cC.mono ?_
              rintro r w2 ⟨rfl, hb2⟩
              have e0'' := (hb2.cell (block_lt_of_cell e0')).trans e0'
              have hbw := hbi.trans (hb2.mono hbi.size)
              have hz := (hbw.block _ (lt_of_block hres)).trans hres
              have hbF := below_setRow ((HbW.out).trans (hbw.mono (HbW.out).size)) (show w.heap.size ≤ w.heap.size + 1 by omega) #[.int .i64 6, .int .i64 (i : Int)]
              clear cC hb2 e0' e1' hbi hbB hbw
              go_wp2_with (first
                | (refine wpList_store_row rfl 27 _ _ rfl _ _ rfl rfl _ _ hz (by kernel_rfl) (by simp) (by simp [Value.oneCell']) ?_))
              refine flt_ret 2 (by kernel_rfl) (w.heap.size + 1) _ _ rfl rfl (setRow_heap _ _ _ _ _ _ hz) ?_
              rw [HX.out]
              exact ⟨rfl, hbF⟩
            | false =>
              rw [hp] at cC
              have HN : Hid (∀ i', i' < i + 1 → lk2 l i' = false) := fun i' hi' => by
                by_cases e : i' = i
                · rw [e]; exact hp
                · exact Hall.out i' (by omega)
              clear Hall hp
              go_wp2_with fail
              refine cC.mono ?_
              rintro r w2 ⟨rfl, hb2⟩
              have hbw := hbi.trans (hb2.mono hbi.size)
              have hbw2 := hbB.trans (hb2.mono hbB.size)
              clear cC hb2 e0' e1' hbi hbB
              go_wp2_with fail
              go_roundw
              case rel =>
                (repeat apply Exists.intro)
                refine ⟨?_, rfl⟩
                exact ⟨i + 1, by go_num, by omega, HN.out, hbw, hbw2⟩
              case measure => simp [intOf]; omega
          · have hlt' : ¬ (i : Int) < (us.length : Int) := by omega
            have ei : i = us.length := by omega
            have HN : Hid (ORel l us.length W0 (.int .i64 2) wr) := by
              have hno := Hno.out
              have hall := Hall.out
              rw [ei] at hall
              exact ⟨2, rfl, by omega, ⟨fun _ => hno.1 (by omega), fun _ => hall, fun h => absurd h (by omega)⟩, hbi⟩
            clear hbA e0 e1 e0' e1' hbB Hall Hno hall cL ei hbi
            go_wp2_with fail
            go_roundw
            case rel => exact HN.out
            case measure => simp [intOf]
      | 2, _ =>
        have d0 := (hbr.cell (block_lt_of_cell g4)).trans g4
        have d1 := (hbr.cell (block_lt_of_cell g5)).trans g5
        have hbA := hbr.alloc hbr.size (.cells #[.int .i64 9, .func (.func 22) #[] #[.pointer (some ⟨b5, 0, none⟩)]] 64)
        have hxB := heap_alloc_new wr (.cells #[.int .i64 9, .func (.func 22) #[] #[.pointer (some ⟨b5, 0, none⟩)]] 64)
        have cL := HC3.out (hno.2.1 (by omega))
        generalize hwB : wr.alloc (.cells #[.int .i64 9, .func (.func 22) #[] #[.pointer (some ⟨b5, 0, none⟩)]] 64) = wB at *
        have e0 := (cell_of_row _ _ 0 _ _ _ hxB).trans rfl
        have e1 := (cell_of_row _ _ 1 _ _ _ hxB).trans rfl
        have kl' := (hbA.cell (block_lt_of_cell kl)).trans kl
        have Hno := hid5 hno
        clear hbr hno hxB g0 g1 g2 g3 g4 g5
        go_wp2_with fail
        clear d0 d1 kl' hwB
        obtain ⟨b8, hb8⟩ : ∃ b, wr.heap.size = b := ⟨_, rfl⟩
        simp only [hb8] at e0 e1 ⊢
        clear hb8
        go_loopw [9, 36] (fun _ t wr => IRel us.length (lk3 l) W0 wB t wr) (fun _ t _ => us.length - (intOf t).toNat)
        case atStart => exact ⟨0, rfl, by omega, fun i' hi' => by omega, hbA, Below.refl _ _⟩
        case round =>
          obtain ⟨i, rfl, hi, hall, hbi, hbB⟩ := hrel
          have hi0 : (0 : Int) ≤ (i : Int) := by omega
          have e0' := (hbB.cell (block_lt_of_cell e0)).trans e0
          have e1' := (hbB.cell (block_lt_of_cell e1)).trans e1
          have Hall := hid5 hall
          by_cases hlt : i < us.length
          · have hlt' : (i : Int) < (us.length : Int) := by omega
            have cC := cL i hlt wr hbi
            clear hbA e0 e1 cL hall
            cases hp : lk3 l i with
            | true =>
              rw [hp] at cC
              have HX : Hid (chkW l = (9, i)) := by
                have hall := Hall.out
                have hno := Hno.out
                have h0 := H0.out
                have hlt : i < l.length := by rw [HLL.out]; exact hlt
                have hLL := HLL.out
                exact chk_c h0 (fun a b => hno.1 (by omega) a (by omega)) (fun a b => hno.2.1 (by omega) a (by omega)) hlt hp hall
              clear Hall Hno hp
              go_wp2_with fail
              refine cC.mono ?_
              rintro r w2 ⟨rfl, hb2⟩
              have e0'' := (hb2.cell (block_lt_of_cell e0')).trans e0'
              have hbw := hbi.trans (hb2.mono hbi.size)
              have hz := (hbw.block _ (lt_of_block hres)).trans hres
              have hbF := below_setRow ((HbW.out).trans (hbw.mono (HbW.out).size)) (show w.heap.size ≤ w.heap.size + 1 by omega) #[.int .i64 9, .int .i64 (i : Int)]
              clear cC hb2 e0' e1' hbi hbB hbw
              go_wp2_with (first
                | (refine wpList_store_row rfl 27 _ _ rfl _ _ rfl rfl _ _ hz (by kernel_rfl) (by simp) (by simp [Value.oneCell']) ?_))
              refine flt_ret 2 (by kernel_rfl) (w.heap.size + 1) _ _ rfl rfl (setRow_heap _ _ _ _ _ _ hz) ?_
              rw [HX.out]
              exact ⟨rfl, hbF⟩
            | false =>
              rw [hp] at cC
              have HN : Hid (∀ i', i' < i + 1 → lk3 l i' = false) := fun i' hi' => by
                by_cases e : i' = i
                · rw [e]; exact hp
                · exact Hall.out i' (by omega)
              clear Hall hp
              go_wp2_with fail
              refine cC.mono ?_
              rintro r w2 ⟨rfl, hb2⟩
              have hbw := hbi.trans (hb2.mono hbi.size)
              have hbw2 := hbB.trans (hb2.mono hbB.size)
              clear cC hb2 e0' e1' hbi hbB
              go_wp2_with fail
              go_roundw
              case rel =>
                (repeat apply Exists.intro)
                refine ⟨?_, rfl⟩
                exact ⟨i + 1, by go_num, by omega, HN.out, hbw, hbw2⟩
              case measure => simp [intOf]; omega
          · have hlt' : ¬ (i : Int) < (us.length : Int) := by omega
            have ei : i = us.length := by omega
            have HN : Hid (ORel l us.length W0 (.int .i64 3) wr) := by
              have hno := Hno.out
              have hall := Hall.out
              rw [ei] at hall
              exact ⟨3, rfl, by omega, ⟨fun _ => hno.1 (by omega), fun _ => hno.2.1 (by omega), fun _ => hall⟩, hbi⟩
            clear hbA e0 e1 e0' e1' hbB Hall Hno hall cL ei hbi
            go_wp2_with fail
            go_roundw
            case rel => exact HN.out
            case measure => simp [intOf]
      | 3, _ =>
        have hz := (hbr.block _ (lt_of_block hres)).trans hres
        have hbF := below_setRow ((HbW.out).trans (hbr.mono (HbW.out).size)) (show w.heap.size ≤ w.heap.size + 1 by omega) #[.int .i64 0, .int .i64 0]
        have HX : Hid (chkW l = (0, 0)) := by
          have e := HLL.out
          exact chk_d H0.out (by rw [e]; exact hno.1 (by omega)) (by rw [e]; exact hno.2.1 (by omega)) (by rw [e]; exact hno.2.2 (by omega))
        clear hno HC1 HC2 HC3 g0 g1 g2 g3 g4 g5 hbr
        go_wp2_with (first
          | (refine wpList_store_row rfl 27 _ _ rfl _ _ rfl rfl _ _ hz (by kernel_rfl) (by simp) (by simp [Value.oneCell']) ?_))
        refine flt_ret 2 (by kernel_rfl) (w.heap.size + 1) _ _ rfl rfl (setRow_heap _ _ _ _ _ _ hz) ?_
        rw [HX.out]
        exact ⟨rfl, hbF⟩
      | k + 4, hk3 => exact absurd hk3 (by omega)
  · have HX : Hid (chkW l = wrongR l) := by
      show _ = _
      unfold chkW
      rw [if_pos h0]
    have hne : ((wrongR l).1 != 0) = true := by simpa using h0
    have HR : Hid (∀ W, Below w.heap.size w W → (fun (r : Ending) (w' : World) => r = .returned (.agg #[.int .i64 (chkW l).1, .int .i64 ((chkW l).2 : Int)]) ∧ Below w.heap.size w w') (.returned (.agg #[.int .i64 (wrongR l).1, .int .i64 ((wrongR l).2 : Int)])) W) := fun W hW => ⟨by rw [HX.out], hW⟩
    generalize (wrongR l).1 = er at *
    generalize (((wrongR l).2 : Nat) : Int) = at0 at *
    have bC := (Below.refl w1.heap.size w1).alloc (Nat.le_refl _) (.cells #[.int .i64 er, .int .i64 at0] 27)
    have hb2w := hb1w.trans (bC.mono hb1w.size)
    have m2' := (bC.block _ (lt_of_block m2)).trans m2
    have m3 := heap_alloc_new w1 (.cells #[.int .i64 er, .int .i64 at0] 27)
    have hbF := below_setRow hb2w (show w.heap.size ≤ w.heap.size + 1 by omega) #[.int .i64 er, .int .i64 at0]
    clear m1 m2 bC hb1w h hl hll h0
    generalize hw2 : w1.alloc (.cells #[.int .i64 er, .int .i64 at0] 27) = w2 at *
    have z0 := (cell_of_row _ _ 0 _ _ _ m3).trans rfl
    go_wp2_with (first
      | (refine wpList_load_row rfl 27 _ rfl _ rfl _ _ _ _ m3 faultType rfl (by kernel_rfl) ?_)
      | (refine wpList_store_row rfl 27 _ _ rfl _ _ rfl rfl _ _ m2' (by kernel_rfl) (by simp) (by simp [Value.oneCell']) ?_))
    refine flt_ret 2 (by kernel_rfl) (w.heap.size + 1) _ _ rfl rfl (setRow_heap _ _ _ _ _ _ m2') ?_
    exact HR.out _ hbF
end Go.Proofs.YtpmobjgnmidolaaGreatDoor

/- What check's Uses comes to; and Ints. -/
namespace Go.Proofs.YtpmobjgnmidolaaGreatDoor
open Go.RowKit Lx
def mkL (m : Nat → Bool) (j : Nat) : List Int := ((List.range j).filter m).map fun k : Nat => (k : Int)
theorem mkL_len (m : Nat → Bool) (j : Nat) : (mkL m j).length ≤ j := by
  unfold mkL
  rw [List.length_map]
  have := List.length_filter_le m (List.range j)
  simpa using this
def usesL (l : List Ru) (r : Int) : List Int := if r < 0 ∨ (l.length : Int) ≤ r ∨ (chkW l).1 ≠ 0 then [] else mkL (fol (leadS l) (l.length + 1) (fun _ => false) r.toNat) l.length
theorem chk_lk2 {l : List Ru} (h : (chkW l).1 = 0) : (wrongR l).1 = 0 ∧ ∀ u ∈ l, -1 ∉ spkR l u := by
  unfold chkW at h
  split at h
  · rename_i h0; exact absurd h h0
  · rename_i h0
    refine ⟨by simpa using h0, fun u hu hm => ?_⟩
    split at h
    · cases h
    · split at h
      · cases h
      · rename_i h2
        obtain ⟨j, hj⟩ := List.getElem?_of_mem hu
        have hj' : j < l.length := (List.getElem?_eq_some_iff.1 hj).1
        have hp : lk2 l j = true := by
          unfold lk2
          rw [hj]
          exact decide_eq_true hm
        have : ∀ (k i : Nat), i ≤ j → j < i + k → frF (lk2 l) i k ≠ none := by
          intro k
          induction k with
          | zero => intro i a b; omega
          | succ k ih =>
            intro i a b
            rw [frF]
            split
            · simp
            · rename_i hn
              have : i ≠ j := fun e => hn (by rw [e]; exact hp)
              exact ih (i + 1) (by omega) (by omega)
        exact this l.length 0 (by omega) (by omega) h2
theorem fieldFlt5 (c0 c1 : Value) (w : World) : (Instr.field 27 (.agg #[c0, c1]) 0).run Tryz.prog w = .ok c0 w := by
  unfold Instr.field
  simp [go_sem, asAgg]
attribute [go_sem] fieldFlt5
end Go.Proofs.YtpmobjgnmidolaaGreatDoor

/- What the document tells of who refers to whom is what the program tells: plain. -/
namespace Lx
end Lx
namespace Go.Proofs.YtpmobjgnmidolaaGreatDoor
open Go.RowKit Lx
theorem leadS_lt {l : List Ru} (hno : ∀ u ∈ l, -1 ∉ spkR l u) : ∀ r, ∀ k ∈ leadS l r, k < l.length := fun i k hk' => by
  unfold leadS at hk'
  split at hk'
  · rename_i u hu
    unfold natsOf at hk'
    obtain ⟨m, hm, rfl⟩ := List.mem_map.1 hk'
    have hb := (spoken_len (l := l) (nms u.2) [] List.nodup_nil (fun m hm => by cases hm)).2 m hm
    have hne : m ≠ -1 := fun e => hno u (List.mem_of_getElem? hu) (e ▸ hm)
    omega
  · cases hk'
theorem frF_all {p : Nat → Bool} : ∀ (k i : Nat), frF p i k = none → ∀ j, i ≤ j → j < i + k → p j = false
  | 0, i, _, j, a, b => by omega
  | k + 1, i, h, j, a, b => by
    rw [frF] at h
    split at h
    · cases h
    · rename_i hn
      by_cases e : j = i
      · rw [e]; simpa using hn
      · exact frF_all k (i + 1) h j (by omega) (by omega)
end Go.Proofs.YtpmobjgnmidolaaGreatDoor

/- Who refers to whom: to all that it speaks of, and to all that those refer to: plain. -/
namespace Go.Proofs.YtpmobjgnmidolaaGreatDoor
open Go.RowKit Lx
theorem chk_all {l : List Ru} (h : (chkW l).1 = 0) : (∀ i, i < l.length → lk1 l i = false) ∧ ∀ i, i < l.length → lk3 l i = false := by
  unfold chkW at h
  split at h
  · rename_i h0; exact absurd h h0
  · split at h
    · cases h
    · rename_i h1
      split at h
      · cases h
      · split at h
        · cases h
        · rename_i h3
          exact ⟨fun i hi => frF_all l.length 0 h1 i (by omega) (by omega), fun i hi => frF_all l.length 0 h3 i (by omega) (by omega)⟩
theorem mem_mkL {m : Nat → Bool} {n : Nat} {x : Int} : x ∈ mkL m n ↔ ∃ k : Nat, x = (k : Int) ∧ k < n ∧ m k = true := by
  unfold mkL
  rw [List.mem_map]
  constructor
  · rintro ⟨k, hk, rfl⟩
    rw [List.mem_filter, List.mem_range] at hk
    exact ⟨k, rfl, hk.1, hk.2⟩
  · rintro ⟨k, rfl, h1, h2⟩
    exact ⟨k, by rw [List.mem_filter, List.mem_range]; exact ⟨h1, h2⟩, rfl⟩
theorem way_step {E : Nat → Nat → Bool} {i k : Nat} : Lx.Way E i k ↔ E i k = true ∨ ∃ j, E i j = true ∧ Lx.Way E j k := by
  constructor
  · intro h
    induction h with
    | single h => exact .inl h
    | tail _ h2 ih =>
      rcases ih with ih | ⟨j, h1, ih⟩
      · exact .inr ⟨_, ih, .single h2⟩
      · exact .inr ⟨j, h1, .tail ih h2⟩
  · rintro (h | ⟨j, h1, h2⟩)
    · exact .single h
    · exact (Relation.TransGen.single (r := fun a b => E a b = true) h1).trans h2
theorem uses_mem {l : List Ru} (h : (chkW l).1 = 0) {i : Nat} (hi : i < l.length) {x : Int} : x ∈ usesL l (i : Int) ↔ ∃ k : Nat, x = (k : Int) ∧ k < l.length ∧ Lx.Way (fun a b => (leadS l a).contains b) i k := by
  obtain ⟨h0, hno⟩ := chk_lk2 h
  have e : usesL l (i : Int) = mkL (fol (leadS l) (l.length + 1) (fun _ => false) i) l.length := by
    unfold usesL
    rw [if_neg (by omega)]
    rfl
  rw [e, mem_mkL]
  constructor
  · rintro ⟨k, a, b, c⟩
    exact ⟨k, a, b, (fol_way (leadS_lt hno) (Nat.le_refl _)).1 c⟩
  · rintro ⟨k, a, b, c⟩
    exact ⟨k, a, b, (fol_way (leadS_lt hno) (Nat.le_refl _)).2 c⟩
theorem uses_ok {l : List Ru} (h : (chkW l).1 = 0) {i : Nat} (hi : i < l.length) {x : Int} (hx : x ∈ usesL l (i : Int)) : 0 ≤ x ∧ x < l.length ∧ x ≠ (i : Int) := by
  obtain ⟨h0, hno⟩ := chk_lk2 h
  obtain ⟨k, rfl, hk, hw⟩ := (uses_mem h hi).1 hx
  refine ⟨by omega, by omega, fun e => ?_⟩
  have e' : k = i := by omega
  subst e'
  have h3 := (chk_all h).2 k hk
  unfold lk3 at h3
  rw [(fol_way (leadS_lt hno) (Nat.le_refl _)).2 hw] at h3
  cases h3
end Go.Proofs.YtpmobjgnmidolaaGreatDoor

/- What rules mean on a day: plain. -/
namespace Go.Proofs.YtpmobjgnmidolaaGreatDoor
open Go.RowKit Lx
def nev : Nat → Bool := fun _ => false
def valK (week : Bool) (day : Int) (kind a b : Int) (nm : Nat → Bool) (ks : List (Nat → Bool)) : Nat → Bool :=
  if kind = 2 then fun i => decide (i < 1440)
  else if kind = 3 then fun i => (decide (a ≤ (i : Int)) && decide ((i : Int) < b)) && decide (i < 1440)
  else if kind = 4 then (if week = true then ks.getD 0 nev else nev)
  else if kind = 5 then (if a ≤ day ∧ day ≤ b then ks.getD 0 nev else nev)
  else if kind = 6 then fun i => (ks.getD 0 nev i || ks.getD 1 nev i) && decide (i < 1440)
  else if kind = 7 then fun i => (ks.getD 0 nev i && !ks.getD 1 nev i) && decide (i < 1440)
  else if kind = 8 then fun i => (ks.getD 0 nev i && ks.getD 1 nev i) && decide (i < 1440)
  else if kind = 9 then shf (ks.getD 0 nev) a
  else if kind = 10 then nm
  else nev
def valE (wk : Int → Bool) (day : Int) (env : List UInt8 → Nat → Bool) (e : Ex) : Nat → Bool := valK (wk e.a) day e.kind e.a e.b (env e.name) (e.kids.attach.map fun k => valE wk day env k.1)
  termination_by SizeOf.sizeOf e
  decreasing_by exact kid_lt k.2
theorem valE_eq (wk : Int → Bool) (day : Int) (env : List UInt8 → Nat → Bool) (e : Ex) : valE wk day env e = valK (wk e.a) day e.kind e.a e.b (env e.name) (e.kids.map (valE wk day env)) := by
  rw [valE]
  congr 1
  have h := congrArg (List.map (valE wk day env)) (List.attach_map_subtype_val e.kids)
  rw [List.map_map] at h
  exact h
theorem valE_congr {wk : Int → Bool} {day : Int} {env env' : List UInt8 → Nat → Bool} : ∀ (N : Nat) (e : Ex), SizeOf.sizeOf e ≤ N → (∀ x ∈ nms e, env x = env' x) → valE wk day env e = valE wk day env' e
  | 0, e, hN, _ => by cases e; simp at hN
  | N + 1, e, hN, h => by
    rw [valE_eq, valE_eq]
    have hk : e.kids.map (valE wk day env) = e.kids.map (valE wk day env') := List.map_congr_left fun k hk => valE_congr N k (by have := kid_lt hk; omega) fun x hx => h x (by
      rw [nms_eq, List.mem_append]
      right
      unfold nmsL
      exact List.mem_flatten.2 ⟨nms k, List.mem_map.2 ⟨k, hk, rfl⟩, hx⟩)
    rw [hk]
    by_cases h10 : e.kind = 10
    · rw [h e.name (by rw [nms_eq, if_pos h10]; simp)]
    · unfold valK
      simp only [if_neg h10]
def meanF (l : List Ru) (wk : Int → Bool) (day : Int) : Nat → Nat → Nat → Bool
  | 0, _ => nev
  | f + 1, i => match l[i]? with
    | some u => valE wk day (fun x => meanF l wk day f (atP5 l x).toNat) u.2
    | none => nev
def muR (l : List Ru) (i : Nat) : Nat := (usesL l (i : Int)).length
theorem mkL_nodup (m : Nat → Bool) (n : Nat) : (mkL m n).Nodup := by
  unfold mkL
  have h : ((List.range n).filter m).Nodup := List.nodup_range.filter m
  rw [List.nodup_iff_pairwise_ne, List.pairwise_map]
  exact (List.nodup_iff_pairwise_ne.1 h).imp fun hab e => hab (by omega)
theorem uses_nodup (l : List Ru) (r : Int) : (usesL l r).Nodup := by
  unfold usesL
  split
  · exact List.nodup_nil
  · exact mkL_nodup _ _
theorem nd_len : ∀ (l m : List Int), l.Nodup → (∀ x ∈ l, x ∈ m) → l.length ≤ m.length
  | [], _, _, _ => Nat.zero_le _
  | x :: l, m, hnd, hs => by
    have h1 := List.nodup_cons.1 hnd
    have ih := nd_len l (m.erase x) h1.2 fun y hy => by
      have hne : y ≠ x := fun e => by
        subst e
        exact h1.1 hy
      exact (List.mem_erase_of_ne hne).2 (hs y (List.mem_cons_of_mem _ hy))
    have hx := hs x List.mem_cons_self
    rw [List.length_erase_of_mem hx] at ih
    have := List.length_pos_of_mem hx
    simp only [List.length_cons]
    omega
theorem muR_lt {l : List Ru} (h : (chkW l).1 = 0) {i j : Nat} (hi : i < l.length) (hj : j ∈ leadS l i) : muR l j < muR l i := by
  obtain ⟨_, hno⟩ := chk_lk2 h
  have hjl := leadS_lt hno i j hj
  have hE : (leadS l i).contains j = true := by simpa using hj
  have hsub : ∀ x ∈ (j : Int) :: usesL l (j : Int), x ∈ usesL l (i : Int) := fun x hx => by
    rcases List.mem_cons.1 hx with rfl | hx
    · exact (uses_mem h hi).2 ⟨j, rfl, hjl, way_step.2 (.inl hE)⟩
    · obtain ⟨k, rfl, hk, hw⟩ := (uses_mem h hjl).1 hx
      exact (uses_mem h hi).2 ⟨k, rfl, hk, way_step.2 (.inr ⟨j, hE, hw⟩)⟩
  have hnd : ((j : Int) :: usesL l (j : Int)).Nodup := List.nodup_cons.2 ⟨fun hm => (uses_ok h hjl hm).2.2 rfl, uses_nodup l _⟩
  have := nd_len _ _ hnd hsub
  simp only [List.length_cons] at this
  unfold muR
  omega
theorem lead_of_name {l : List Ru} (_ : (chkW l).1 = 0) {i : Nat} {u : Ru} (hu : l[i]? = some u) {x : List UInt8} (hx : x ∈ nms u.2) : (atP5 l x).toNat ∈ leadS l i := by
  rw [leadS_at hu]
  unfold natsOf spkR
  exact List.mem_map.2 ⟨atP5 l x, (spoken_mem _ _).2 (.inr ⟨x, hx, rfl⟩), rfl⟩
theorem meanF_same {l : List Ru} {wk : Int → Bool} {day : Int} (h : (chkW l).1 = 0) : ∀ (f f' i : Nat), i < l.length → muR l i < f → muR l i < f' → meanF l wk day f i = meanF l wk day f' i
  | 0, _, _, _, a, _ => by omega
  | _ + 1, 0, _, _, _, b => by omega
  | f + 1, f' + 1, i, hi, a, b => by
    obtain ⟨u, hu⟩ : ∃ u, l[i]? = some u := ⟨l[i], List.getElem?_eq_getElem hi⟩
    obtain ⟨_, hno⟩ := chk_lk2 h
    rw [meanF, meanF, hu]
    dsimp only
    refine valE_congr _ u.2 (Nat.le_refl _) fun x hx => ?_
    have hj := lead_of_name h hu hx
    have hlt := muR_lt h hi hj
    exact meanF_same h f f' _ (leadS_lt hno i _ hj) (by omega) (by omega)
theorem uses_len' (l : List Ru) (r : Int) : (usesL l r).length ≤ l.length := by
  unfold usesL
  split
  · exact Nat.zero_le _
  · exact mkL_len _ _
def meanP (l : List Ru) (wk : Int → Bool) (day : Int) (i : Nat) : Nat → Bool := meanF l wk day (l.length + 1) i
theorem meanP_eq {l : List Ru} {wk : Int → Bool} {day : Int} (h : (chkW l).1 = 0) {i : Nat} {u : Ru} (hu : l[i]? = some u) : meanP l wk day i = valE wk day (fun x => meanP l wk day (atP5 l x).toNat) u.2 := by
  have hi : i < l.length := (List.getElem?_eq_some_iff.1 hu).1
  obtain ⟨_, hno⟩ := chk_lk2 h
  have hmu : ∀ j, muR l j ≤ l.length := fun j => uses_len' l (j : Int)
  have e : meanP l wk day i = valE wk day (fun x => meanF l wk day l.length (atP5 l x).toNat) u.2 := by
    unfold meanP
    rw [meanF, hu]
  rw [e]
  refine valE_congr _ u.2 (Nat.le_refl _) fun x hx => ?_
  have hj := lead_of_name h hu hx
  have hlt := muR_lt h hi hj
  have := hmu i
  have := hmu (atP5 l x).toNat
  exact meanF_same h _ _ _ (leadS_lt hno i _ hj) (by omega) (by omega)
end Go.Proofs.YtpmobjgnmidolaaGreatDoor

/- An expression with which nothing is wrong: plain. -/
namespace Lx
def OKE (e : Ex) : Prop := ∃ deep n, (shapeP e deep n).1 = 0
theorem OKE.alone {e : Ex} (h : OKE e) : aloneP e = 0 := by
  obtain ⟨deep, n, h⟩ := h
  rw [shapeP_eq] at h
  split at h
  · cases h
  · split at h
    · rename_i h2; exact absurd h h2
    · rename_i h2; simpa using h2
theorem shapeL_all {deep : Nat} : ∀ {ks : List Ex} {acc : Int × Nat}, (shapeL ks deep acc).1 = 0 → ∀ k ∈ ks, OKE k
  | [], _, _, k, hk => by cases hk
  | k' :: ks, acc, h, k, hk => by
    rw [shapeL_cons] at h
    by_cases hb : acc.1 ≠ 0
    · rw [if_pos hb, shapeL_bad hb] at h; exact absurd h hb
    rw [if_neg hb] at h
    have hz : (shapeP k' deep acc.2).1 = 0 := by
      by_cases hz : (shapeP k' deep acc.2).1 = 0
      · exact hz
      · rw [shapeL_bad hz] at h; exact h
    rcases List.mem_cons.1 hk with rfl | hk
    · exact ⟨_, _, hz⟩
    · exact shapeL_all h k hk
theorem OKE.kid {e k : Ex} (h : OKE e) (hk : k ∈ e.kids) : OKE k := by
  have ha := h.alone
  obtain ⟨deep, n, h⟩ := h
  rw [shapeP_eq] at h
  split at h
  · cases h
  · rw [if_neg (by simpa using ha)] at h
    exact shapeL_all h k hk
theorem OKE.kinds {e : Ex} (h : OKE e) : 1 ≤ e.kind ∧ e.kind ≤ 10 ∧ e.kids.length = kidsP e.kind ∧ rangeP e.kind e.a e.b = true ∧ (e.kind = 10 → Go.Proofs.YtpmobjgnmidolaaGreatDoor.namedL e.name = true) := by
  have ha := h.alone
  unfold aloneP at ha
  split at ha
  · cases ha
  · split at ha
    · cases ha
    · split at ha
      · cases ha
      · split at ha
        · cases ha
        · rename_i h1 h2 h3 h4
          refine ⟨by omega, by omega, by simpa using h2, by simpa using h3, fun hk => ?_⟩
          cases hn : Go.Proofs.YtpmobjgnmidolaaGreatDoor.namedL e.name with
          | true => rfl
          | false => exact absurd ⟨hk, hn⟩ h4
theorem OKE.kid0 {e : Ex} (h : OKE e) (hk : 1 ≤ kidsP e.kind) : ∃ k, e.kids[0]? = some k ∧ OKE k := by
  have hl := h.kinds.2.2.1
  exact ⟨e.kids[0]'(by omega), List.getElem?_eq_getElem _, h.kid (List.getElem_mem _)⟩
theorem OKE.kid1 {e : Ex} (h : OKE e) (hk : 2 ≤ kidsP e.kind) : ∃ k, e.kids[1]? = some k ∧ OKE k := by
  have hl := h.kinds.2.2.1
  exact ⟨e.kids[1]'(by omega), List.getElem?_eq_getElem _, h.kid (List.getElem_mem _)⟩
end Lx

/- The code of an expression, plainly: what it is, how long it is. -/
namespace Go.Proofs.YtpmobjgnmidolaaGreatDoor
open Go.RowKit Lx Vx Msk
def stdE (e : Ex) : Bool := !(decide (e.kind = 4) || decide (e.kind = 5) || decide (e.kind = 10)) && e.kids.attach.all fun k => stdE k.1
  termination_by SizeOf.sizeOf e
  decreasing_by exact kid_lt k.2
theorem stdE_eq (e : Ex) : stdE e = (!(decide (e.kind = 4) || decide (e.kind = 5) || decide (e.kind = 10)) && e.kids.all stdE) := by
  rw [stdE]
  congr 1
  rw [Bool.eq_iff_iff, List.all_eq_true, List.all_eq_true]
  exact ⟨fun h k hk => h ⟨k, hk⟩ (List.mem_attach _ _), fun h k _ => h k.1 k.2⟩
theorem stdE_kind {e : Ex} (h : stdE e = true) : e.kind ≠ 4 ∧ e.kind ≠ 5 ∧ e.kind ≠ 10 := by
  rw [stdE_eq, Bool.and_eq_true] at h
  have h1 := h.1
  refine ⟨fun e => ?_, fun e => ?_, fun e => ?_⟩ <;> simp [e] at h1
theorem stdE_kid {e k : Ex} (h : stdE e = true) (hk : k ∈ e.kids) : stdE k = true := by
  rw [stdE_eq, Bool.and_eq_true, List.all_eq_true] at h
  exact h.2 k hk
theorem stdE_leaf {e : Ex} (h : e.kids = []) (h4 : e.kind ≠ 4) (h5 : e.kind ≠ 5) (h10 : e.kind ≠ 10) : stdE e = true := by
  rw [stdE_eq, h]
  simp [h4, h5, h10]
def mnE (e : Ex) : Nat → Bool := valE (fun _ => false) 0 (fun _ => nev) e
theorem mnE_any (wk : Int → Bool) (day : Int) (env : List UInt8 → Nat → Bool) : ∀ (N : Nat) (e : Ex), SizeOf.sizeOf e ≤ N → stdE e = true → valE wk day env e = mnE e
  | 0, e, hN, _ => by cases e; simp at hN
  | N + 1, e, hN, h => by
    unfold mnE
    rw [valE_eq, valE_eq]
    have hk : e.kids.map (valE wk day env) = e.kids.map (valE (fun _ => false) 0 (fun _ => nev)) := List.map_congr_left fun k hk => mnE_any wk day env N k (by have := kid_lt hk; omega) (stdE_kid h hk)
    rw [hk]
    obtain ⟨h4, h5, h10⟩ := stdE_kind h
    unfold valK
    simp only [if_neg h4, if_neg h5, if_neg h10]
theorem stdE_val {e : Ex} (h : stdE e = true) (wk : Int → Bool) (day : Int) (env : List UInt8 → Nat → Bool) : valE wk day env e = mnE e := mnE_any wk day env _ e (Nat.le_refl _) h
def catF : List (Nat → List In) → Nat → List In
  | [], _ => []
  | f :: fs, b => f b ++ catF fs (b + (f b).length)
def noC : Nat → List In := fun _ => []
def opK (k : Int) : Int := if k = 9 then 5 else if k = 6 then 2 else if k = 7 then 3 else 4
def codeK (num : List UInt8 → Int) (e : Ex) (kc : List (Nat → List In)) (b : Nat) : List In :=
  if stdE e = true then [⟨1, 0, 0, 0, rs (mnE e) 1440⟩]
  else if e.kind = 10 then [⟨8, num e.name, 0, 0, []⟩]
  else if e.kind = 4 then ⟨6, e.a, 0, ((b + 1 + ((kc.getD 0 noC) (b + 1)).length : Nat) : Int), []⟩ :: (kc.getD 0 noC) (b + 1)
  else if e.kind = 5 then ⟨7, e.a, e.b, ((b + 1 + ((kc.getD 0 noC) (b + 1)).length : Nat) : Int), []⟩ :: (kc.getD 0 noC) (b + 1)
  else catF kc b ++ [⟨opK e.kind, if e.kind = 9 then e.a else 0, 0, 0, []⟩]
def codeE (num : List UInt8 → Int) (e : Ex) (b : Nat) : List In := codeK num e (e.kids.attach.map fun k => fun b' => codeE num k.1 b') b
  termination_by SizeOf.sizeOf e
  decreasing_by exact kid_lt k.2
theorem codeE_eq (num : List UInt8 → Int) (e : Ex) (b : Nat) : codeE num e b = codeK num e (e.kids.map (codeE num)) b := by
  rw [codeE]
  congr 1
  have h := congrArg (List.map (codeE num)) (List.attach_map_subtype_val e.kids)
  rw [List.map_map] at h
  exact h
theorem code_std {num : List UInt8 → Int} {e : Ex} (h : stdE e = true) (b : Nat) : codeE num e b = [⟨1, 0, 0, 0, rs (mnE e) 1440⟩] := by
  rw [codeE_eq]
  unfold codeK
  rw [if_pos h]
theorem code_name {num : List UInt8 → Int} {e : Ex} (hk : e.kind = 10) (b : Nat) : codeE num e b = [⟨8, num e.name, 0, 0, []⟩] := by
  rw [codeE_eq]
  unfold codeK
  rw [if_neg (fun h => (stdE_kind h).2.2 hk), if_pos hk]
theorem code_week {num : List UInt8 → Int} {e k : Ex} (hk : e.kind = 4) (h0 : e.kids[0]? = some k) (b : Nat) : codeE num e b = ⟨6, e.a, 0, ((b + 1 + (codeE num k (b + 1)).length : Nat) : Int), []⟩ :: codeE num k (b + 1) := by
  rw [codeE_eq]
  have e0 : (e.kids.map (codeE num)).getD 0 noC = codeE num k := by simp [List.getD, List.getElem?_map, h0]
  unfold codeK
  rw [if_neg (fun h => (stdE_kind h).1 hk), if_neg (by omega), if_pos hk, e0]
theorem code_dates {num : List UInt8 → Int} {e k : Ex} (hk : e.kind = 5) (h0 : e.kids[0]? = some k) (b : Nat) : codeE num e b = ⟨7, e.a, e.b, ((b + 1 + (codeE num k (b + 1)).length : Nat) : Int), []⟩ :: codeE num k (b + 1) := by
  rw [codeE_eq]
  have e0 : (e.kids.map (codeE num)).getD 0 noC = codeE num k := by simp [List.getD, List.getElem?_map, h0]
  unfold codeK
  rw [if_neg (fun h => (stdE_kind h).2.1 hk), if_neg (by omega), if_neg (by omega), if_pos hk, e0]
theorem code_cat {num : List UInt8 → Int} {e : Ex} (h : stdE e = false) (h4 : e.kind ≠ 4) (h5 : e.kind ≠ 5) (h10 : e.kind ≠ 10) (b : Nat) : codeE num e b = catF (e.kids.map (codeE num)) b ++ [⟨opK e.kind, if e.kind = 9 then e.a else 0, 0, 0, []⟩] := by
  rw [codeE_eq]
  unfold codeK
  rw [if_neg (by rw [h]; simp), if_neg h10, if_neg h4, if_neg h5]
theorem two_kids {e : Ex} (h : e.kids.length = 2) : ∃ k m, e.kids = [k, m] := by
  match hk : e.kids with
  | [] => rw [hk] at h; cases h
  | [_] => rw [hk] at h; cases h
  | [k, m] => exact ⟨k, m, rfl⟩
  | _ :: _ :: _ :: _ => rw [hk] at h; simp at h
theorem one_kid {e : Ex} (h : e.kids.length = 1) : ∃ k, e.kids = [k] := by
  match hk : e.kids with
  | [] => rw [hk] at h; cases h
  | [k] => exact ⟨k, rfl⟩
  | _ :: _ :: _ => rw [hk] at h; simp at h
theorem code_shift {num : List UInt8 → Int} {e k : Ex} (h : stdE e = false) (hk : e.kind = 9) (h0 : e.kids = [k]) (b : Nat) : codeE num e b = codeE num k b ++ [⟨5, e.a, 0, 0, []⟩] := by
  rw [code_cat h (by omega) (by omega) (by omega), h0]
  simp only [List.map_cons, List.map_nil, catF, List.append_nil]
  unfold opK
  rw [if_pos hk, if_pos hk]
theorem code_pair {num : List UInt8 → Int} {e k m : Ex} (h : stdE e = false) (hk : e.kind = 6 ∨ e.kind = 7 ∨ e.kind = 8) (h0 : e.kids = [k, m]) (b : Nat) : codeE num e b = (codeE num k b ++ codeE num m (b + (codeE num k b).length)) ++ [⟨opK e.kind, 0, 0, 0, []⟩] := by
  rw [code_cat h (by omega) (by omega) (by omega), h0]
  simp only [List.map_cons, List.map_nil, catF, List.append_nil]
  rw [if_neg (by omega)]
theorem code_kinds {e : Ex} (h : OKE e) (hs : stdE e = false) : (e.kind = 4 ∧ ∃ k, e.kids = [k]) ∨ (e.kind = 5 ∧ ∃ k, e.kids = [k]) ∨ (e.kind = 9 ∧ ∃ k, e.kids = [k]) ∨ e.kind = 10 ∨ ((e.kind = 6 ∨ e.kind = 7 ∨ e.kind = 8) ∧ ∃ k m, e.kids = [k, m]) := by
  obtain ⟨h1, h2, h3, _, _⟩ := h.kinds
  unfold kidsP at h3
  by_cases q : e.kind = 4 ∨ e.kind = 5 ∨ e.kind = 9
  · rw [if_pos q] at h3
    obtain ⟨k, hk⟩ := one_kid h3
    rcases q with q | q | q
    · exact .inl ⟨q, k, hk⟩
    · exact .inr (.inl ⟨q, k, hk⟩)
    · exact .inr (.inr (.inl ⟨q, k, hk⟩))
  · rw [if_neg q] at h3
    by_cases q2 : e.kind = 6 ∨ e.kind = 7 ∨ e.kind = 8
    · rw [if_pos q2] at h3
      obtain ⟨k, m, hk⟩ := two_kids h3
      exact .inr (.inr (.inr (.inr ⟨q2, k, m, hk⟩)))
    · rw [if_neg q2] at h3
      by_cases q3 : e.kind = 10
      · exact .inr (.inr (.inr (.inl q3)))
      · have := stdE_leaf (List.length_eq_zero_iff.1 h3) (by omega) (by omega) q3
        rw [hs] at this
        cases this
theorem risL_good : ∀ (l : List (Int × Int)) (last : Int), good last 1440 l → risL l last = true
  | [], _, _ => rfl
  | s :: l, last, ⟨h1, h2, h3, h4⟩ => by
    unfold risL
    rw [if_neg (by omega)]
    exact risL_good l s.2 h4
theorem risL_rs (f : Nat → Bool) : risL (rs f 1440) (-1) = true := risL_good _ _ (runs_of f 1440).good
def nodE (e : Ex) : Nat := 1 + (e.kids.attach.map fun k => nodE k.1).sum
  termination_by SizeOf.sizeOf e
  decreasing_by exact kid_lt k.2
theorem nodE_eq (e : Ex) : nodE e = 1 + (e.kids.map nodE).sum := by
  rw [nodE]
  congr 2
  have h := congrArg (List.map nodE) (List.attach_map_subtype_val e.kids)
  rw [List.map_map] at h
  exact h
theorem nodE_pos (e : Ex) : 1 ≤ nodE e := by rw [nodE_eq]; omega
theorem code_len (num : List UInt8 → Int) : ∀ (N : Nat) (e : Ex), SizeOf.sizeOf e ≤ N → OKE e → ∀ b, 1 ≤ (codeE num e b).length ∧ (codeE num e b).length ≤ nodE e
  | 0, e, hN, _, _ => by cases e; simp at hN
  | N + 1, e, hN, h, b => by
    have hn := nodE_eq e
    cases hs : stdE e with
    | true =>
      rw [code_std hs]
      exact ⟨by simp, by simpa using nodE_pos e⟩
    | false =>
      have ih : ∀ k ∈ e.kids, ∀ b, 1 ≤ (codeE num k b).length ∧ (codeE num k b).length ≤ nodE k := fun k hk b => code_len num N k (by have := kid_lt hk; omega) (h.kid hk) b
      rcases code_kinds h hs with ⟨q, k, hk⟩ | ⟨q, k, hk⟩ | ⟨q, k, hk⟩ | q | ⟨q, k, m, hk⟩
      · rw [code_week q (by rw [hk]; rfl)]
        have := ih k (by rw [hk]; simp) (b + 1)
        rw [hk] at hn
        simp only [List.map_cons, List.map_nil, List.sum_cons, List.sum_nil] at hn
        rw [List.length_cons]
        omega
      · rw [code_dates q (by rw [hk]; rfl)]
        have := ih k (by rw [hk]; simp) (b + 1)
        rw [hk] at hn
        simp only [List.map_cons, List.map_nil, List.sum_cons, List.sum_nil] at hn
        rw [List.length_cons]
        omega
      · rw [code_shift hs q hk]
        have := ih k (by rw [hk]; simp) b
        rw [hk] at hn
        simp only [List.map_cons, List.map_nil, List.sum_cons, List.sum_nil] at hn
        rw [List.length_append, List.length_singleton]
        omega
      · rw [code_name q]
        exact ⟨by simp, by simpa using nodE_pos e⟩
      · rw [code_pair hs q hk]
        have h1 := ih k (by rw [hk]; simp) b
        have h2 := ih m (by rw [hk]; simp) (b + (codeE num k b).length)
        rw [hk] at hn
        simp only [List.map_cons, List.map_nil, List.sum_cons, List.sum_nil] at hn
        rw [List.length_append, List.length_append, List.length_singleton]
        omega
theorem shape_nod : ∀ (N : Nat) (e : Ex) (deep n : Nat), SizeOf.sizeOf e ≤ N → (shapeP e deep n).1 = 0 → (shapeP e deep n).2 = n + nodE e ∧ n + nodE e ≤ 600
  | 0, e, _, _, hN, _ => by cases e; simp at hN
  | N + 1, e, deep, n, hN, h => by
    rw [shapeP_eq] at h ⊢
    by_cases h1 : 600 < n + 1 ∨ 40 < deep
    · rw [if_pos h1] at h; cases h
    · rw [if_neg h1] at h ⊢
      by_cases h2 : aloneP e ≠ 0
      · rw [if_pos h2] at h; exact absurd h h2
      · rw [if_neg h2] at h ⊢
        have key : ∀ (ks : List Ex) (m : Nat), (∀ k ∈ ks, SizeOf.sizeOf k ≤ N) → m ≤ 600 → (shapeL ks (deep + 1) (0, m)).1 = 0 → (shapeL ks (deep + 1) (0, m)).2 = m + (ks.map nodE).sum ∧ m + (ks.map nodE).sum ≤ 600 := by
          intro ks
          induction ks with
          | nil => intro m _ hm _; exact ⟨by simp [shapeL], by simpa using hm⟩
          | cons k ks ih =>
            intro m hks hm hz
            rw [shapeL_cons] at hz ⊢
            rw [if_neg (by simp)] at hz ⊢
            have hz1 : (shapeP k (deep + 1) m).1 = 0 := by
              by_cases hq : (shapeP k (deep + 1) m).1 = 0
              · exact hq
              · rw [shapeL_bad hq] at hz; exact absurd hz hq
            obtain ⟨a1, a2⟩ := shape_nod N k (deep + 1) m (hks k List.mem_cons_self) hz1
            have e1 : shapeP k (deep + 1) m = (0, m + nodE k) := Prod.ext hz1 a1
            rw [e1] at hz ⊢
            obtain ⟨b1, b2⟩ := ih (m + nodE k) (fun k' hk' => hks k' (List.mem_cons_of_mem _ hk')) a2 hz
            rw [List.map_cons, List.sum_cons]
            exact ⟨by rw [b1]; omega, by omega⟩
        obtain ⟨a, b⟩ := key e.kids (n + 1) (fun k hk => by have := kid_lt hk; omega) (by omega) h
        rw [nodE_eq]
        exact ⟨by rw [a]; omega, by omega⟩
end Go.Proofs.YtpmobjgnmidolaaGreatDoor
