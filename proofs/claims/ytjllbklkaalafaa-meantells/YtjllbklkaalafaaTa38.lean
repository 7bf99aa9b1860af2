/- What the document's Shape comes to: what is wrong with an expression, counted on. -/
import Derived.Test.YtjllbklkaalafaaTa36
import Derived.Test.YtjllbklkaalafaaTa37
namespace Go.Proofs.Ytjllbklkaalafaa
open Go.RowKit Lx
variable {B : Nat → Prop} {gn : Nat}

set_option maxRecDepth 100000 in
set_option maxHeartbeats 8000000 in
theorem shape_step (e : Ex) (p : Option Addr) (c : Nat) (w : World) (deep n : Nat) (hk : e.kids = [] ∨ KidsC 33 gn w (.slice p e.kids.length c) e.kids) (hn : e.name.length ≤ 9223372036854775807) (hc : CntAt w gn n) (h6 : n ≤ 600) (hd : deep ≤ 41) :
    Calls Try.prog 33 #[.agg #[.int .i64 e.kind, .int .i64 e.a, .int .i64 e.b, .string ⟨e.name.toArray⟩, .slice p e.kids.length c], .int .i64 (deep : Int), .pointer (some ⟨gn, 0, none⟩)] w (OutN gn w (shapeP e deep n)) := by
  have hgl := lt_of_block hc
  have hbA := (Below.refl w.heap.size w).alloc (Nat.le_refl _) (.cells #[.int .i64 e.kind, .int .i64 e.a, .int .i64 e.b, .string ⟨e.name.toArray⟩, .slice p e.kids.length c] 41)
  have hxA := heap_alloc_new w (.cells #[.int .i64 e.kind, .int .i64 e.a, .int .i64 e.b, .string ⟨e.name.toArray⟩, .slice p e.kids.length c] 41)
  have hcA := (hbA.block _ hgl).trans hc
  generalize hwA : w.alloc (.cells #[.int .i64 e.kind, .int .i64 e.a, .int .i64 e.b, .string ⟨e.name.toArray⟩, .slice p e.kids.length c] 41) = wA at *
  have z0 := (cell_of_row _ _ 0 _ _ _ hcA).trans rfl
  have y0 := frozen_of_row _ _ 0 _ _ hcA
  have hc1 : (wA.setCell ⟨gn, 0, none⟩ (.int .i64 ((n + 1 : Nat) : Int))).heap[gn]? = some (.cells #[.int .i64 ((n + 1 : Nat) : Int)] 3 (0, 0)) := heap_setCell_same _ _ 0 _ _ _ hcA
  have hx1 := (heap_setCell_other wA ⟨gn, 0, none⟩ w.heap.size (.int .i64 ((n + 1 : Nat) : Int)) (by show w.heap.size ≠ gn; omega)).trans hxA
  have hk1 := (Kept.of_below (g := gn) hbA).trans (Kept.set wA gn 0 (.int .i64 ((n + 1 : Nat) : Int)))
  have ei : (n : Int) + 1 = ((n + 1 : Nat) : Int) := by omega
  have hn6 : (n : Int) ≤ 600 := by omega
  have q1 := (cell_of_row _ _ 0 _ _ _ hc1).trans rfl
  have cN := fun w => rnamed_big ⟨e.name.toArray⟩ e.name rfl hn w
  generalize hX : shapeP e deep n = X
  rw [shapeP_eq] at hX
  have HX : Hid ((if 600 < n + 1 ∨ 40 < deep then (4, n + 1) else if aloneP e ≠ 0 then (aloneP e, n + 1) else shapeL e.kids (deep + 1) (0, n + 1)) = X) := hX
  have HC : Hid (CntAt (wA.setCell ⟨gn, 0, none⟩ (.int .i64 ((n + 1 : Nat) : Int))) gn (n + 1)) := hc1
  clear hX hc hcA hbA hxA
  by_cases c1 : 600 < n + 1
  · have HE : Hid (X = (4, n + 1)) := by show _ = _; rw [← HX.out, if_pos (.inl c1)]
    have c1' : (600 : Int) < ((n + 1 : Nat) : Int) := by omega
    clear HX c1 hc1
    generalize ((n + 1 : Nat) : Int) = vv at *
    go_enter Try.func33, Try.ntmps33
    go_wp2_with fail
    go_ret
    rw [HE.out]
    exact ⟨rfl, HC.out, hk1⟩
  have c1' : ¬ (600 : Int) < ((n + 1 : Nat) : Int) := by omega
  by_cases c2 : 40 < deep
  · have HE : Hid (X = (4, n + 1)) := by show _ = _; rw [← HX.out, if_pos (.inr c2)]
    have c2' : (40 : Int) < (deep : Int) := by omega
    clear HX c1 c2 hc1
    generalize ((n + 1 : Nat) : Int) = vv at *
    go_enter Try.func33, Try.ntmps33
    go_wp2_with fail
    go_ret
    rw [HE.out]
    exact ⟨rfl, HC.out, hk1⟩
  have c2' : ¬ (40 : Int) < (deep : Int) := by omega
  have hX3 := HX.out
  rw [if_neg (by omega)] at hX3
  have HA : Hid (aloneP e ≠ 0 → X = (aloneP e, n + 1)) := fun h => by rw [← hX3, if_pos h]
  have HL : Hid (aloneP e = 0 → shapeL (e.kids.drop 0) (deep + 1) (0, n + 1) = X) := fun h => by rw [← hX3, if_neg (by simpa using h)]; rfl
  have hm6 : n + 1 ≤ 600 := by omega
  have hd40 : (deep : Int) ≤ 40 := by omega
  clear HX hX3 c1 c2 hc1
  generalize hvv : ((n + 1 : Nat) : Int) = vv at *
  generalize hw1 : wA.setCell ⟨gn, 0, none⟩ (.int .i64 vv) = w1 at *
  have i0 : (Instr.makeMap 80 none).run Try.prog w1 = .ok (.map (some w1.heap.size)) (w1.alloc (.map #[] 0)) := rfl
  obtain ⟨W1, W2, W3, W4, W5, W6, W7, W8, W9, W10, i1, i2, i3, i4, i5, i6, i7, i8, i9, i10, hm10, hb10⟩ := kinds_all w1
  have hx10 := (hb10.block _ (lt_of_block hx1)).trans hx1
  have hk10 := hk1.trans (Kept.of_below hb10)
  have HC10 : Hid (CntAt W10 gn (n + 1)) := (hb10.block _ (lt_of_block HC.out)).trans HC.out
  have hlk := kind_look hm10 e.kind
  have f0 := (cell_of_row _ _ 0 _ _ _ hx10).trans rfl
  have f1 := (cell_of_row _ _ 1 _ _ _ hx10).trans rfl
  have f2 := (cell_of_row _ _ 2 _ _ _ hx10).trans rfl
  have f3 := (cell_of_row _ _ 3 _ _ _ hx10).trans rfl
  have f4 := (cell_of_row _ _ 4 _ _ _ hx10).trans rfl
  clear HC hm10 hb10 hx1 hx10 hk1
  by_cases c3 : 1 ≤ e.kind ∧ e.kind ≤ 10
  case neg =>
    have HE : Hid (X = (1, n + 1)) := by
      have h1 : aloneP e = 1 := by unfold aloneP; rw [if_pos (by omega)]
      show _ = _
      rw [HA.out (by rw [h1]; decide), h1]
    rw [decide_eq_false c3] at hlk
    clear HA HL cN
    generalize kidsP e.kind = kp at *
    go_enter Try.func33, Try.ntmps33
    go_wp2_with fail
    go_ret
    rw [HE.out]
    exact ⟨rfl, HC10.out, hk10⟩
  rw [decide_eq_true c3] at hlk
  by_cases c4 : e.kids.length = kidsP e.kind
  case neg =>
    have HE : Hid (X = (5, n + 1)) := by
      have h1 : aloneP e = 5 := by unfold aloneP; rw [if_neg (by omega), if_pos c4]
      show _ = _
      rw [HA.out (by rw [h1]; decide), h1]
    have n4 : ((e.kids.length : Int) != (kidsP e.kind : Int)) = true := by simp; omega
    clear HA HL cN
    generalize kidsP e.kind = kp at *
    go_enter Try.func33, Try.ntmps33
    go_wp2_with fail
    go_ret
    rw [HE.out]
    exact ⟨rfl, HC10.out, hk10⟩
  have n4 : ((e.kids.length : Int) != (kidsP e.kind : Int)) = false := by simp; omega
  have hrg : rangeP e.kind e.a e.b = false → X = (3, n + 1) := fun h => by
    have h1 : aloneP e = 3 := by unfold aloneP; rw [if_neg (by omega), if_neg (by omega), if_pos h]
    rw [HA.out (by rw [h1]; decide), h1]
  have hgd : rangeP e.kind e.a e.b = true → ¬ (e.kind = 10 ∧ namedL e.name = false) → shapeL (e.kids.drop 0) (deep + 1) (0, n + 1) = X := fun h h' => by
    refine HL.out ?_
    unfold aloneP; rw [if_neg (by omega), if_neg (by omega), if_neg (by simp [h]), if_neg h']
  have hnm : e.kind = 10 → namedL e.name = false → X = (7, n + 1) := fun h h' => by
    have h1 : aloneP e = 7 := by unfold aloneP; rw [if_neg (by omega), if_neg (by omega), if_neg (by unfold rangeP; rw [h]; simp), if_pos ⟨h, h'⟩]
    rw [HA.out (by rw [h1]; decide), h1]
  clear HA HL c4
  generalize kidsP e.kind = kp at *
  by_cases cK : e.kind = 3
  case pos =>
    by_cases a1 : e.a < 0
    · have HE : Hid (X = (3, n + 1)) := hrg (by unfold rangeP; rw [cK]; simp; omega)
      clear hrg hgd hnm cN
      have bK : (e.kind == 3) = true := by simpa using cK
      clear cK
      go_enter Try.func33, Try.ntmps33
      go_wp2_with fail
      go_ret
      rw [HE.out]
      exact ⟨rfl, HC10.out, hk10⟩
    · by_cases a2 : 1440 < e.b
      · have HE : Hid (X = (3, n + 1)) := hrg (by unfold rangeP; rw [cK]; simp; omega)
        clear hrg hgd hnm cN
        have bK : (e.kind == 3) = true := by simpa using cK
        clear cK
        go_enter Try.func33, Try.ntmps33
        go_wp2_with fail
        go_ret
        rw [HE.out]
        exact ⟨rfl, HC10.out, hk10⟩
      · by_cases a3 : e.b ≤ e.a
        · have HE : Hid (X = (3, n + 1)) := hrg (by unfold rangeP; rw [cK]; simp; omega)
          clear hrg hgd hnm cN
          have bK : (e.kind == 3) = true := by simpa using cK
          clear cK
          go_enter Try.func33, Try.ntmps33
          go_wp2_with fail
          go_ret
          rw [HE.out]
          exact ⟨rfl, HC10.out, hk10⟩
        · have HS : Hid (shapeL (e.kids.drop 0) (deep + 1) (0, n + 1) = X) := hgd (by unfold rangeP; rw [cK]; simp; omega) (fun h => by omega)
          clear hrg hgd hnm cN
          have bK : (e.kind == 3) = true := by simpa using cK
          clear cK
          go_enter Try.func33, Try.ntmps33
          go_wp2_with fail
          clear hlk i0 i1 i2 i3 i4 i5 i6 i7 i8 i9 i10 hw1 hwA z0 y0 q1
          clear f0 f1 f2 f3 f4

          go_loopw [115] (fun t wr => ∃ j m : Nat, t = .int .i64 (j : Int) ∧ j ≤ e.kids.length ∧ shapeL (e.kids.drop j) (deep + 1) (0, m) = X ∧ m ≤ 600 ∧ CntAt wr gn m ∧ Kept gn w wr) (fun t _ => e.kids.length - (intOf t).toNat)
          case atStart => exact ⟨0, n + 1, rfl, by omega, HS.out, hm6, HC10.out, hk10⟩
          case round =>
            obtain ⟨j, m, rfl, hj, hXr, hm, hcr, hkr⟩ := hrel
            clear HS HC10 hk10
            have hj0 : (0 : Int) ≤ (j : Int) := by omega
            by_cases hlt : j < e.kids.length
            · have hlt' : (j : Int) < (e.kids.length : Int) := by omega
              obtain ⟨k, hjk⟩ : ∃ k, e.kids[j]? = some k := ⟨e.kids[j], List.getElem?_eq_getElem hlt⟩
              rw [shapeL_step hjk] at hXr
              have hks : e.kids ≠ [] := fun h => by rw [h] at hlt; simp at hlt
              obtain ⟨g, o, c', hsl, hgn, hlen, hkid⟩ := hk.resolve_left hks
              obtain ⟨pk, ck, d0, d1, d2, d3, d4, ihk⟩ := hkid j k hjk
              have eb : wr.heap[g]? = w.heap[g]? := hkr.block g (block_lt_of_cell d0) (fun e => hgn (Option.some.inj e))
              have ce : ∀ i, wr.cell? ⟨g, i, none⟩ = w.cell? ⟨g, i, none⟩ := fun i => World.cell?_of_block eb
              have f0 := (ce _).trans d0
              have f1 := (ce _).trans d1
              have f2 := (ce _).trans d2
              have f3 := (ce _).trans d3
              have f4 := (ce _).trans d4
              have hbB : Below wr.heap.size wr (wr.alloc (.cells #[.int .i64 k.kind, .int .i64 k.a, .int .i64 k.b, .string ⟨k.name.toArray⟩, .slice pk k.kids.length ck] 41)) := (Below.refl _ _).alloc (Nat.le_refl _) _
              have hxB := heap_alloc_new wr (.cells #[.int .i64 k.kind, .int .i64 k.a, .int .i64 k.b, .string ⟨k.name.toArray⟩, .slice pk k.kids.length ck] 41)
              have hkB := hkr.trans (Kept.of_below hbB)
              have hcB : CntAt (wr.alloc (.cells #[.int .i64 k.kind, .int .i64 k.a, .int .i64 k.b, .string ⟨k.name.toArray⟩, .slice pk k.kids.length ck] 41)) gn m := (hbB.block _ (lt_of_block hcr)).trans hcr
              have cR := ihk _ (deep + 1) m hkB hcB hm (by omega)
              have hdd : (deep : Int) + 1 = ((deep + 1 : Nat) : Int) := by omega
              have hle := fun h => shapeP_le (e := k) (deep := deep + 1) (n := m) h
              injection hsl with e1 e2 e3
              subst e1
              subst e3
              clear ce d0 d1 d2 d3 d4 ihk hkid eb hcr hks hjk hcB hbB
              have HXr : Hid (shapeL (e.kids.drop (j + 1)) (deep + 1) (shapeP k (deep + 1) m) = X) := hXr
              clear hXr
              generalize shapeP k (deep + 1) m = Y at *
              generalize ((deep + 1 : Nat) : Int) = dv at *
              generalize hwB : wr.alloc (.cells #[.int .i64 k.kind, .int .i64 k.a, .int .i64 k.b, .string ⟨k.name.toArray⟩, .slice pk k.kids.length ck] 41) = wB at *
              obtain ⟨y1, y2⟩ := Y
              go_wp2_with (refine wpList_load_row rfl 41 _ rfl _ rfl _ _ _ _ hxB exprType rfl (by kernel_rfl) ?_)
              refine cR.mono ?_
              rintro r w3 ⟨rfl, hc3, hk3⟩
              have hkw3 := hkB.trans hk3
              dsimp only at hc3 hle ⊢
              clear cR hk3 hkB hxB hwB f0 f1 f2 f3 f4
              by_cases hy : y1 = 0
              · subst hy
                have hy2 := hle rfl
                go_wp2_with fail
                go_roundw
                case rel => exact ⟨j + 1, y2, by go_num, by omega, HXr.out, hy2, hc3, hkw3⟩
                case measure => simp [intOf]; omega
              · have hyb : (y1 != 0) = true := by simpa using hy
                have HE : Hid (X = (y1, y2)) := by show _ = _; rw [← HXr.out, shapeL_bad hy]
                clear HXr hle
                go_wp2_with fail
                go_ret
                rw [HE.out]
                exact ⟨rfl, hc3, hkw3⟩
            · have hlt' : ¬ (j : Int) < (e.kids.length : Int) := by omega
              have HE : Hid (X = (0, m)) := by show _ = _; rw [← hXr, List.drop_eq_nil_of_le (by omega)]; rfl
              clear hXr
              go_wp2_with fail
              go_ret
              rw [HE.out]
              exact ⟨rfl, hcr, hkr⟩
  have n3k : (e.kind == 3) = false := beq_eq_false_iff_ne.2 cK
  have m3k := cK
  clear cK
  by_cases cK : e.kind = 4
  case pos =>
    by_cases a1 : e.a < 1
    · have HE : Hid (X = (3, n + 1)) := hrg (by unfold rangeP; rw [cK]; simp; omega)
      clear hrg hgd hnm cN
      have bK : (e.kind == 4) = true := by simpa using cK
      clear cK
      go_enter Try.func33, Try.ntmps33
      go_wp2_with fail
      go_ret
      rw [HE.out]
      exact ⟨rfl, HC10.out, hk10⟩
    · by_cases a2 : 127 < e.a
      · have HE : Hid (X = (3, n + 1)) := hrg (by unfold rangeP; rw [cK]; simp; omega)
        clear hrg hgd hnm cN
        have bK : (e.kind == 4) = true := by simpa using cK
        clear cK
        go_enter Try.func33, Try.ntmps33
        go_wp2_with fail
        go_ret
        rw [HE.out]
        exact ⟨rfl, HC10.out, hk10⟩
      · have HS : Hid (shapeL (e.kids.drop 0) (deep + 1) (0, n + 1) = X) := hgd (by unfold rangeP; rw [cK]; simp; omega) (fun h => by omega)
        clear hrg hgd hnm cN
        have bK : (e.kind == 4) = true := by simpa using cK
        clear cK
        go_enter Try.func33, Try.ntmps33
        go_wp2_with fail
        clear hlk i0 i1 i2 i3 i4 i5 i6 i7 i8 i9 i10 hw1 hwA z0 y0 q1
        clear f0 f1 f2 f3 f4

        go_loopw [115] (fun t wr => ∃ j m : Nat, t = .int .i64 (j : Int) ∧ j ≤ e.kids.length ∧ shapeL (e.kids.drop j) (deep + 1) (0, m) = X ∧ m ≤ 600 ∧ CntAt wr gn m ∧ Kept gn w wr) (fun t _ => e.kids.length - (intOf t).toNat)
        case atStart => exact ⟨0, n + 1, rfl, by omega, HS.out, hm6, HC10.out, hk10⟩
        case round =>
          obtain ⟨j, m, rfl, hj, hXr, hm, hcr, hkr⟩ := hrel
          clear HS HC10 hk10
          have hj0 : (0 : Int) ≤ (j : Int) := by omega
          by_cases hlt : j < e.kids.length
          · have hlt' : (j : Int) < (e.kids.length : Int) := by omega
            obtain ⟨k, hjk⟩ : ∃ k, e.kids[j]? = some k := ⟨e.kids[j], List.getElem?_eq_getElem hlt⟩
            rw [shapeL_step hjk] at hXr
            have hks : e.kids ≠ [] := fun h => by rw [h] at hlt; simp at hlt
            obtain ⟨g, o, c', hsl, hgn, hlen, hkid⟩ := hk.resolve_left hks
            obtain ⟨pk, ck, d0, d1, d2, d3, d4, ihk⟩ := hkid j k hjk
            have eb : wr.heap[g]? = w.heap[g]? := hkr.block g (block_lt_of_cell d0) (fun e => hgn (Option.some.inj e))
            have ce : ∀ i, wr.cell? ⟨g, i, none⟩ = w.cell? ⟨g, i, none⟩ := fun i => World.cell?_of_block eb
            have f0 := (ce _).trans d0
            have f1 := (ce _).trans d1
            have f2 := (ce _).trans d2
            have f3 := (ce _).trans d3
            have f4 := (ce _).trans d4
            have hbB : Below wr.heap.size wr (wr.alloc (.cells #[.int .i64 k.kind, .int .i64 k.a, .int .i64 k.b, .string ⟨k.name.toArray⟩, .slice pk k.kids.length ck] 41)) := (Below.refl _ _).alloc (Nat.le_refl _) _
            have hxB := heap_alloc_new wr (.cells #[.int .i64 k.kind, .int .i64 k.a, .int .i64 k.b, .string ⟨k.name.toArray⟩, .slice pk k.kids.length ck] 41)
            have hkB := hkr.trans (Kept.of_below hbB)
            have hcB : CntAt (wr.alloc (.cells #[.int .i64 k.kind, .int .i64 k.a, .int .i64 k.b, .string ⟨k.name.toArray⟩, .slice pk k.kids.length ck] 41)) gn m := (hbB.block _ (lt_of_block hcr)).trans hcr
            have cR := ihk _ (deep + 1) m hkB hcB hm (by omega)
            have hdd : (deep : Int) + 1 = ((deep + 1 : Nat) : Int) := by omega
            have hle := fun h => shapeP_le (e := k) (deep := deep + 1) (n := m) h
            injection hsl with e1 e2 e3
            subst e1
            subst e3
            clear ce d0 d1 d2 d3 d4 ihk hkid eb hcr hks hjk hcB hbB
            have HXr : Hid (shapeL (e.kids.drop (j + 1)) (deep + 1) (shapeP k (deep + 1) m) = X) := hXr
            clear hXr
            generalize shapeP k (deep + 1) m = Y at *
            generalize ((deep + 1 : Nat) : Int) = dv at *
            generalize hwB : wr.alloc (.cells #[.int .i64 k.kind, .int .i64 k.a, .int .i64 k.b, .string ⟨k.name.toArray⟩, .slice pk k.kids.length ck] 41) = wB at *
            obtain ⟨y1, y2⟩ := Y
            go_wp2_with (refine wpList_load_row rfl 41 _ rfl _ rfl _ _ _ _ hxB exprType rfl (by kernel_rfl) ?_)
            refine cR.mono ?_
            rintro r w3 ⟨rfl, hc3, hk3⟩
            have hkw3 := hkB.trans hk3
            dsimp only at hc3 hle ⊢
            clear cR hk3 hkB hxB hwB f0 f1 f2 f3 f4
            by_cases hy : y1 = 0
            · subst hy
              have hy2 := hle rfl
              go_wp2_with fail
              go_roundw
              case rel => exact ⟨j + 1, y2, by go_num, by omega, HXr.out, hy2, hc3, hkw3⟩
              case measure => simp [intOf]; omega
            · have hyb : (y1 != 0) = true := by simpa using hy
              have HE : Hid (X = (y1, y2)) := by show _ = _; rw [← HXr.out, shapeL_bad hy]
              clear HXr hle
              go_wp2_with fail
              go_ret
              rw [HE.out]
              exact ⟨rfl, hc3, hkw3⟩
          · have hlt' : ¬ (j : Int) < (e.kids.length : Int) := by omega
            have HE : Hid (X = (0, m)) := by show _ = _; rw [← hXr, List.drop_eq_nil_of_le (by omega)]; rfl
            clear hXr
            go_wp2_with fail
            go_ret
            rw [HE.out]
            exact ⟨rfl, hcr, hkr⟩
  have n4k : (e.kind == 4) = false := beq_eq_false_iff_ne.2 cK
  have m4k := cK
  clear cK
  by_cases cK : e.kind = 5
  case pos =>
    by_cases a1 : e.a < 0
    · have HE : Hid (X = (3, n + 1)) := hrg (by unfold rangeP; rw [cK]; simp; omega)
      clear hrg hgd hnm cN
      have bK : (e.kind == 5) = true := by simpa using cK
      clear cK
      go_enter Try.func33, Try.ntmps33
      go_wp2_with fail
      go_ret
      rw [HE.out]
      exact ⟨rfl, HC10.out, hk10⟩
    · by_cases a2 : 146097 ≤ e.b
      · have HE : Hid (X = (3, n + 1)) := hrg (by unfold rangeP; rw [cK]; simp; omega)
        clear hrg hgd hnm cN
        have bK : (e.kind == 5) = true := by simpa using cK
        clear cK
        go_enter Try.func33, Try.ntmps33
        go_wp2_with fail
        go_ret
        rw [HE.out]
        exact ⟨rfl, HC10.out, hk10⟩
      · by_cases a3 : e.b < e.a
        · have HE : Hid (X = (3, n + 1)) := hrg (by unfold rangeP; rw [cK]; simp; omega)
          clear hrg hgd hnm cN
          have bK : (e.kind == 5) = true := by simpa using cK
          clear cK
          go_enter Try.func33, Try.ntmps33
          go_wp2_with fail
          go_ret
          rw [HE.out]
          exact ⟨rfl, HC10.out, hk10⟩
        · have HS : Hid (shapeL (e.kids.drop 0) (deep + 1) (0, n + 1) = X) := hgd (by unfold rangeP; rw [cK]; simp; omega) (fun h => by omega)
          clear hrg hgd hnm cN
          have bK : (e.kind == 5) = true := by simpa using cK
          clear cK
          go_enter Try.func33, Try.ntmps33
          go_wp2_with fail
          clear hlk i0 i1 i2 i3 i4 i5 i6 i7 i8 i9 i10 hw1 hwA z0 y0 q1
          clear f0 f1 f2 f3 f4

          go_loopw [115] (fun t wr => ∃ j m : Nat, t = .int .i64 (j : Int) ∧ j ≤ e.kids.length ∧ shapeL (e.kids.drop j) (deep + 1) (0, m) = X ∧ m ≤ 600 ∧ CntAt wr gn m ∧ Kept gn w wr) (fun t _ => e.kids.length - (intOf t).toNat)
          case atStart => exact ⟨0, n + 1, rfl, by omega, HS.out, hm6, HC10.out, hk10⟩
          case round =>
            obtain ⟨j, m, rfl, hj, hXr, hm, hcr, hkr⟩ := hrel
            clear HS HC10 hk10
            have hj0 : (0 : Int) ≤ (j : Int) := by omega
            by_cases hlt : j < e.kids.length
            · have hlt' : (j : Int) < (e.kids.length : Int) := by omega
              obtain ⟨k, hjk⟩ : ∃ k, e.kids[j]? = some k := ⟨e.kids[j], List.getElem?_eq_getElem hlt⟩
              rw [shapeL_step hjk] at hXr
              have hks : e.kids ≠ [] := fun h => by rw [h] at hlt; simp at hlt
              obtain ⟨g, o, c', hsl, hgn, hlen, hkid⟩ := hk.resolve_left hks
              obtain ⟨pk, ck, d0, d1, d2, d3, d4, ihk⟩ := hkid j k hjk
              have eb : wr.heap[g]? = w.heap[g]? := hkr.block g (block_lt_of_cell d0) (fun e => hgn (Option.some.inj e))
              have ce : ∀ i, wr.cell? ⟨g, i, none⟩ = w.cell? ⟨g, i, none⟩ := fun i => World.cell?_of_block eb
              have f0 := (ce _).trans d0
              have f1 := (ce _).trans d1
              have f2 := (ce _).trans d2
              have f3 := (ce _).trans d3
              have f4 := (ce _).trans d4
              have hbB : Below wr.heap.size wr (wr.alloc (.cells #[.int .i64 k.kind, .int .i64 k.a, .int .i64 k.b, .string ⟨k.name.toArray⟩, .slice pk k.kids.length ck] 41)) := (Below.refl _ _).alloc (Nat.le_refl _) _
              have hxB := heap_alloc_new wr (.cells #[.int .i64 k.kind, .int .i64 k.a, .int .i64 k.b, .string ⟨k.name.toArray⟩, .slice pk k.kids.length ck] 41)
              have hkB := hkr.trans (Kept.of_below hbB)
              have hcB : CntAt (wr.alloc (.cells #[.int .i64 k.kind, .int .i64 k.a, .int .i64 k.b, .string ⟨k.name.toArray⟩, .slice pk k.kids.length ck] 41)) gn m := (hbB.block _ (lt_of_block hcr)).trans hcr
              have cR := ihk _ (deep + 1) m hkB hcB hm (by omega)
              have hdd : (deep : Int) + 1 = ((deep + 1 : Nat) : Int) := by omega
              have hle := fun h => shapeP_le (e := k) (deep := deep + 1) (n := m) h
              injection hsl with e1 e2 e3
              subst e1
              subst e3
              clear ce d0 d1 d2 d3 d4 ihk hkid eb hcr hks hjk hcB hbB
              have HXr : Hid (shapeL (e.kids.drop (j + 1)) (deep + 1) (shapeP k (deep + 1) m) = X) := hXr
              clear hXr
              generalize shapeP k (deep + 1) m = Y at *
              generalize ((deep + 1 : Nat) : Int) = dv at *
              generalize hwB : wr.alloc (.cells #[.int .i64 k.kind, .int .i64 k.a, .int .i64 k.b, .string ⟨k.name.toArray⟩, .slice pk k.kids.length ck] 41) = wB at *
              obtain ⟨y1, y2⟩ := Y
              go_wp2_with (refine wpList_load_row rfl 41 _ rfl _ rfl _ _ _ _ hxB exprType rfl (by kernel_rfl) ?_)
              refine cR.mono ?_
              rintro r w3 ⟨rfl, hc3, hk3⟩
              have hkw3 := hkB.trans hk3
              dsimp only at hc3 hle ⊢
              clear cR hk3 hkB hxB hwB f0 f1 f2 f3 f4
              by_cases hy : y1 = 0
              · subst hy
                have hy2 := hle rfl
                go_wp2_with fail
                go_roundw
                case rel => exact ⟨j + 1, y2, by go_num, by omega, HXr.out, hy2, hc3, hkw3⟩
                case measure => simp [intOf]; omega
              · have hyb : (y1 != 0) = true := by simpa using hy
                have HE : Hid (X = (y1, y2)) := by show _ = _; rw [← HXr.out, shapeL_bad hy]
                clear HXr hle
                go_wp2_with fail
                go_ret
                rw [HE.out]
                exact ⟨rfl, hc3, hkw3⟩
            · have hlt' : ¬ (j : Int) < (e.kids.length : Int) := by omega
              have HE : Hid (X = (0, m)) := by show _ = _; rw [← hXr, List.drop_eq_nil_of_le (by omega)]; rfl
              clear hXr
              go_wp2_with fail
              go_ret
              rw [HE.out]
              exact ⟨rfl, hcr, hkr⟩
  have n5k : (e.kind == 5) = false := beq_eq_false_iff_ne.2 cK
  have m5k := cK
  clear cK
  by_cases cK : e.kind = 9
  case pos =>
    by_cases a0 : e.a = 0
    · have b0 : (e.a == 0) = true := by simpa using a0
      have HE : Hid (X = (3, n + 1)) := hrg (by unfold rangeP; rw [cK]; simp; omega)
      clear hrg hgd hnm cN
      have bK : (e.kind == 9) = true := by simpa using cK
      clear cK a0
      go_enter Try.func33, Try.ntmps33
      go_wp2_with fail
      go_ret
      rw [HE.out]
      exact ⟨rfl, HC10.out, hk10⟩
    · have b0 : (e.a == 0) = false := by simpa using a0
      by_cases a1 : 1439 < e.a
      · have HE : Hid (X = (3, n + 1)) := hrg (by unfold rangeP; rw [cK]; simp; omega)
        clear hrg hgd hnm cN
        have bK : (e.kind == 9) = true := by simpa using cK
        clear cK
        go_enter Try.func33, Try.ntmps33
        go_wp2_with fail
        go_ret
        rw [HE.out]
        exact ⟨rfl, HC10.out, hk10⟩
      · by_cases a2 : e.a < -1439
        · have HE : Hid (X = (3, n + 1)) := hrg (by unfold rangeP; rw [cK]; simp; omega)
          clear hrg hgd hnm cN
          have bK : (e.kind == 9) = true := by simpa using cK
          clear cK
          go_enter Try.func33, Try.ntmps33
          go_wp2_with fail
          go_ret
          rw [HE.out]
          exact ⟨rfl, HC10.out, hk10⟩
        · have HS : Hid (shapeL (e.kids.drop 0) (deep + 1) (0, n + 1) = X) := hgd (by unfold rangeP; rw [cK]; simp; omega) (fun h => by omega)
          clear hrg hgd hnm cN
          have bK : (e.kind == 9) = true := by simpa using cK
          clear cK
          go_enter Try.func33, Try.ntmps33
          go_wp2_with fail
          clear hlk i0 i1 i2 i3 i4 i5 i6 i7 i8 i9 i10 hw1 hwA z0 y0 q1
          clear f0 f1 f2 f3 f4

          go_loopw [115] (fun t wr => ∃ j m : Nat, t = .int .i64 (j : Int) ∧ j ≤ e.kids.length ∧ shapeL (e.kids.drop j) (deep + 1) (0, m) = X ∧ m ≤ 600 ∧ CntAt wr gn m ∧ Kept gn w wr) (fun t _ => e.kids.length - (intOf t).toNat)
          case atStart => exact ⟨0, n + 1, rfl, by omega, HS.out, hm6, HC10.out, hk10⟩
          case round =>
            obtain ⟨j, m, rfl, hj, hXr, hm, hcr, hkr⟩ := hrel
            clear HS HC10 hk10
            have hj0 : (0 : Int) ≤ (j : Int) := by omega
            by_cases hlt : j < e.kids.length
            · have hlt' : (j : Int) < (e.kids.length : Int) := by omega
              obtain ⟨k, hjk⟩ : ∃ k, e.kids[j]? = some k := ⟨e.kids[j], List.getElem?_eq_getElem hlt⟩
              rw [shapeL_step hjk] at hXr
              have hks : e.kids ≠ [] := fun h => by rw [h] at hlt; simp at hlt
              obtain ⟨g, o, c', hsl, hgn, hlen, hkid⟩ := hk.resolve_left hks
              obtain ⟨pk, ck, d0, d1, d2, d3, d4, ihk⟩ := hkid j k hjk
              have eb : wr.heap[g]? = w.heap[g]? := hkr.block g (block_lt_of_cell d0) (fun e => hgn (Option.some.inj e))
              have ce : ∀ i, wr.cell? ⟨g, i, none⟩ = w.cell? ⟨g, i, none⟩ := fun i => World.cell?_of_block eb
              have f0 := (ce _).trans d0
              have f1 := (ce _).trans d1
              have f2 := (ce _).trans d2
              have f3 := (ce _).trans d3
              have f4 := (ce _).trans d4
              have hbB : Below wr.heap.size wr (wr.alloc (.cells #[.int .i64 k.kind, .int .i64 k.a, .int .i64 k.b, .string ⟨k.name.toArray⟩, .slice pk k.kids.length ck] 41)) := (Below.refl _ _).alloc (Nat.le_refl _) _
              have hxB := heap_alloc_new wr (.cells #[.int .i64 k.kind, .int .i64 k.a, .int .i64 k.b, .string ⟨k.name.toArray⟩, .slice pk k.kids.length ck] 41)
              have hkB := hkr.trans (Kept.of_below hbB)
              have hcB : CntAt (wr.alloc (.cells #[.int .i64 k.kind, .int .i64 k.a, .int .i64 k.b, .string ⟨k.name.toArray⟩, .slice pk k.kids.length ck] 41)) gn m := (hbB.block _ (lt_of_block hcr)).trans hcr
              have cR := ihk _ (deep + 1) m hkB hcB hm (by omega)
              have hdd : (deep : Int) + 1 = ((deep + 1 : Nat) : Int) := by omega
              have hle := fun h => shapeP_le (e := k) (deep := deep + 1) (n := m) h
              injection hsl with e1 e2 e3
              subst e1
              subst e3
              clear ce d0 d1 d2 d3 d4 ihk hkid eb hcr hks hjk hcB hbB
              have HXr : Hid (shapeL (e.kids.drop (j + 1)) (deep + 1) (shapeP k (deep + 1) m) = X) := hXr
              clear hXr
              generalize shapeP k (deep + 1) m = Y at *
              generalize ((deep + 1 : Nat) : Int) = dv at *
              generalize hwB : wr.alloc (.cells #[.int .i64 k.kind, .int .i64 k.a, .int .i64 k.b, .string ⟨k.name.toArray⟩, .slice pk k.kids.length ck] 41) = wB at *
              obtain ⟨y1, y2⟩ := Y
              go_wp2_with (refine wpList_load_row rfl 41 _ rfl _ rfl _ _ _ _ hxB exprType rfl (by kernel_rfl) ?_)
              refine cR.mono ?_
              rintro r w3 ⟨rfl, hc3, hk3⟩
              have hkw3 := hkB.trans hk3
              dsimp only at hc3 hle ⊢
              clear cR hk3 hkB hxB hwB f0 f1 f2 f3 f4
              by_cases hy : y1 = 0
              · subst hy
                have hy2 := hle rfl
                go_wp2_with fail
                go_roundw
                case rel => exact ⟨j + 1, y2, by go_num, by omega, HXr.out, hy2, hc3, hkw3⟩
                case measure => simp [intOf]; omega
              · have hyb : (y1 != 0) = true := by simpa using hy
                have HE : Hid (X = (y1, y2)) := by show _ = _; rw [← HXr.out, shapeL_bad hy]
                clear HXr hle
                go_wp2_with fail
                go_ret
                rw [HE.out]
                exact ⟨rfl, hc3, hkw3⟩
            · have hlt' : ¬ (j : Int) < (e.kids.length : Int) := by omega
              have HE : Hid (X = (0, m)) := by show _ = _; rw [← hXr, List.drop_eq_nil_of_le (by omega)]; rfl
              clear hXr
              go_wp2_with fail
              go_ret
              rw [HE.out]
              exact ⟨rfl, hcr, hkr⟩
  have n9k : (e.kind == 9) = false := beq_eq_false_iff_ne.2 cK
  have m9k := cK
  clear cK
  have hr1 : rangeP e.kind e.a e.b = true := by unfold rangeP; rw [if_neg m3k, if_neg m4k, if_neg m5k, if_neg m9k]
  by_cases cK : e.kind = 10
  case pos =>
    cases hnb : namedL e.name with
    | false =>
      have HE : Hid (X = (7, n + 1)) := hnm cK hnb
      rw [hnb] at cN
      clear hrg hgd hnm hr1 m3k m4k m5k m9k
      have bK : (e.kind == 10) = true := by simpa using cK
      clear cK
      go_enter Try.func33, Try.ntmps33
      go_wp2_with fail
      refine (cN _).mono ?_
      rintro r w2 ⟨rfl, hb2⟩
      have hk2 := hk10.trans (Kept.of_below hb2)
      have HC2 : Hid (CntAt w2 gn (n + 1)) := (hb2.block _ (lt_of_block HC10.out)).trans HC10.out
      go_wp2_with fail
      go_ret
      rw [HE.out]
      exact ⟨rfl, HC2.out, hk2⟩
    | true =>
      have HS : Hid (shapeL (e.kids.drop 0) (deep + 1) (0, n + 1) = X) := hgd hr1 (fun h => by rw [hnb] at h; cases h.2)
      rw [hnb] at cN
      clear hrg hgd hnm hr1 m3k m4k m5k m9k
      have bK : (e.kind == 10) = true := by simpa using cK
      clear cK
      go_enter Try.func33, Try.ntmps33
      go_wp2_with fail
      refine (cN _).mono ?_
      rintro r w2 ⟨rfl, hb2⟩
      replace hk10 := hk10.trans (Kept.of_below hb2)
      have HC2 : Hid (CntAt w2 gn (n + 1)) := (hb2.block _ (lt_of_block HC10.out)).trans HC10.out
      have f42 := (hb2.cell (block_lt_of_cell f4)).trans f4
      clear HC10
      have HC10 := HC2
      clear HC2 cN
      go_wp2_with fail
      clear f42 hb2
      clear hlk i0 i1 i2 i3 i4 i5 i6 i7 i8 i9 i10 hw1 hwA z0 y0 q1
      clear f0 f1 f2 f3 f4

      go_loopw [115] (fun t wr => ∃ j m : Nat, t = .int .i64 (j : Int) ∧ j ≤ e.kids.length ∧ shapeL (e.kids.drop j) (deep + 1) (0, m) = X ∧ m ≤ 600 ∧ CntAt wr gn m ∧ Kept gn w wr) (fun t _ => e.kids.length - (intOf t).toNat)
      case atStart => exact ⟨0, n + 1, rfl, by omega, HS.out, hm6, HC10.out, hk10⟩
      case round =>
        obtain ⟨j, m, rfl, hj, hXr, hm, hcr, hkr⟩ := hrel
        clear HS HC10 hk10
        have hj0 : (0 : Int) ≤ (j : Int) := by omega
        by_cases hlt : j < e.kids.length
        · have hlt' : (j : Int) < (e.kids.length : Int) := by omega
          obtain ⟨k, hjk⟩ : ∃ k, e.kids[j]? = some k := ⟨e.kids[j], List.getElem?_eq_getElem hlt⟩
          rw [shapeL_step hjk] at hXr
          have hks : e.kids ≠ [] := fun h => by rw [h] at hlt; simp at hlt
          obtain ⟨g, o, c', hsl, hgn, hlen, hkid⟩ := hk.resolve_left hks
          obtain ⟨pk, ck, d0, d1, d2, d3, d4, ihk⟩ := hkid j k hjk
          have eb : wr.heap[g]? = w.heap[g]? := hkr.block g (block_lt_of_cell d0) (fun e => hgn (Option.some.inj e))
          have ce : ∀ i, wr.cell? ⟨g, i, none⟩ = w.cell? ⟨g, i, none⟩ := fun i => World.cell?_of_block eb
          have f0 := (ce _).trans d0
          have f1 := (ce _).trans d1
          have f2 := (ce _).trans d2
          have f3 := (ce _).trans d3
          have f4 := (ce _).trans d4
          have hbB : Below wr.heap.size wr (wr.alloc (.cells #[.int .i64 k.kind, .int .i64 k.a, .int .i64 k.b, .string ⟨k.name.toArray⟩, .slice pk k.kids.length ck] 41)) := (Below.refl _ _).alloc (Nat.le_refl _) _
          have hxB := heap_alloc_new wr (.cells #[.int .i64 k.kind, .int .i64 k.a, .int .i64 k.b, .string ⟨k.name.toArray⟩, .slice pk k.kids.length ck] 41)
          have hkB := hkr.trans (Kept.of_below hbB)
          have hcB : CntAt (wr.alloc (.cells #[.int .i64 k.kind, .int .i64 k.a, .int .i64 k.b, .string ⟨k.name.toArray⟩, .slice pk k.kids.length ck] 41)) gn m := (hbB.block _ (lt_of_block hcr)).trans hcr
          have cR := ihk _ (deep + 1) m hkB hcB hm (by omega)
          have hdd : (deep : Int) + 1 = ((deep + 1 : Nat) : Int) := by omega
          have hle := fun h => shapeP_le (e := k) (deep := deep + 1) (n := m) h
          injection hsl with e1 e2 e3
          subst e1
          subst e3
          clear ce d0 d1 d2 d3 d4 ihk hkid eb hcr hks hjk hcB hbB
          have HXr : Hid (shapeL (e.kids.drop (j + 1)) (deep + 1) (shapeP k (deep + 1) m) = X) := hXr
          clear hXr
          generalize shapeP k (deep + 1) m = Y at *
          generalize ((deep + 1 : Nat) : Int) = dv at *
          generalize hwB : wr.alloc (.cells #[.int .i64 k.kind, .int .i64 k.a, .int .i64 k.b, .string ⟨k.name.toArray⟩, .slice pk k.kids.length ck] 41) = wB at *
          obtain ⟨y1, y2⟩ := Y
          go_wp2_with (refine wpList_load_row rfl 41 _ rfl _ rfl _ _ _ _ hxB exprType rfl (by kernel_rfl) ?_)
          refine cR.mono ?_
          rintro r w3 ⟨rfl, hc3, hk3⟩
          have hkw3 := hkB.trans hk3
          dsimp only at hc3 hle ⊢
          clear cR hk3 hkB hxB hwB f0 f1 f2 f3 f4
          by_cases hy : y1 = 0
          · subst hy
            have hy2 := hle rfl
            go_wp2_with fail
            go_roundw
            case rel => exact ⟨j + 1, y2, by go_num, by omega, HXr.out, hy2, hc3, hkw3⟩
            case measure => simp [intOf]; omega
          · have hyb : (y1 != 0) = true := by simpa using hy
            have HE : Hid (X = (y1, y2)) := by show _ = _; rw [← HXr.out, shapeL_bad hy]
            clear HXr hle
            go_wp2_with fail
            go_ret
            rw [HE.out]
            exact ⟨rfl, hc3, hkw3⟩
        · have hlt' : ¬ (j : Int) < (e.kids.length : Int) := by omega
          have HE : Hid (X = (0, m)) := by show _ = _; rw [← hXr, List.drop_eq_nil_of_le (by omega)]; rfl
          clear hXr
          go_wp2_with fail
          go_ret
          rw [HE.out]
          exact ⟨rfl, hcr, hkr⟩
  have n10k : (e.kind == 10) = false := beq_eq_false_iff_ne.2 cK
  have HS : Hid (shapeL (e.kids.drop 0) (deep + 1) (0, n + 1) = X) := hgd hr1 (fun h => cK h.1)
  clear hrg hgd hnm cN hr1 m3k m4k m5k m9k cK
  go_enter Try.func33, Try.ntmps33
  go_wp2_with fail
  clear hlk i0 i1 i2 i3 i4 i5 i6 i7 i8 i9 i10 hw1 hwA z0 y0 q1
  clear f0 f1 f2 f3 f4

  go_loopw [115] (fun t wr => ∃ j m : Nat, t = .int .i64 (j : Int) ∧ j ≤ e.kids.length ∧ shapeL (e.kids.drop j) (deep + 1) (0, m) = X ∧ m ≤ 600 ∧ CntAt wr gn m ∧ Kept gn w wr) (fun t _ => e.kids.length - (intOf t).toNat)
  case atStart => exact ⟨0, n + 1, rfl, by omega, HS.out, hm6, HC10.out, hk10⟩
  case round =>
    obtain ⟨j, m, rfl, hj, hXr, hm, hcr, hkr⟩ := hrel
    clear HS HC10 hk10
    have hj0 : (0 : Int) ≤ (j : Int) := by omega
    by_cases hlt : j < e.kids.length
    · have hlt' : (j : Int) < (e.kids.length : Int) := by omega
      obtain ⟨k, hjk⟩ : ∃ k, e.kids[j]? = some k := ⟨e.kids[j], List.getElem?_eq_getElem hlt⟩
      rw [shapeL_step hjk] at hXr
      have hks : e.kids ≠ [] := fun h => by rw [h] at hlt; simp at hlt
      obtain ⟨g, o, c', hsl, hgn, hlen, hkid⟩ := hk.resolve_left hks
      obtain ⟨pk, ck, d0, d1, d2, d3, d4, ihk⟩ := hkid j k hjk
      have eb : wr.heap[g]? = w.heap[g]? := hkr.block g (block_lt_of_cell d0) (fun e => hgn (Option.some.inj e))
      have ce : ∀ i, wr.cell? ⟨g, i, none⟩ = w.cell? ⟨g, i, none⟩ := fun i => World.cell?_of_block eb
      have f0 := (ce _).trans d0
      have f1 := (ce _).trans d1
      have f2 := (ce _).trans d2
      have f3 := (ce _).trans d3
      have f4 := (ce _).trans d4
      have hbB : Below wr.heap.size wr (wr.alloc (.cells #[.int .i64 k.kind, .int .i64 k.a, .int .i64 k.b, .string ⟨k.name.toArray⟩, .slice pk k.kids.length ck] 41)) := (Below.refl _ _).alloc (Nat.le_refl _) _
      have hxB := heap_alloc_new wr (.cells #[.int .i64 k.kind, .int .i64 k.a, .int .i64 k.b, .string ⟨k.name.toArray⟩, .slice pk k.kids.length ck] 41)
      have hkB := hkr.trans (Kept.of_below hbB)
      have hcB : CntAt (wr.alloc (.cells #[.int .i64 k.kind, .int .i64 k.a, .int .i64 k.b, .string ⟨k.name.toArray⟩, .slice pk k.kids.length ck] 41)) gn m := (hbB.block _ (lt_of_block hcr)).trans hcr
      have cR := ihk _ (deep + 1) m hkB hcB hm (by omega)
      have hdd : (deep : Int) + 1 = ((deep + 1 : Nat) : Int) := by omega
      have hle := fun h => shapeP_le (e := k) (deep := deep + 1) (n := m) h
      injection hsl with e1 e2 e3
      subst e1
      subst e3
      clear ce d0 d1 d2 d3 d4 ihk hkid eb hcr hks hjk hcB hbB
      have HXr : Hid (shapeL (e.kids.drop (j + 1)) (deep + 1) (shapeP k (deep + 1) m) = X) := hXr
      clear hXr
      generalize shapeP k (deep + 1) m = Y at *
      generalize ((deep + 1 : Nat) : Int) = dv at *
      generalize hwB : wr.alloc (.cells #[.int .i64 k.kind, .int .i64 k.a, .int .i64 k.b, .string ⟨k.name.toArray⟩, .slice pk k.kids.length ck] 41) = wB at *
      obtain ⟨y1, y2⟩ := Y
      go_wp2_with (refine wpList_load_row rfl 41 _ rfl _ rfl _ _ _ _ hxB exprType rfl (by kernel_rfl) ?_)
      refine cR.mono ?_
      rintro r w3 ⟨rfl, hc3, hk3⟩
      have hkw3 := hkB.trans hk3
      dsimp only at hc3 hle ⊢
      clear cR hk3 hkB hxB hwB f0 f1 f2 f3 f4
      by_cases hy : y1 = 0
      · subst hy
        have hy2 := hle rfl
        go_wp2_with fail
        go_roundw
        case rel => exact ⟨j + 1, y2, by go_num, by omega, HXr.out, hy2, hc3, hkw3⟩
        case measure => simp [intOf]; omega
      · have hyb : (y1 != 0) = true := by simpa using hy
        have HE : Hid (X = (y1, y2)) := by show _ = _; rw [← HXr.out, shapeL_bad hy]
        clear HXr hle
        go_wp2_with fail
        go_ret
        rw [HE.out]
        exact ⟨rfl, hc3, hkw3⟩
    · have hlt' : ¬ (j : Int) < (e.kids.length : Int) := by omega
      have HE : Hid (X = (0, m)) := by show _ = _; rw [← hXr, List.drop_eq_nil_of_le (by omega)]; rfl
      clear hXr
      go_wp2_with fail
      go_ret
      rw [HE.out]
      exact ⟨rfl, hcr, hkr⟩
/-- What the document finds wrong with an expression that came in. -/
theorem shape_any (hB : ∀ k, B k → k ≠ gn) (d : Nat) (e : Ex) (sl : Value) (w : World) (deep n : Nat) (hk : KidsB B d w sl e.kids) (hn : e.name.length ≤ 9223372036854775807) (hc : CntAt w gn n) (h6 : n ≤ 600) (hd : deep ≤ 41) :
    Calls Try.prog 33 #[exV e sl, .int .i64 (deep : Int), .pointer (some ⟨gn, 0, none⟩)] w (OutN gn w (shapeP e deep n)) := shape_all _ hB (fun e p c w deep n => shape_step e p c w deep n) d e sl w deep n hk hn hc h6 hd
end Go.Proofs.Ytjllbklkaalafaa
