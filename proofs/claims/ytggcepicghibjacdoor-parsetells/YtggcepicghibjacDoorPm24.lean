/- What the document's guard comes to at a fault; Thing at dates. -/
import Derived.Test.YtggcepicghibjacDoorPm23
namespace Go.Proofs.YtggcepicghibjacDoor
open Go.RowKit Lx
variable {all : List Tk} {E g : Nat} {v : Value} {w : World} {i n : Nat} {er at_ : Int}

set_option maxRecDepth 100000 in
set_option maxHeartbeats 2000000 in
theorem guard_bad (h0 : WS0 all E g v) (h : WSt all E g v w i n er at_) (he : er ≠ 0) (d : Nat) (hd : d ≤ 40) (KD A Bv : Int) :
    Calls Tryd.prog 103 #[.pointer (some ⟨g, 0, none⟩), .agg #[.int .i64 KD, .int .i64 A, .int .i64 Bv, .string ⟨#[]⟩, .slice none 0 0], .int .i64 (d : Int)] w (OutB all E g v w i n er at_) := by
  have hgl := lt_of_block h.blk
  have hb1 := (Below.refl w.heap.size w).alloc (Nat.le_refl _) (.cells #[.int .i64 KD, .int .i64 A, .int .i64 Bv, .string ⟨#[]⟩, .slice none 0 0] 60)
  have hb2 := hb1.alloc hb1.size (.cells #[.int .i64 0, .int .i64 0, .int .i64 0, .string ⟨#[]⟩, .slice none 0 0] 60)
  have hx1 := heap_alloc_new w (.cells #[.int .i64 KD, .int .i64 A, .int .i64 Bv, .string ⟨#[]⟩, .slice none 0 0] 60)
  have hx2 := (Below.heap_alloc _ (.cells #[.int .i64 0, .int .i64 0, .int .i64 0, .string ⟨#[]⟩, .slice none 0 0] 60) _ (lt_of_block hx1)).trans hx1
  have hz2 : ((w.alloc (.cells #[.int .i64 KD, .int .i64 A, .int .i64 Bv, .string ⟨#[]⟩, .slice none 0 0] 60)).alloc (.cells #[.int .i64 0, .int .i64 0, .int .i64 0, .string ⟨#[]⟩, .slice none 0 0] 60)).heap[w.heap.size + 1]? = some (.cells ex0C 60 (0, 0)) := by
    have := heap_alloc_new (w.alloc (.cells #[.int .i64 KD, .int .i64 A, .int .i64 Bv, .string ⟨#[]⟩, .slice none 0 0] 60)) (.cells #[.int .i64 0, .int .i64 0, .int .i64 0, .string ⟨#[]⟩, .slice none 0 0] 60)
    rw [show (w.alloc (.cells #[.int .i64 KD, .int .i64 A, .int .i64 Bv, .string ⟨#[]⟩, .slice none 0 0] 60)).heap.size = w.heap.size + 1 by simp] at this
    exact this
  have hA := h.below hb2 h0
  have hkA := Kept.of_below (g := g) hb2
  clear hx1 hb1
  generalize hwA : (w.alloc (.cells #[.int .i64 KD, .int .i64 A, .int .i64 Bv, .string ⟨#[]⟩, .slice none 0 0] 60)).alloc (.cells #[.int .i64 0, .int .i64 0, .int .i64 0, .string ⟨#[]⟩, .slice none 0 0] 60) = wA at *
  have hlz := lt_of_block hz2
  have hd' : (d : Int) ≤ 40 := by omega
  have hd0 : (0 : Int) ≤ (d : Int) := by omega
  have c1 := need_bad h0 hA he wColon
  have c2 := fun (w1 : World) (h1 : WSt all E g v w1 i n er at_) => rfactor_bad h0 h1 he ((d : Int) + 1)
  have cg0 := fun (w1 : World) (h1 : WSt all E g v w1 i n er at_) => good_any h1
  simp only [show (er == 0) = false by simpa using he] at cg0
  clear he
  go_enter Tryd.func103, Tryd.ntmps103
  go_wp2_with fail
  refine c1.mono ?_
  rintro e w1 ⟨rfl, h1, hk1⟩
  clear hwA
  go_wp2_with fail
  refine (c2 _ h1).mono ?_
  rintro e w3 ⟨⟨a, b, c, x, p, q, r, rfl⟩, h3, hk3⟩
  have hb4 : Below w3.heap.size w3 (w3.alloc (.cells #[.int .i64 a, .int .i64 b, .int .i64 c, .string x, .slice p q r] 60)) := (Below.refl _ _).alloc (Nat.le_refl _) _
  have h4 := h3.below hb4 h0
  have hk14 := (hk1.trans hk3).trans (Kept.of_below hb4)
  have hx4 := hk14.at hx2 (by omega)
  have hz4 := hk14.at hz2 (by omega)
  have hkw4 := hkA.trans hk14
  have cg := cg0 _ h4
  have HF := fun cs => h.row_set (k := w.heap.size + 1) h0 h4 hkw4 (by omega) cs
  have hkF := fun cs => hkw4.setRow (k := w.heap.size + 1) (by omega) cs
  clear c1 c2 h h1 h3 h4 hk1 hk3 hb4 hk14 hkw4 hx2 hz2 hA hkA hb2 cg0
  generalize hw4 : w3.alloc (.cells #[.int .i64 a, .int .i64 b, .int .i64 c, .string x, .slice p q r] 60) = w4 at *
  go_wp2_with fail
  refine cg.mono ?_
  rintro e w5 ⟨rfl, hw5⟩
  subst w5
  clear hw4
  go_wp2_with (first
    | (refine wpList_load_row rfl 60 _ rfl _ rfl _ _ _ _ hx4 exprType rfl (by kernel_rfl) ?_)
    | (refine wpList_store_row rfl 60 _ _ rfl _ _ rfl rfl _ _ hz4 (by kernel_rfl) (by rfl) (by simp [Value.oneCell']) ?_))
  exact ex_ret 6 (by kernel_rfl) (w.heap.size + 1) _ _ _ _ _ rfl rfl (setRow_heap _ _ _ _ _ _ hz4) ⟨⟨_, _, _, _, _, _, _, rfl⟩, HF _, hkF _⟩
set_option maxRecDepth 100000 in
set_option maxHeartbeats 2000000 in
theorem rthing_dates (h0 : WS0 all E g v) (h : WSt all E g v w i n 0 0) (hn6 : n ≤ 600) (d : Nat) (hd : d ≤ 40) (ho : isT wOpen (all.drop i) = false) (hk2 : kindP (all.drop i) = 2) (hw0 : isT wNever (all.drop i) = false) (hw1 : isT wAlways (all.drop i) = false) (hw2 : isT wWeekly (all.drop i) = false) (hw3 : isT wDates (all.drop i) = true) (hF : ∀ j, i < j → RW all E g v 54 4 j) :
    Calls Tryd.prog 81 #[.pointer (some ⟨g, 0, none⟩), .int .i64 (d : Int)] w (OutW all E g v w (fun k => w.heap.size ≤ k) (datesR E d (all.drop (i + 1)) n)) := by
  have hgl := lt_of_block h.blk
  have hlen := h0.len
  have hdI : ¬ (40 : Int) < (d : Int) := by omega
  have hb0 : Below w.heap.size w (w.alloc (.cells #[.int .i64 0, .int .i64 0, .int .i64 0, .string ⟨#[]⟩, .slice none 0 0] 60)) := (Below.refl _ _).alloc (Nat.le_refl _) _
  have hz := zero_new w
  have hA := h.below hb0 h0
  have hkA := Kept.of_below (g := g) hb0
  have hszA : (w.alloc (.cells #[.int .i64 0, .int .i64 0, .int .i64 0, .string ⟨#[]⟩, .slice none 0 0] 60)).heap.size = w.heap.size + 1 := by simp
  generalize hwA : w.alloc (.cells #[.int .i64 0, .int .i64 0, .int .i64 0, .string ⟨#[]⟩, .slice none 0 0] 60) = wA at *
  have cg := good_any hA
  have cn := next_any h0 hA
  have co := fun (w1 : World) (h1 : WSt all E g v w1 i n 0 0) => on_any h0 h1 3 wOpen
  simp only [on_sign h0 (x := wOpen) (by decide) i] at co
  unfold tokV at cn
  rw [ho] at co
  have hi1 := kind_len (all := all) (i := i) (by rw [hk2]; decide)
  rw [hk2] at cn
  have f2 : ((2 : Int) == 2) = true := by rfl
  have e0 : ((⟨(textP (all.drop i)).toArray⟩ : ByteArray).toList == [110, 101, 118, 101, 114]) = false := by rw [Lib.toList_data]; exact hw0
  have e1 : ((⟨(textP (all.drop i)).toArray⟩ : ByteArray).toList == [97, 108, 119, 97, 121, 115]) = false := by rw [Lib.toList_data]; exact hw1
  have e2 : ((⟨(textP (all.drop i)).toArray⟩ : ByteArray).toList == [119, 101, 101, 107, 108, 121]) = false := by rw [Lib.toList_data]; exact hw2
  have e3 : ((⟨(textP (all.drop i)).toArray⟩ : ByteArray).toList == [100, 97, 116, 101, 115]) = true := by rw [Lib.toList_data]; exact hw3
  generalize hX : datesR E d (all.drop (i + 1)) n = X
  have HX0 : Hid (datesR E d (all.drop (i + 1)) n = X) := hX
  clear hw0 hw1 hw2 hw3 ho hk2 hX
  generalize hnq : numP (all.drop i) = t1 at *
  generalize (atP E (all.drop i) : Int) = t2 at *
  generalize htq : (⟨(textP (all.drop i)).toArray⟩ : ByteArray) = t3 at *
  clear hnq htq
  go_enter Tryd.func81, Tryd.ntmps81
  go_wp2_with fail
  refine cg.mono ?_
  rintro e wg ⟨rfl, hwg⟩
  subst wg
  clear cg hwA
  go_wp2_with fail
  refine cn.mono ?_
  rintro e w1 ⟨rfl, hb1⟩
  have h1 := hA.below hb1 h0
  have hz1 := (hb1.block _ (lt_of_block hz)).trans hz
  have hb2 : Below w1.heap.size w1 (w1.alloc (.cells #[.int .i64 2, .int .i64 t1, .int .i64 t2, .string t3] 30)) := (Below.refl _ _).alloc (Nat.le_refl _) _
  have hx2 := heap_alloc_new w1 (.cells #[.int .i64 2, .int .i64 t1, .int .i64 t2, .string t3] 30)
  have h2 := h1.below hb2 h0
  have hz2 := (hb2.block _ (lt_of_block hz1)).trans hz1
  have hk2 := (hkA.trans (Kept.of_below hb1)).trans (Kept.of_below hb2)
  have hs2 := lt_of_block hx2
  have hsw1 := hb1.size
  have kd0 : (w1.alloc (.cells #[.int .i64 2, .int .i64 t1, .int .i64 t2, .string t3] 30)).cell? ⟨w1.heap.size, 0, none⟩ = some (.int .i64 2) := (cell_of_row _ _ 0 _ _ _ hx2).trans rfl
  have kd3 : (w1.alloc (.cells #[.int .i64 2, .int .i64 t1, .int .i64 t2, .string t3] 30)).cell? ⟨w1.heap.size, 3, none⟩ = some (.string t3) := (cell_of_row _ _ 3 _ _ _ hx2).trans rfl
  clear cn h1 hz1 hb1 hb2 hA hz hkA hb0
  generalize hw2 : w1.alloc (.cells #[.int .i64 2, .int .i64 t1, .int .i64 t2, .string t3] 30) = w2 at *
  go_wp2_with fail
  refine (co _ h2).mono ?_
  rintro e w3 ⟨rfl, hb3⟩
  have h3 := h2.below hb3 h0
  have hx3 := (hb3.block _ (lt_of_block hx2)).trans hx2
  have hz3 := (hb3.block _ (lt_of_block hz2)).trans hz2
  have hk3 := hk2.trans (Kept.of_below hb3)
  have hs3 := lt_of_block hx3
  have kt0 := (cell_of_row _ _ 0 _ _ _ hx3).trans rfl
  have kt3 := (cell_of_row _ _ 3 _ _ _ hx3).trans rfl
  clear co h2 hz2 hk2 hb3 hw2 kd0 kd3 hx2 hs2
  have k1 := (cell_of_row _ _ 1 _ _ _ h3.blk).trans rfl
  have y1 := frozen_of_row _ _ 1 _ _ h3.blk
  have h4 := h3.set h0 hi1
  have hk34 := Kept.set (w := w3) (g := g) (j := 1) (u := .int .i64 ((i + 1 : Nat) : Int))
  have hz4 := hk34.at hz3 (by omega)
  have hx4 := hk34.at hx3 (by omega)
  have kt4 := (cell_of_row _ _ 3 _ _ _ hx4).trans rfl
  have hk4 := hk3.trans hk34
  have ei : (i : Int) + 1 = ((i + 1 : Nat) : Int) := by omega
  have hi6 : (i : Int) ≤ 6000 := by omega
  clear h3 hz3 hk3 hx3 hk34 kt0 kt3 hx4 kt4
  have hX := HX0.out
  clear HX0
  unfold datesR failP at hX
  simp only [tail_drop] at hX
  have hkl : kindP (all.drop (i + 1)) = 5 → i + 1 + 1 ≤ all.length := fun e => kind_len (by rw [e]; decide)
  have cG5 := get_any h0 h4 5 (by decide)
  unfold tokV at cG5
  have HX : Hid (_ = X) := hX
  clear hX
  generalize hvv : ((i + 1 : Nat) : Int) = vv at *
  generalize hw4 : w3.setCell ⟨g, 1, none⟩ (.int .i64 vv) = w4 at *
  clear hvv
  generalize kindP (all.drop (i + 1)) = u0 at *
  generalize numP (all.drop (i + 1)) = u1 at *
  generalize atP E (all.drop (i + 1)) = at2 at *
  generalize hu2 : (at2 : Int) = u2 at *
  generalize (⟨(textP (all.drop (i + 1))).toArray⟩ : ByteArray) = u3 at *
  go_wp2_with fail
  refine cG5.mono ?_
  rintro e w5 ⟨rfl, hkG, hG1, hG2, hG3⟩
  clear cG5 hw4
  have hsG := hkG.size
  have hl4 := lt_of_block hz4
  have hb6 : Below w5.heap.size w5 (w5.alloc (.cells #[.int .i64 u0, .int .i64 u1, .int .i64 u2, .string u3] 30)) := (Below.refl _ _).alloc (Nat.le_refl _) _
  have hx6 := heap_alloc_new w5 (.cells #[.int .i64 u0, .int .i64 u1, .int .i64 u2, .string u3] 30)
  have hb7 := hb6.alloc hb6.size (.cells #[.int .i64 u0, .int .i64 u1, .int .i64 u2, .string u3] 30)
  have hx7 := (Below.heap_alloc _ (.cells #[.int .i64 u0, .int .i64 u1, .int .i64 u2, .string u3] 30) _ (lt_of_block hx6)).trans hx6
  have hy7 := heap_alloc_new (w5.alloc (.cells #[.int .i64 u0, .int .i64 u1, .int .i64 u2, .string u3] 30)) (.cells #[.int .i64 u0, .int .i64 u1, .int .i64 u2, .string u3] 30)
  have hsz7 : (w5.alloc (.cells #[.int .i64 u0, .int .i64 u1, .int .i64 u2, .string u3] 30)).heap.size = w5.heap.size + 1 := by simp
  rw [hsz7] at hy7
  have hk47 := hkG.trans (Kept.of_below hb7)
  have hz7 := hk47.at hz4 (by omega)
  have hk7 := hk4.trans hk47
  generalize hw7 : (w5.alloc (.cells #[.int .i64 u0, .int .i64 u1, .int .i64 u2, .string u3] 30)).alloc (.cells #[.int .i64 u0, .int .i64 u1, .int .i64 u2, .string u3] 30) = w7 at *
  have ka1 := (cell_of_row _ _ 1 _ _ _ hx7).trans rfl
  have kb1 := (cell_of_row _ _ 1 _ _ _ hy7).trans rfl
  by_cases h5 : u0 = 5
  · have h5a := hG3 (by trivial) h5
    have h7 := h5a.below hb7 h0
    have hXX := HX.out
    rw [if_neg (by simp [h5])] at hXX
    clear hG1 hG2 hG3 HX hkl h5 h5a hb7 hb6 hkG hk47 hz4 hk4 h4
    have cT := on_any h0 h7 3 wTo
    rw [on_sign h0 (x := wTo) (by decide) (i + 1 + 1)] at cT
    by_cases hT : isT wTo (all.drop (i + 1 + 1)) = true
    · rw [if_pos hT] at hXX
      have hi2 := isT_len (by decide) hT
      rw [hT] at cT
      clear hT
      go_wp2_with (refine wpList_load_row rfl 30 _ rfl _ rfl _ _ _ _ hx6 tokType rfl (by kernel_rfl) ?_)
      refine cT.mono ?_
      rintro e w9 ⟨rfl, hb9⟩
      have h9 := h7.below hb9 h0
      have k9 := (cell_of_row _ _ 1 _ _ _ h9.blk).trans rfl
      have y9 := frozen_of_row _ _ 1 _ _ h9.blk
      have h10 := h9.set h0 hi2
      have hk910 := (Kept.of_below (g := g) hb9).trans (Kept.set w9 g 1 (.int .i64 ((i + 1 + 1 + 1 : Nat) : Int)))
      have hx10 := hk910.at hx7 (by omega)
      have hy10 := hk910.at hy7 (by omega)
      have hz10 := hk910.at hz7 (by omega)
      have hk10 := hk7.trans hk910
      have ei2 : ((i + 1 + 1 : Nat) : Int) + 1 = ((i + 1 + 1 + 1 : Nat) : Int) := by omega
      have hj62 : ((i + 1 + 1 : Nat) : Int) ≤ 6000 := by omega
      have hj60 : (0 : Int) ≤ ((i + 1 + 1 : Nat) : Int) := by omega
      have hkl2 : kindP (all.drop (i + 1 + 1 + 1)) = 5 → i + 1 + 1 + 1 + 1 ≤ all.length := fun e => kind_len (by rw [e]; decide)
      have cG := get_any h0 h10 5 (by decide)
      unfold tokV at cG
      have HX : Hid (_ = X) := hXX
      clear hXX cT h7 h9 hb9 hk910 hx7 hy7 hz7 hk7 hw7 ka1 kb1
      generalize ((i + 1 + 1 + 1 : Nat) : Int) = vv2 at *
      generalize ((i + 1 + 1 : Nat) : Int) = vv1 at *
      generalize hw10 : w9.setCell ⟨g, 1, none⟩ (.int .i64 vv2) = w10 at *
      generalize kindP (all.drop (i + 1 + 1 + 1)) = s0 at *
      generalize numP (all.drop (i + 1 + 1 + 1)) = s1 at *
      generalize atP E (all.drop (i + 1 + 1 + 1)) = at3 at *
      generalize hs2 : (at3 : Int) = s2 at *
      generalize (⟨(textP (all.drop (i + 1 + 1 + 1))).toArray⟩ : ByteArray) = s3 at *
      go_wp2_with fail
      refine cG.mono ?_
      rintro e w11 ⟨rfl, hkG, hG1, hG2, hG3⟩
      have hx11 := hkG.at hx10 (by omega)
      have hy11 := hkG.at hy10 (by omega)
      have hz11 := hkG.at hz10 (by omega)
      have hk11 := hk10.trans hkG
      have hx12 := (setRow_other w11 (w5.heap.size + 1) w5.heap.size #[.int .i64 s0, .int .i64 s1, .int .i64 s2, .string s3] (by omega)).trans hx11
      have hy12 := setRow_heap w11 (w5.heap.size + 1) _ #[.int .i64 s0, .int .i64 s1, .int .i64 s2, .string s3] _ _ hy11
      have hz12 := (setRow_other w11 (w5.heap.size + 1) w.heap.size #[.int .i64 s0, .int .i64 s1, .int .i64 s2, .string s3] (by omega)).trans hz11
      have hk12 := hk11.setRow (k := w5.heap.size + 1) (by omega) #[.int .i64 s0, .int .i64 s1, .int .i64 s2, .string s3]
      have hrs := fun (i' : Nat) (e' a' : Int) (h' : WSt all E g v w11 i' n e' a') => h.row_set (k := w5.heap.size + 1) h0 h' hk11 (by omega) #[.int .i64 s0, .int .i64 s1, .int .i64 s2, .string s3]
      clear cG hw10 hkG hx10 hy10 hz10 hk10 h10 hx11 hz11 hk11
      by_cases h52 : s0 = 5
      · have h12 := hrs _ _ _ (hG3 (by trivial) h52)
        have hXX := HX.out
        rw [if_neg (by simp [h52])] at hXX
        clear hG1 hG2 hG3 HX h52 hrs
        go_wp2_with (refine wpList_store_row rfl 30 _ _ rfl _ _ rfl rfl _ _ hy11 (by kernel_rfl) (by simp) (by simp [Value.oneCell']) ?_)
        clear hy11
        generalize w11.setRow (w5.heap.size + 1) #[.int .i64 s0, .int .i64 s1, .int .i64 s2, .string s3] = w12 at *
        have kc1 := (cell_of_row _ _ 1 _ _ _ hx12).trans rfl
        have ke1 := (cell_of_row _ _ 1 _ _ _ hy12).trans rfl
        have ke2 := (cell_of_row _ _ 2 _ _ _ hy12).trans rfl
        have cg := good_any h12
        by_cases hlt : s1 < u1
        · rw [if_pos hlt] at hXX
          have HX : Hid (.error (3, at3) = X) := hXX
          have cst := stop_good h0 h12 3 s2
          clear hXX
          go_wp2_with fail
          refine cg.mono ?_
          rintro e wg ⟨rfl, hwg⟩
          subst wg
          clear cg
          go_wp2_with fail
          refine cst.mono ?_
          rintro e w13 ⟨rfl, h13, hk13s⟩
          have hz13 := hk13s.at hz12 (by omega)
          have hx13 := hk13s.at hx12 (by omega)
          have hy13 := hk13s.at hy12 (by omega)
          have kf1 := (cell_of_row _ _ 1 _ _ _ hx13).trans rfl
          have kg1 := (cell_of_row _ _ 1 _ _ _ hy13).trans rfl
          have hk13 := hk12.trans hk13s
          clear cst
          have cX := guard_bad h0 h13 (by decide) d hd 5 u1 s1
          go_wp2_with fail
          refine cX.mono ?_
          rintro e w8 ⟨⟨a, b, c, x, p, q, r, rfl⟩, h8, hk8⟩
          have hz8 := hk8.at hz13 (by omega)
          have hkw8 := (hk13).trans hk8
          have HF := fun cs => h.row_set h0 h8 hkw8 (Nat.le_refl _) cs
          have hkF := fun cs => hkw8.setRow (Nat.le_refl _) cs
          clear cX
          go_wp2_with (refine wpList_store_row rfl 60 _ _ rfl _ _ rfl rfl _ _ hz8 (by kernel_rfl) (by rfl) (by simp [Value.oneCell']) ?_)
          exact ex_ret 4 (by kernel_rfl) w.heap.size _ _ _ _ _ rfl rfl (setRow_heap _ _ _ _ _ _ hz8) (by rw [← HX.out]; exact ⟨by decide, ⟨_, _, _, _, _, _, _, rfl⟩, ⟨_, _, hs2 ▸ HF _⟩, hkF _⟩)
        · rw [if_neg hlt] at hXX
          have HX : Hid (rd E 8 d ⟨5, u1, s1, [], []⟩ (all.drop (i + 1 + 1 + 1 + 1)) n = X) := hXX
          clear hXX
          go_wp2_with fail
          refine cg.mono ?_
          rintro e wg ⟨rfl, hwg⟩
          subst wg
          clear cg
          have cX := guard_any h0 h12 hn6 d hd 5 u1 s1 (hF _ (by omega))
          go_wp2_with fail
          refine cX.mono ?_
          intro e w8 ho
          have hlz8 := lt_of_block hz12
          obtain ⟨a, b, c, x, p, q, r, rfl, hz8, HO⟩ := outW_split h h0 (hk12) hz12 (Nat.le_refl _) (fun k hk => ⟨by omega, by omega⟩) ho
          clear ho cX
          go_wp2_with (refine wpList_store_row rfl 60 _ _ rfl _ _ rfl rfl _ _ hz8 (by kernel_rfl) (by rfl) (by simp [Value.oneCell']) ?_)
          exact ex_ret 4 (by kernel_rfl) w.heap.size _ _ _ _ _ rfl rfl (setRow_heap _ _ _ _ _ _ hz8) (by rw [← HX.out]; exact HO _)
      · have h12 := hrs _ _ _ (hG2 (by trivial) h52)
        have hXX := HX.out
        rw [if_pos h52] at hXX
        clear HX
        have HX : Hid (.error (2, at3) = X) := hXX
        clear hG1 hG2 hG3 h52 hrs hXX
        go_wp2_with (refine wpList_store_row rfl 30 _ _ rfl _ _ rfl rfl _ _ hy11 (by kernel_rfl) (by simp) (by simp [Value.oneCell']) ?_)
        clear hy11
        generalize w11.setRow (w5.heap.size + 1) #[.int .i64 s0, .int .i64 s1, .int .i64 s2, .string s3] = w12 at *
        have kc1 := (cell_of_row _ _ 1 _ _ _ hx12).trans rfl
        have ke1 := (cell_of_row _ _ 1 _ _ _ hy12).trans rfl
        have cg := good_any h12
        rw [show ((2 : Int) == 0) = false by rfl] at cg
        go_wp2_with fail
        refine cg.mono ?_
        rintro e wg ⟨rfl, hwg⟩
        subst wg
        clear cg
        have cX := guard_bad h0 h12 (by decide) d hd 5 u1 s1
        go_wp2_with fail
        refine cX.mono ?_
        rintro e w8 ⟨⟨a, b, c, x, p, q, r, rfl⟩, h8, hk8⟩
        have hz8 := hk8.at hz12 (by omega)
        have hkw8 := (hk12).trans hk8
        have HF := fun cs => h.row_set h0 h8 hkw8 (Nat.le_refl _) cs
        have hkF := fun cs => hkw8.setRow (Nat.le_refl _) cs
        clear cX
        go_wp2_with (refine wpList_store_row rfl 60 _ _ rfl _ _ rfl rfl _ _ hz8 (by kernel_rfl) (by rfl) (by simp [Value.oneCell']) ?_)
        exact ex_ret 4 (by kernel_rfl) w.heap.size _ _ _ _ _ rfl rfl (setRow_heap _ _ _ _ _ _ hz8) (by rw [← HX.out]; exact ⟨by decide, ⟨_, _, _, _, _, _, _, rfl⟩, ⟨_, _, hs2 ▸ HF _⟩, hkF _⟩)
    · have hT' : isT wTo (all.drop (i + 1 + 1)) = false := by simpa using hT
      rw [if_neg hT] at hXX
      have HX : Hid (rd E 8 d ⟨5, u1, u1, [], []⟩ (all.drop (i + 1 + 1)) n = X) := hXX
      rw [hT'] at cT
      clear hT hT' hXX
      go_wp2_with (refine wpList_load_row rfl 30 _ rfl _ rfl _ _ _ _ hx6 tokType rfl (by kernel_rfl) ?_)
      refine cT.mono ?_
      rintro e w9 ⟨rfl, hb9⟩
      have h9 := h7.below hb9 h0
      have hz9 := (hb9.block _ (lt_of_block hz7)).trans hz7
      have hx9 := (hb9.block _ (lt_of_block hx7)).trans hx7
      have hy9 := (hb9.block _ (lt_of_block hy7)).trans hy7
      have kf1 := (cell_of_row _ _ 1 _ _ _ hx9).trans rfl
      have kg1 := (cell_of_row _ _ 1 _ _ _ hy9).trans rfl
      have hk9 := hk7.trans (Kept.of_below hb9)
      clear cT hw7
      have cX := guard_any h0 h9 hn6 d hd 5 u1 u1 (hF _ (by omega))
      go_wp2_with fail
      refine cX.mono ?_
      intro e w8 ho
      have hlz8 := lt_of_block hz9
      obtain ⟨a, b, c, x, p, q, r, rfl, hz8, HO⟩ := outW_split h h0 (hk9) hz9 (Nat.le_refl _) (fun k hk => ⟨by omega, by omega⟩) ho
      clear ho cX
      go_wp2_with (refine wpList_store_row rfl 60 _ _ rfl _ _ rfl rfl _ _ hz8 (by kernel_rfl) (by rfl) (by simp [Value.oneCell']) ?_)
      exact ex_ret 4 (by kernel_rfl) w.heap.size _ _ _ _ _ rfl rfl (setRow_heap _ _ _ _ _ _ hz8) (by rw [← HX.out]; exact HO _)
  · have h5a := hG2 (by trivial) h5
    have h7 := h5a.below hb7 h0
    have hXX := HX.out
    rw [if_pos h5] at hXX
    clear hG1 hG2 hG3 HX hkl h5 h5a hb7 hb6 hkG hk47 hz4 hk4 h4
    have HX : Hid (.error (2, at2) = X) := hXX
    clear hXX
    have cT := on_any h0 h7 3 wTo
    rw [show onB all (i + 1) 2 3 wTo = false by rfl] at cT
    go_wp2_with (refine wpList_load_row rfl 30 _ rfl _ rfl _ _ _ _ hx6 tokType rfl (by kernel_rfl) ?_)
    refine cT.mono ?_
    rintro e w9 ⟨rfl, hb9⟩
    have h9 := h7.below hb9 h0
    have hz9 := (hb9.block _ (lt_of_block hz7)).trans hz7
    have hx9 := (hb9.block _ (lt_of_block hx7)).trans hx7
    have hy9 := (hb9.block _ (lt_of_block hy7)).trans hy7
    have kf1 := (cell_of_row _ _ 1 _ _ _ hx9).trans rfl
    have kg1 := (cell_of_row _ _ 1 _ _ _ hy9).trans rfl
    have hk9 := hk7.trans (Kept.of_below hb9)
    clear cT hw7
    have cX := guard_bad h0 h9 (by decide) d hd 5 u1 u1
    go_wp2_with fail
    refine cX.mono ?_
    rintro e w8 ⟨⟨a, b, c, x, p, q, r, rfl⟩, h8, hk8⟩
    have hz8 := hk8.at hz9 (by omega)
    have hkw8 := (hk9).trans hk8
    have HF := fun cs => h.row_set h0 h8 hkw8 (Nat.le_refl _) cs
    have hkF := fun cs => hkw8.setRow (Nat.le_refl _) cs
    clear cX
    go_wp2_with (refine wpList_store_row rfl 60 _ _ rfl _ _ rfl rfl _ _ hz8 (by kernel_rfl) (by rfl) (by simp [Value.oneCell']) ?_)
    exact ex_ret 4 (by kernel_rfl) w.heap.size _ _ _ _ _ rfl rfl (setRow_heap _ _ _ _ _ _ hz8) (by rw [← HX.out]; exact ⟨by decide, ⟨_, _, _, _, _, _, _, rfl⟩, ⟨_, _, hu2 ▸ HF _⟩, hkF _⟩)
end Go.Proofs.YtggcepicghibjacDoor
