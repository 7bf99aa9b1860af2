/- What the document's Thing comes to: a span of times. -/
import Derived.Test.YtggcepicghibjacDoorPm22
namespace Go.Proofs.YtggcepicghibjacDoor
open Go.RowKit Lx
variable {all : List Tk} {E g : Nat} {v : Value} {w : World} {i n : Nat} {er at_ : Int}

set_option maxRecDepth 100000 in
set_option maxHeartbeats 2000000 in
theorem rthing_span_word (h0 : WS0 all E g v) (h : WSt all E g v w i n 0 0) (_hn6 : n ≤ 600) (d : Nat) (hd : d ≤ 40) (ho : isT wOpen (all.drop i) = false) (hk2 : kindP (all.drop i) = 2) (hw0 : isT wNever (all.drop i) = false) (hw1 : isT wAlways (all.drop i) = false) (hw2 : isT wWeekly (all.drop i) = false) (hw3 : isT wDates (all.drop i) = false) :
    Calls Tryd.prog 81 #[.pointer (some ⟨g, 0, none⟩), .int .i64 (d : Int)] w (OutW all E g v w (fun k => w.heap.size ≤ k) (if kindP (all.drop i) ≠ 4 then failP E 2 (all.drop i)
      else if isT wMinus (all.drop (i + 1)) then
        if kindP (all.drop (i + 1 + 1)) ≠ 4 then failP E 2 (all.drop (i + 1 + 1))
        else if numP (all.drop (i + 1 + 1)) < numP (all.drop i) + 1 then failP E 3 (all.drop (i + 1 + 1))
        else endedP E ⟨3, numP (all.drop i), numP (all.drop (i + 1 + 1)), [], []⟩ (all.drop (i + 1 + 1 + 1)) n
      else failP E 2 (all.drop (i + 1)))) := by
  have hgl := lt_of_block h.blk
  have hlen := h0.len
  have hdI : ¬ (40 : Int) < (d : Int) := by omega
  have hb0 : Below w.heap.size w (w.alloc (.cells #[.int .i64 0, .int .i64 0, .int .i64 0, .string ⟨#[]⟩, .slice none 0 0] 60)) := (Below.refl _ _).alloc (Nat.le_refl _) _
  have hz := zero_new w
  have hA := h.below hb0 h0
  have hkA := Kept.of_below (g := g) hb0
  have hszA : (w.alloc (.cells #[.int .i64 0, .int .i64 0, .int .i64 0, .string ⟨#[]⟩, .slice none 0 0] 60)).heap.size = w.heap.size + 1 := by simp
  generalize hwA : w.alloc (.cells #[.int .i64 0, .int .i64 0, .int .i64 0, .string ⟨#[]⟩, .slice none 0 0] 60) = wA at *
  have cg := good_any hA
  have cn := next_any h0 hA
  have co := fun (w1 : World) (h1 : WSt all E g v w1 i n 0 0) => on_any h0 h1 3 wOpen
  simp only [on_sign h0 (x := wOpen) (by decide) i] at co
  unfold tokV at cn
  rw [ho] at co
  have cG1 := fun (w1 : World) (h1 : WSt all E g v w1 i n 0 0) => get_any h0 h1 4 (by decide)
  unfold tokV at cG1
  have e0 : ((⟨(textP (all.drop i)).toArray⟩ : ByteArray).toList == [110, 101, 118, 101, 114]) = false := by rw [Lib.toList_data]; exact hw0
  have e1 : ((⟨(textP (all.drop i)).toArray⟩ : ByteArray).toList == [97, 108, 119, 97, 121, 115]) = false := by rw [Lib.toList_data]; exact hw1
  have e2 : ((⟨(textP (all.drop i)).toArray⟩ : ByteArray).toList == [119, 101, 101, 107, 108, 121]) = false := by rw [Lib.toList_data]; exact hw2
  have e3 : ((⟨(textP (all.drop i)).toArray⟩ : ByteArray).toList == [100, 97, 116, 101, 115]) = false := by rw [Lib.toList_data]; exact hw3
  clear hw0 hw1 hw2 hw3
  rw [hk2] at cn cG1
  rw [if_pos (by rw [hk2]; decide)]
  unfold failP
  generalize hX : (.error (2, atP E (all.drop i)) : Res) = X
  have HX : Hid (.error (2, atP E (all.drop i)) = X) := hX
  generalize hat : atP E (all.drop i) = at1 at *
  clear ho hk2 hX hat
  have f1 : ((2 : Int) == 1) = false := by rfl
  have f2 : ((2 : Int) == 2) = true := by rfl
  generalize hnq : numP (all.drop i) = t1 at *
  generalize ht2 : (at1 : Int) = t2 at *
  generalize htq : (⟨(textP (all.drop i)).toArray⟩ : ByteArray) = t3 at *
  clear hnq htq
  go_enter Tryd.func81, Tryd.ntmps81
  go_wp2_with fail
  refine cg.mono ?_
  rintro e wg ⟨rfl, hwg⟩
  subst wg
  clear cg hwA
  go_wp2_with fail
  refine cn.mono ?_
  rintro e w1 ⟨rfl, hb1⟩
  have h1 := hA.below hb1 h0
  have hz1 := (hb1.block _ (lt_of_block hz)).trans hz
  have hb2 : Below w1.heap.size w1 (w1.alloc (.cells #[.int .i64 2, .int .i64 t1, .int .i64 t2, .string t3] 30)) := (Below.refl _ _).alloc (Nat.le_refl _) _
  have hx2 := heap_alloc_new w1 (.cells #[.int .i64 2, .int .i64 t1, .int .i64 t2, .string t3] 30)
  have h2 := h1.below hb2 h0
  have hz2 := (hb2.block _ (lt_of_block hz1)).trans hz1
  have hk2 := (hkA.trans (Kept.of_below hb1)).trans (Kept.of_below hb2)
  have hs2 := lt_of_block hx2
  have hsw1 := hb1.size
  have kd0 : (w1.alloc (.cells #[.int .i64 2, .int .i64 t1, .int .i64 t2, .string t3] 30)).cell? ⟨w1.heap.size, 0, none⟩ = some (.int .i64 2) := (cell_of_row _ _ 0 _ _ _ hx2).trans rfl
  have kd3 : (w1.alloc (.cells #[.int .i64 2, .int .i64 t1, .int .i64 t2, .string t3] 30)).cell? ⟨w1.heap.size, 3, none⟩ = some (.string t3) := (cell_of_row _ _ 3 _ _ _ hx2).trans rfl
  clear cn h1 hz1 hb1 hb2 hA hz hkA hb0
  generalize hw2 : w1.alloc (.cells #[.int .i64 2, .int .i64 t1, .int .i64 t2, .string t3] 30) = w2 at *
  go_wp2_with fail
  refine (co _ h2).mono ?_
  rintro e w3 ⟨rfl, hb3⟩
  have h3 := h2.below hb3 h0
  have hx3 := (hb3.block _ (lt_of_block hx2)).trans hx2
  have hz3 := (hb3.block _ (lt_of_block hz2)).trans hz2
  have hk3 := hk2.trans (Kept.of_below hb3)
  have hs3 := lt_of_block hx3
  have kt0 := (cell_of_row _ _ 0 _ _ _ hx3).trans rfl
  have kt3 := (cell_of_row _ _ 3 _ _ _ hx3).trans rfl
  clear co h2 hz2 hk2 hb3 hw2 kd0 kd3 hx2 hs2
  have cG4 := cG1 _ h3
  clear cG1
  go_wp2_with fail
  refine cG4.mono ?_
  rintro e w4a ⟨rfl, hkG4, hG1, hG2, hG3⟩
  have h4a := hG2 (by trivial) (by first | decide | assumption)
  have hsG4 := hkG4.size
  have hbG4 : Below w4a.heap.size w4a (w4a.alloc (.cells #[.int .i64 2, .int .i64 t1, .int .i64 t2, .string t3] 30)) := (Below.refl _ _).alloc (Nat.le_refl _) _
  have hx4b := heap_alloc_new w4a (.cells #[.int .i64 2, .int .i64 t1, .int .i64 t2, .string t3] 30)
  have h4b := h4a.below hbG4 h0
  have hz4b := (hkG4.trans (Kept.of_below hbG4)).at hz3 (by omega)
  have hk4b := (hk3.trans hkG4).trans (Kept.of_below hbG4)

  clear hG1 hG2 hG3 cG4 h4a hbG4 hkG4
  generalize hwG4 : w4a.alloc (.cells #[.int .i64 2, .int .i64 t1, .int .i64 t2, .string t3] 30) = w4b at *
  have cN := need_bad h0 h4b (by decide) wMinus
  go_wp2_with fail
  refine cN.mono ?_
  rintro e w5n ⟨rfl, h5n, hkN5⟩
  have hz5n := hkN5.at hz4b (by omega)
  have hk5n := hk4b.trans hkN5
  have hsN5 := hkN5.size
  have hx4bn := hkN5.at hx4b (by omega)
  clear cN
  have cG5 := get_any h0 h5n 4 (by decide)
  unfold tokV at cG5
  generalize kindP (all.drop i) = b0 at cG5
  generalize numP (all.drop i) = b1 at cG5
  generalize hb2 : (atP E (all.drop i) : Int) = b2 at cG5
  generalize (⟨(textP (all.drop i)).toArray⟩ : ByteArray) = b3 at cG5
  go_wp2_with fail
  refine cG5.mono ?_
  rintro e w5a ⟨rfl, hkG5, hG1, hG2, hG3⟩
  have h5a := hG1 (by trivial)
  have hsG5 := hkG5.size
  have hbG5 : Below w5a.heap.size w5a (w5a.alloc (.cells #[.int .i64 b0, .int .i64 b1, .int .i64 b2, .string b3] 30)) := (Below.refl _ _).alloc (Nat.le_refl _) _
  have hx5b := heap_alloc_new w5a (.cells #[.int .i64 b0, .int .i64 b1, .int .i64 b2, .string b3] 30)
  have h5b := h5a.below hbG5 h0
  have hz5b := (hkG5.trans (Kept.of_below hbG5)).at hz5n (by omega)
  have hk5b := (hk5n.trans hkG5).trans (Kept.of_below hbG5)
  have hx4bnb := (hkG5.trans (Kept.of_below hbG5)).at hx4bn (by omega)
  clear hG1 hG2 hG3 cG5 h5a hbG5 hkG5
  generalize hwG5 : w5a.alloc (.cells #[.int .i64 b0, .int .i64 b1, .int .i64 b2, .string b3] 30) = w5b at *
  have cg := good_any h5b
  rw [show ((2 : Int) == 0) = false by rfl] at cg
  have HF := fun cs => h.row_set h0 h5b hk5b (Nat.le_refl _) cs
  have hkF := fun cs => (hk5b).setRow (Nat.le_refl _) cs
  go_wp2_with fail
  refine cg.mono ?_
  rintro e wg ⟨rfl, hwg⟩
  subst wg
  clear hwG5
  go_wp2_with fail
  refine cg.mono ?_
  rintro e wg ⟨rfl, hwg⟩
  subst wg
  clear cg
  go_wp2_with (refine wpList_store_row rfl 60 _ _ rfl _ _ rfl rfl _ _ hz5b (by kernel_rfl) (by rfl) (by simp [Value.oneCell']) ?_)
  exact ex_ret 4 (by kernel_rfl) w.heap.size _ _ _ _ _ rfl rfl (setRow_heap _ _ _ _ _ _ hz5b) (by rw [← HX.out]; exact ⟨by decide, ⟨_, _, _, _, _, _, _, rfl⟩, ⟨_, _, ht2 ▸ HF _⟩, hkF _⟩)
set_option maxRecDepth 100000 in
set_option maxHeartbeats 2000000 in
theorem rthing_span (h0 : WS0 all E g v) (h : WSt all E g v w i n 0 0) (hn6 : n ≤ 600) (d : Nat) (hd : d ≤ 40) (ho : isT wOpen (all.drop i) = false) (hk2 : kindP (all.drop i) ≠ 2) (hk1 : kindP (all.drop i) ≠ 1) :
    Calls Tryd.prog 81 #[.pointer (some ⟨g, 0, none⟩), .int .i64 (d : Int)] w (OutW all E g v w (fun k => w.heap.size ≤ k) (if kindP (all.drop i) ≠ 4 then failP E 2 (all.drop i)
      else if isT wMinus (all.drop (i + 1)) then
        if kindP (all.drop (i + 1 + 1)) ≠ 4 then failP E 2 (all.drop (i + 1 + 1))
        else if numP (all.drop (i + 1 + 1)) < numP (all.drop i) + 1 then failP E 3 (all.drop (i + 1 + 1))
        else endedP E ⟨3, numP (all.drop i), numP (all.drop (i + 1 + 1)), [], []⟩ (all.drop (i + 1 + 1 + 1)) n
      else failP E 2 (all.drop (i + 1)))) := by
  have hgl := lt_of_block h.blk
  have hlen := h0.len
  have hdI : ¬ (40 : Int) < (d : Int) := by omega
  have hb0 : Below w.heap.size w (w.alloc (.cells #[.int .i64 0, .int .i64 0, .int .i64 0, .string ⟨#[]⟩, .slice none 0 0] 60)) := (Below.refl _ _).alloc (Nat.le_refl _) _
  have hz := zero_new w
  have hA := h.below hb0 h0
  have hkA := Kept.of_below (g := g) hb0
  have hszA : (w.alloc (.cells #[.int .i64 0, .int .i64 0, .int .i64 0, .string ⟨#[]⟩, .slice none 0 0] 60)).heap.size = w.heap.size + 1 := by simp
  generalize hwA : w.alloc (.cells #[.int .i64 0, .int .i64 0, .int .i64 0, .string ⟨#[]⟩, .slice none 0 0] 60) = wA at *
  have cg := good_any hA
  have cn := next_any h0 hA
  have co := fun (w1 : World) (h1 : WSt all E g v w1 i n 0 0) => on_any h0 h1 3 wOpen
  simp only [on_sign h0 (x := wOpen) (by decide) i] at co
  unfold tokV at cn
  rw [ho] at co
  have cG1 := fun (w1 : World) (h1 : WSt all E g v w1 i n 0 0) => get_any h0 h1 4 (by decide)
  unfold tokV at cG1
  have hkl : kindP (all.drop i) = 4 → i + 1 ≤ all.length := fun e => kind_len (by rw [e]; decide)
  have f2 : (kindP (all.drop i) == 2) = false := by simpa using hk2
  have f1 : (kindP (all.drop i) == 1) = false := by simpa using hk1
  have hN1 := num_w h0 i
  unfold failP
  generalize hX : ((if kindP (all.drop i) ≠ 4 then .error (2, atP E (all.drop i))
      else if isT wMinus (all.drop (i + 1)) then
        if kindP (all.drop (i + 1 + 1)) ≠ 4 then .error (2, atP E (all.drop (i + 1 + 1)))
        else if numP (all.drop (i + 1 + 1)) < numP (all.drop i) + 1 then .error (3, atP E (all.drop (i + 1 + 1)))
        else endedP E ⟨3, numP (all.drop i), numP (all.drop (i + 1 + 1)), [], []⟩ (all.drop (i + 1 + 1 + 1)) n
      else .error (2, atP E (all.drop (i + 1)))) : Res) = X
  have HX : Hid (((if kindP (all.drop i) ≠ 4 then .error (2, atP E (all.drop i))
      else if isT wMinus (all.drop (i + 1)) then
        if kindP (all.drop (i + 1 + 1)) ≠ 4 then .error (2, atP E (all.drop (i + 1 + 1)))
        else if numP (all.drop (i + 1 + 1)) < numP (all.drop i) + 1 then .error (3, atP E (all.drop (i + 1 + 1)))
        else endedP E ⟨3, numP (all.drop i), numP (all.drop (i + 1 + 1)), [], []⟩ (all.drop (i + 1 + 1 + 1)) n
      else .error (2, atP E (all.drop (i + 1)))) : Res) = X) := hX
  generalize hat : atP E (all.drop i) = at1 at *
  clear ho hk2 hk1 hX hat
  generalize hkq : kindP (all.drop i) = t0 at *
  generalize hnq : numP (all.drop i) = t1 at *
  generalize ht2 : (at1 : Int) = t2 at *
  generalize htq : (⟨(textP (all.drop i)).toArray⟩ : ByteArray) = t3 at *
  clear hkq hnq htq
  go_enter Tryd.func81, Tryd.ntmps81
  go_wp2_with fail
  refine cg.mono ?_
  rintro e wg ⟨rfl, hwg⟩
  subst wg
  clear cg hwA
  go_wp2_with fail
  refine cn.mono ?_
  rintro e w1 ⟨rfl, hb1⟩
  have h1 := hA.below hb1 h0
  have hz1 := (hb1.block _ (lt_of_block hz)).trans hz
  have hb2 : Below w1.heap.size w1 (w1.alloc (.cells #[.int .i64 t0, .int .i64 t1, .int .i64 t2, .string t3] 30)) := (Below.refl _ _).alloc (Nat.le_refl _) _
  have hx2 := heap_alloc_new w1 (.cells #[.int .i64 t0, .int .i64 t1, .int .i64 t2, .string t3] 30)
  have h2 := h1.below hb2 h0
  have hz2 := (hb2.block _ (lt_of_block hz1)).trans hz1
  have hk2 := (hkA.trans (Kept.of_below hb1)).trans (Kept.of_below hb2)
  have hs2 := lt_of_block hx2
  have hsw1 := hb1.size
  have kd0 : (w1.alloc (.cells #[.int .i64 t0, .int .i64 t1, .int .i64 t2, .string t3] 30)).cell? ⟨w1.heap.size, 0, none⟩ = some (.int .i64 t0) := (cell_of_row _ _ 0 _ _ _ hx2).trans rfl
  have kd3 : (w1.alloc (.cells #[.int .i64 t0, .int .i64 t1, .int .i64 t2, .string t3] 30)).cell? ⟨w1.heap.size, 3, none⟩ = some (.string t3) := (cell_of_row _ _ 3 _ _ _ hx2).trans rfl
  clear cn h1 hz1 hb1 hb2 hA hz hkA hb0
  generalize hw2 : w1.alloc (.cells #[.int .i64 t0, .int .i64 t1, .int .i64 t2, .string t3] 30) = w2 at *
  go_wp2_with fail
  refine (co _ h2).mono ?_
  rintro e w3 ⟨rfl, hb3⟩
  have h3 := h2.below hb3 h0
  have hx3 := (hb3.block _ (lt_of_block hx2)).trans hx2
  have hz3 := (hb3.block _ (lt_of_block hz2)).trans hz2
  have hk3 := hk2.trans (Kept.of_below hb3)
  have hs3 := lt_of_block hx3
  have kt0 := (cell_of_row _ _ 0 _ _ _ hx3).trans rfl
  have kt3 := (cell_of_row _ _ 3 _ _ _ hx3).trans rfl
  clear co h2 hz2 hk2 hb3 hw2 kd0 kd3 hx2 hs2
  by_cases h4 : t0 = 4
  · have hi1 := hkl h4
    have hXX := HX.out
    rw [if_neg (by simp [h4])] at hXX
    have HK4 : Hid (t0 = 4) := h4
    clear HX hkl h4
    have cG4 := cG1 _ h3
    clear cG1
    go_wp2_with fail
    refine cG4.mono ?_
    rintro e w4a ⟨rfl, hkG4, hG1, hG2, hG3⟩
    have h4a := hG3 (by trivial) HK4.out
    have hsG4 := hkG4.size
    have hbG4 : Below w4a.heap.size w4a (w4a.alloc (.cells #[.int .i64 t0, .int .i64 t1, .int .i64 t2, .string t3] 30)) := (Below.refl _ _).alloc (Nat.le_refl _) _
    have hx4b := heap_alloc_new w4a (.cells #[.int .i64 t0, .int .i64 t1, .int .i64 t2, .string t3] 30)
    have h4b := h4a.below hbG4 h0
    have hz4b := (hkG4.trans (Kept.of_below hbG4)).at hz3 (by omega)
    have hk4b := (hk3.trans hkG4).trans (Kept.of_below hbG4)

    clear hG1 hG2 hG3 cG4 h4a hbG4 hkG4
    generalize hwG4 : w4a.alloc (.cells #[.int .i64 t0, .int .i64 t1, .int .i64 t2, .string t3] 30) = w4b at *
    have hon := on_sign h0 (x := wMinus) (by decide) (i + 1)
    by_cases hm : isT wMinus (all.drop (i + 1)) = true
    · rw [if_pos hm] at hXX
      rw [hm] at hon
      have cN := need_yes h0 h4b wMinus (by decide) hon
      clear hm hon
      go_wp2_with fail
      refine cN.mono ?_
      rintro e w5n ⟨rfl, h5n, hkN5⟩
      have hz5n := hkN5.at hz4b (by omega)
      have hk5n := hk4b.trans hkN5
      have hsN5 := hkN5.size
      have hx4bn := hkN5.at hx4b (by omega)
      clear cN
      have hkl2 : kindP (all.drop (i + 1 + 1)) = 4 → i + 1 + 1 + 1 ≤ all.length := fun e => kind_len (by rw [e]; decide)
      have hN2 := num_w h0 (i + 1 + 1)
      have cG5 := get_any h0 h5n 4 (by decide)
      unfold tokV at cG5
      have HX : Hid (_ = X) := hXX
      clear hXX
      generalize kindP (all.drop (i + 1 + 1)) = u0 at *
      generalize numP (all.drop (i + 1 + 1)) = u1 at *
      generalize atP E (all.drop (i + 1 + 1)) = at2 at *
      generalize hu2 : (at2 : Int) = u2 at *
      generalize (⟨(textP (all.drop (i + 1 + 1))).toArray⟩ : ByteArray) = u3 at *
      by_cases h42 : u0 = 4
      · have hXX := HX.out
        rw [if_neg (by simp [h42])] at hXX
        have HK42 : Hid (u0 = 4) := h42
        clear HX h42
        go_wp2_with fail
        refine cG5.mono ?_
        rintro e w5a ⟨rfl, hkG5, hG1, hG2, hG3⟩
        have h5a := hG3 (by trivial) HK42.out
        have hsG5 := hkG5.size
        have hbG5 : Below w5a.heap.size w5a (w5a.alloc (.cells #[.int .i64 u0, .int .i64 u1, .int .i64 u2, .string u3] 30)) := (Below.refl _ _).alloc (Nat.le_refl _) _
        have hx5b := heap_alloc_new w5a (.cells #[.int .i64 u0, .int .i64 u1, .int .i64 u2, .string u3] 30)
        have h5b := h5a.below hbG5 h0
        have hz5b := (hkG5.trans (Kept.of_below hbG5)).at hz5n (by omega)
        have hk5b := (hk5n.trans hkG5).trans (Kept.of_below hbG5)
        have hx4bnb := (hkG5.trans (Kept.of_below hbG5)).at hx4bn (by omega)
        clear hG1 hG2 hG3 cG5 h5a hbG5 hkG5
        generalize hwG5 : w5a.alloc (.cells #[.int .i64 u0, .int .i64 u1, .int .i64 u2, .string u3] 30) = w5b at *
        have ka1 := (cell_of_row _ _ 1 _ _ _ hx4bnb).trans rfl
        have kb1 := (cell_of_row _ _ 1 _ _ _ hx5b).trans rfl
        have kb2 := (cell_of_row _ _ 2 _ _ _ hx5b).trans rfl
        have cg := good_any h5b
        by_cases hlt : u1 < t1 + 1
        · rw [if_pos hlt] at hXX
          have hle : u1 ≤ t1 := by omega
          have HX : Hid (.error (3, at2) = X) := hXX
          have cst := stop_good h0 h5b 3 u2
          clear hXX hlt
          go_wp2_with fail
          refine cg.mono ?_
          rintro e wg ⟨rfl, hwg⟩
          subst wg
          clear hwG5 cg
          go_wp2_with fail
          refine cst.mono ?_
          rintro e w9 ⟨rfl, h9, hk9s⟩
          have hz9 := hk9s.at hz5b (by omega)
          have hk9 := hk5b.trans hk9s
          clear cst
          have cg := good_any h9
          rw [show ((3 : Int) == 0) = false by rfl] at cg
          have HF := fun cs => h.row_set h0 h9 hk9 (Nat.le_refl _) cs
          have hkF := fun cs => (hk9).setRow (Nat.le_refl _) cs
          go_wp2_with fail
          refine cg.mono ?_
          rintro e wg ⟨rfl, hwg⟩
          subst wg
          clear hk9s
          clear cg
          go_wp2_with (refine wpList_store_row rfl 60 _ _ rfl _ _ rfl rfl _ _ hz9 (by kernel_rfl) (by rfl) (by simp [Value.oneCell']) ?_)
          exact ex_ret 4 (by kernel_rfl) w.heap.size _ _ _ _ _ rfl rfl (setRow_heap _ _ _ _ _ _ hz9) (by rw [← HX.out]; exact ⟨by decide, ⟨_, _, _, _, _, _, _, rfl⟩, ⟨_, _, hu2 ▸ HF _⟩, hkF _⟩)
        · rw [if_neg hlt] at hXX
          have hle : ¬ u1 ≤ t1 := by omega
          have HX : Hid (endedP E ⟨3, t1, u1, [], []⟩ (all.drop (i + 1 + 1 + 1)) n = X) := hXX
          clear hXX hlt
          have c5 := made_any h0 h5b hn6 (fun k => w.heap.size + 1 ≤ k) (fun k hk => by omega) ⟨3, t1, u1, [], []⟩ (.slice none 0 0) 0 (KidsAt.nil _ _ _ _ _)
          unfold exV at c5
          go_wp2_with fail
          refine cg.mono ?_
          rintro e wg ⟨rfl, hwg⟩
          subst wg
          clear hwG5
          go_wp2_with fail
          refine cg.mono ?_
          rintro e wg ⟨rfl, hwg⟩
          subst wg
          clear cg
          go_wp2_with fail
          refine c5.mono ?_
          intro e w7 ho
          obtain ⟨a, b, c, x, p, q, r, rfl, hz7, HO⟩ := outW_split h h0 hk5b hz5b (Nat.le_refl _) (fun k hk => ⟨by omega, by omega⟩) ho
          clear ho c5
          go_wp2_with (refine wpList_store_row rfl 60 _ _ rfl _ _ rfl rfl _ _ hz7 (by kernel_rfl) (by rfl) (by simp [Value.oneCell']) ?_)
          exact ex_ret 4 (by kernel_rfl) w.heap.size _ _ _ _ _ rfl rfl (setRow_heap _ _ _ _ _ _ hz7) (by rw [← HX.out]; exact HO _)
      · have hXX := HX.out
        rw [if_pos h42] at hXX
        clear HX
        go_wp2_with fail
        refine cG5.mono ?_
        rintro e w5a ⟨rfl, hkG5, hG1, hG2, hG3⟩
        have h5a := hG2 (by trivial) h42
        have hsG5 := hkG5.size
        have hbG5 : Below w5a.heap.size w5a (w5a.alloc (.cells #[.int .i64 u0, .int .i64 u1, .int .i64 u2, .string u3] 30)) := (Below.refl _ _).alloc (Nat.le_refl _) _
        have hx5b := heap_alloc_new w5a (.cells #[.int .i64 u0, .int .i64 u1, .int .i64 u2, .string u3] 30)
        have h5b := h5a.below hbG5 h0
        have hz5b := (hkG5.trans (Kept.of_below hbG5)).at hz5n (by omega)
        have hk5b := (hk5n.trans hkG5).trans (Kept.of_below hbG5)
        have hx4bnb := (hkG5.trans (Kept.of_below hbG5)).at hx4bn (by omega)
        clear hG1 hG2 hG3 cG5 h5a hbG5 hkG5
        generalize hwG5 : w5a.alloc (.cells #[.int .i64 u0, .int .i64 u1, .int .i64 u2, .string u3] 30) = w5b at *
        have HX : Hid (.error (2, at2) = X) := hXX
        clear hXX
        have cg := good_any h5b
        rw [show ((2 : Int) == 0) = false by rfl] at cg
        have HF := fun cs => h.row_set h0 h5b hk5b (Nat.le_refl _) cs
        have hkF := fun cs => (hk5b).setRow (Nat.le_refl _) cs
        go_wp2_with fail
        refine cg.mono ?_
        rintro e wg ⟨rfl, hwg⟩
        subst wg
        clear hwG5
        go_wp2_with fail
        refine cg.mono ?_
        rintro e wg ⟨rfl, hwg⟩
        subst wg
        clear cg
        go_wp2_with (refine wpList_store_row rfl 60 _ _ rfl _ _ rfl rfl _ _ hz5b (by kernel_rfl) (by rfl) (by simp [Value.oneCell']) ?_)
        exact ex_ret 4 (by kernel_rfl) w.heap.size _ _ _ _ _ rfl rfl (setRow_heap _ _ _ _ _ _ hz5b) (by rw [← HX.out]; exact ⟨by decide, ⟨_, _, _, _, _, _, _, rfl⟩, ⟨_, _, hu2 ▸ HF _⟩, hkF _⟩)
    · have hm' : isT wMinus (all.drop (i + 1)) = false := by simpa using hm
      rw [if_neg hm] at hXX
      rw [hm'] at hon
      have HX : Hid (.error (2, atP E (all.drop (i + 1))) = X) := hXX
      clear hXX
      have cN := need_no h0 h4b wMinus hon
      clear hm hm' hon
      go_wp2_with fail
      refine cN.mono ?_
      rintro e w5n ⟨rfl, h5n, hkN5⟩
      have hz5n := hkN5.at hz4b (by omega)
      have hk5n := hk4b.trans hkN5
      have hsN5 := hkN5.size
      have hx4bn := hkN5.at hx4b (by omega)
      clear cN
      have cG5 := get_any h0 h5n 4 (by decide)
      unfold tokV at cG5
      generalize kindP (all.drop (i + 1)) = b0 at cG5
      generalize numP (all.drop (i + 1)) = b1 at cG5
      generalize hb2 : (atP E (all.drop (i + 1)) : Int) = b2 at cG5
      generalize (⟨(textP (all.drop (i + 1))).toArray⟩ : ByteArray) = b3 at cG5
      go_wp2_with fail
      refine cG5.mono ?_
      rintro e w5a ⟨rfl, hkG5, hG1, hG2, hG3⟩
      have h5a := hG1 (by trivial)
      have hsG5 := hkG5.size
      have hbG5 : Below w5a.heap.size w5a (w5a.alloc (.cells #[.int .i64 b0, .int .i64 b1, .int .i64 b2, .string b3] 30)) := (Below.refl _ _).alloc (Nat.le_refl _) _
      have hx5b := heap_alloc_new w5a (.cells #[.int .i64 b0, .int .i64 b1, .int .i64 b2, .string b3] 30)
      have h5b := h5a.below hbG5 h0
      have hz5b := (hkG5.trans (Kept.of_below hbG5)).at hz5n (by omega)
      have hk5b := (hk5n.trans hkG5).trans (Kept.of_below hbG5)
      have hx4bnb := (hkG5.trans (Kept.of_below hbG5)).at hx4bn (by omega)
      clear hG1 hG2 hG3 cG5 h5a hbG5 hkG5
      generalize hwG5 : w5a.alloc (.cells #[.int .i64 b0, .int .i64 b1, .int .i64 b2, .string b3] 30) = w5b at *
      have cg := good_any h5b
      rw [show ((2 : Int) == 0) = false by rfl] at cg
      have HF := fun cs => h.row_set h0 h5b hk5b (Nat.le_refl _) cs
      have hkF := fun cs => (hk5b).setRow (Nat.le_refl _) cs
      go_wp2_with fail
      refine cg.mono ?_
      rintro e wg ⟨rfl, hwg⟩
      subst wg
      clear hwG5
      go_wp2_with fail
      refine cg.mono ?_
      rintro e wg ⟨rfl, hwg⟩
      subst wg
      clear cg
      go_wp2_with (refine wpList_store_row rfl 60 _ _ rfl _ _ rfl rfl _ _ hz5b (by kernel_rfl) (by rfl) (by simp [Value.oneCell']) ?_)
      exact ex_ret 4 (by kernel_rfl) w.heap.size _ _ _ _ _ rfl rfl (setRow_heap _ _ _ _ _ _ hz5b) (by rw [← HX.out]; exact ⟨by decide, ⟨_, _, _, _, _, _, _, rfl⟩, ⟨_, _, hb2 ▸ HF _⟩, hkF _⟩)
  · have hXX := HX.out
    rw [if_pos h4] at hXX
    clear HX
    have HX : Hid (.error (2, at1) = X) := hXX
    clear hXX
    have cG4 := cG1 _ h3
    clear cG1
    go_wp2_with fail
    refine cG4.mono ?_
    rintro e w4a ⟨rfl, hkG4, hG1, hG2, hG3⟩
    have h4a := hG2 (by trivial) (by first | decide | assumption)
    have hsG4 := hkG4.size
    have hbG4 : Below w4a.heap.size w4a (w4a.alloc (.cells #[.int .i64 t0, .int .i64 t1, .int .i64 t2, .string t3] 30)) := (Below.refl _ _).alloc (Nat.le_refl _) _
    have hx4b := heap_alloc_new w4a (.cells #[.int .i64 t0, .int .i64 t1, .int .i64 t2, .string t3] 30)
    have h4b := h4a.below hbG4 h0
    have hz4b := (hkG4.trans (Kept.of_below hbG4)).at hz3 (by omega)
    have hk4b := (hk3.trans hkG4).trans (Kept.of_below hbG4)

    clear hG1 hG2 hG3 cG4 h4a hbG4 hkG4
    generalize hwG4 : w4a.alloc (.cells #[.int .i64 t0, .int .i64 t1, .int .i64 t2, .string t3] 30) = w4b at *
    have cN := need_bad h0 h4b (by decide) wMinus
    go_wp2_with fail
    refine cN.mono ?_
    rintro e w5n ⟨rfl, h5n, hkN5⟩
    have hz5n := hkN5.at hz4b (by omega)
    have hk5n := hk4b.trans hkN5
    have hsN5 := hkN5.size
    have hx4bn := hkN5.at hx4b (by omega)
    clear cN
    have cG5 := get_any h0 h5n 4 (by decide)
    unfold tokV at cG5
    generalize kindP (all.drop i) = b0 at cG5
    generalize numP (all.drop i) = b1 at cG5
    generalize hb2 : (atP E (all.drop i) : Int) = b2 at cG5
    generalize (⟨(textP (all.drop i)).toArray⟩ : ByteArray) = b3 at cG5
    go_wp2_with fail
    refine cG5.mono ?_
    rintro e w5a ⟨rfl, hkG5, hG1, hG2, hG3⟩
    have h5a := hG1 (by trivial)
    have hsG5 := hkG5.size
    have hbG5 : Below w5a.heap.size w5a (w5a.alloc (.cells #[.int .i64 b0, .int .i64 b1, .int .i64 b2, .string b3] 30)) := (Below.refl _ _).alloc (Nat.le_refl _) _
    have hx5b := heap_alloc_new w5a (.cells #[.int .i64 b0, .int .i64 b1, .int .i64 b2, .string b3] 30)
    have h5b := h5a.below hbG5 h0
    have hz5b := (hkG5.trans (Kept.of_below hbG5)).at hz5n (by omega)
    have hk5b := (hk5n.trans hkG5).trans (Kept.of_below hbG5)
    have hx4bnb := (hkG5.trans (Kept.of_below hbG5)).at hx4bn (by omega)
    clear hG1 hG2 hG3 cG5 h5a hbG5 hkG5
    generalize hwG5 : w5a.alloc (.cells #[.int .i64 b0, .int .i64 b1, .int .i64 b2, .string b3] 30) = w5b at *
    have cg := good_any h5b
    rw [show ((2 : Int) == 0) = false by rfl] at cg
    have HF := fun cs => h.row_set h0 h5b hk5b (Nat.le_refl _) cs
    have hkF := fun cs => (hk5b).setRow (Nat.le_refl _) cs
    go_wp2_with fail
    refine cg.mono ?_
    rintro e wg ⟨rfl, hwg⟩
    subst wg
    clear hwG5
    go_wp2_with fail
    refine cg.mono ?_
    rintro e wg ⟨rfl, hwg⟩
    subst wg
    clear cg
    go_wp2_with (refine wpList_store_row rfl 60 _ _ rfl _ _ rfl rfl _ _ hz5b (by kernel_rfl) (by rfl) (by simp [Value.oneCell']) ?_)
    exact ex_ret 4 (by kernel_rfl) w.heap.size _ _ _ _ _ rfl rfl (setRow_heap _ _ _ _ _ _ hz5b) (by rw [← HX.out]; exact ⟨by decide, ⟨_, _, _, _, _, _, _, rfl⟩, ⟨_, _, ht2 ▸ HF _⟩, hkF _⟩)
end Go.Proofs.YtggcepicghibjacDoor
