/- What the document's Thing comes to: too deep, never, always, names, brackets. -/
import Derived.Test.YtggcepicghibjacDoorPm21
namespace Go.Proofs.YtggcepicghibjacDoor
open Go.RowKit Lx
variable {all : List Tk} {E g : Nat} {v : Value} {w : World} {i n : Nat} {er at_ : Int}

set_option maxRecDepth 100000 in
set_option maxHeartbeats 2000000 in
theorem rthing_name (h0 : WS0 all E g v) (h : WSt all E g v w i n 0 0) (hn6 : n ≤ 600) (d : Nat) (hd : d ≤ 40) (ho : isT wOpen (all.drop i) = false) (hk1 : kindP (all.drop i) = 1) :
    Calls Tryd.prog 81 #[.pointer (some ⟨g, 0, none⟩), .int .i64 (d : Int)] w (OutW all E g v w (fun k => w.heap.size ≤ k) (endedP E ⟨10, 0, 0, textP (all.drop i), []⟩ (all.drop (i + 1)) n)) := by
  have hgl := lt_of_block h.blk
  have hlen := h0.len
  have hdI : ¬ (40 : Int) < (d : Int) := by omega
  have hb0 : Below w.heap.size w (w.alloc (.cells #[.int .i64 0, .int .i64 0, .int .i64 0, .string ⟨#[]⟩, .slice none 0 0] 60)) := (Below.refl _ _).alloc (Nat.le_refl _) _
  have hz := zero_new w
  have hA := h.below hb0 h0
  have hkA := Kept.of_below (g := g) hb0
  have hszA : (w.alloc (.cells #[.int .i64 0, .int .i64 0, .int .i64 0, .string ⟨#[]⟩, .slice none 0 0] 60)).heap.size = w.heap.size + 1 := by simp
  generalize hwA : w.alloc (.cells #[.int .i64 0, .int .i64 0, .int .i64 0, .string ⟨#[]⟩, .slice none 0 0] 60) = wA at *
  have cg := good_any hA
  have cn := next_any h0 hA
  have co := fun (w1 : World) (h1 : WSt all E g v w1 i n 0 0) => on_any h0 h1 3 wOpen
  simp only [on_sign h0 (x := wOpen) (by decide) i] at co
  unfold tokV at cn
  rw [ho] at co
  have hi1 := kind_len (all := all) (i := i) (by rw [hk1]; decide)
  have f2 : ((1 : Int) == 2) = false := by rfl
  rw [hk1] at cn
  generalize htl : textP (all.drop i) = TX at *
  clear ho hk1
  generalize hnq : numP (all.drop i) = t1 at *
  generalize (atP E (all.drop i) : Int) = t2 at *
  generalize htq : (⟨TX.toArray⟩ : ByteArray) = t3 at *
  clear hnq htl
  go_enter Tryd.func81, Tryd.ntmps81
  go_wp2_with fail
  refine cg.mono ?_
  rintro e wg ⟨rfl, hwg⟩
  subst wg
  clear cg hwA
  go_wp2_with fail
  refine cn.mono ?_
  rintro e w1 ⟨rfl, hb1⟩
  have h1 := hA.below hb1 h0
  have hz1 := (hb1.block _ (lt_of_block hz)).trans hz
  have hb2 : Below w1.heap.size w1 (w1.alloc (.cells #[.int .i64 1, .int .i64 t1, .int .i64 t2, .string t3] 30)) := (Below.refl _ _).alloc (Nat.le_refl _) _
  have hx2 := heap_alloc_new w1 (.cells #[.int .i64 1, .int .i64 t1, .int .i64 t2, .string t3] 30)
  have h2 := h1.below hb2 h0
  have hz2 := (hb2.block _ (lt_of_block hz1)).trans hz1
  have hk2 := (hkA.trans (Kept.of_below hb1)).trans (Kept.of_below hb2)
  have hs2 := lt_of_block hx2
  have hsw1 := hb1.size
  have kd0 : (w1.alloc (.cells #[.int .i64 1, .int .i64 t1, .int .i64 t2, .string t3] 30)).cell? ⟨w1.heap.size, 0, none⟩ = some (.int .i64 1) := (cell_of_row _ _ 0 _ _ _ hx2).trans rfl
  have kd3 : (w1.alloc (.cells #[.int .i64 1, .int .i64 t1, .int .i64 t2, .string t3] 30)).cell? ⟨w1.heap.size, 3, none⟩ = some (.string t3) := (cell_of_row _ _ 3 _ _ _ hx2).trans rfl
  clear cn h1 hz1 hb1 hb2 hA hz hkA hb0
  generalize hw2 : w1.alloc (.cells #[.int .i64 1, .int .i64 t1, .int .i64 t2, .string t3] 30) = w2 at *
  go_wp2_with fail
  refine (co _ h2).mono ?_
  rintro e w3 ⟨rfl, hb3⟩
  have h3 := h2.below hb3 h0
  have hx3 := (hb3.block _ (lt_of_block hx2)).trans hx2
  have hz3 := (hb3.block _ (lt_of_block hz2)).trans hz2
  have hk3 := hk2.trans (Kept.of_below hb3)
  have hs3 := lt_of_block hx3
  have kt0 := (cell_of_row _ _ 0 _ _ _ hx3).trans rfl
  have kt3 := (cell_of_row _ _ 3 _ _ _ hx3).trans rfl
  clear co h2 hz2 hk2 hb3 hw2 kd0 kd3 hx2 hs2
  have k1 := (cell_of_row _ _ 1 _ _ _ h3.blk).trans rfl
  have y1 := frozen_of_row _ _ 1 _ _ h3.blk
  have h4 := h3.set h0 hi1
  have hk34 := Kept.set (w := w3) (g := g) (j := 1) (u := .int .i64 ((i + 1 : Nat) : Int))
  have hz4 := hk34.at hz3 (by omega)
  have hx4 := hk34.at hx3 (by omega)
  have kt4 := (cell_of_row _ _ 3 _ _ _ hx4).trans rfl
  have hk4 := hk3.trans hk34
  have ei : (i : Int) + 1 = ((i + 1 : Nat) : Int) := by omega
  have hi6 : (i : Int) ≤ 6000 := by omega
  have c5 := made_any h0 h4 hn6 (fun k => w.heap.size + 1 ≤ k) (fun k hk => by omega) ⟨10, 0, 0, TX, []⟩ (.slice none 0 0) 0 (KidsAt.nil _ _ _ _ _)
  unfold exV at c5
  simp only [htq] at c5
  clear h3 hz3 hk3 hx3 hk34
  generalize ((i + 1 : Nat) : Int) = vv at *
  generalize hw4 : w3.setCell ⟨g, 1, none⟩ (.int .i64 vv) = w4 at *
  go_wp2_with fail
  refine c5.mono ?_
  intro e w7 ho
  obtain ⟨a, b, c, x, p, q, r, rfl, hz7, HO⟩ := outW_split h h0 hk4 hz4 (Nat.le_refl _) (fun k hk => ⟨by omega, by omega⟩) ho
  clear ho c5 hz4 hk4 h4 hw4 h
  go_wp2_with (refine wpList_store_row rfl 60 _ _ rfl _ _ rfl rfl _ _ hz7 (by kernel_rfl) (by rfl) (by simp [Value.oneCell']) ?_)
  exact ex_ret 4 (by kernel_rfl) w.heap.size _ _ _ _ _ rfl rfl (setRow_heap _ _ _ _ _ _ hz7) (HO _)
set_option maxRecDepth 100000 in
set_option maxHeartbeats 2000000 in
theorem rthing_never (h0 : WS0 all E g v) (h : WSt all E g v w i n 0 0) (hn6 : n ≤ 600) (d : Nat) (hd : d ≤ 40) (ho : isT wOpen (all.drop i) = false) (hk2 : kindP (all.drop i) = 2)  (hwNever : isT wNever (all.drop i) = true) :
    Calls Tryd.prog 81 #[.pointer (some ⟨g, 0, none⟩), .int .i64 (d : Int)] w (OutW all E g v w (fun k => w.heap.size ≤ k) (endedP E ⟨1, 0, 0, [], []⟩ (all.drop (i + 1)) n)) := by
  have hgl := lt_of_block h.blk
  have hlen := h0.len
  have hdI : ¬ (40 : Int) < (d : Int) := by omega
  have hb0 : Below w.heap.size w (w.alloc (.cells #[.int .i64 0, .int .i64 0, .int .i64 0, .string ⟨#[]⟩, .slice none 0 0] 60)) := (Below.refl _ _).alloc (Nat.le_refl _) _
  have hz := zero_new w
  have hA := h.below hb0 h0
  have hkA := Kept.of_below (g := g) hb0
  have hszA : (w.alloc (.cells #[.int .i64 0, .int .i64 0, .int .i64 0, .string ⟨#[]⟩, .slice none 0 0] 60)).heap.size = w.heap.size + 1 := by simp
  generalize hwA : w.alloc (.cells #[.int .i64 0, .int .i64 0, .int .i64 0, .string ⟨#[]⟩, .slice none 0 0] 60) = wA at *
  have cg := good_any hA
  have cn := next_any h0 hA
  have co := fun (w1 : World) (h1 : WSt all E g v w1 i n 0 0) => on_any h0 h1 3 wOpen
  simp only [on_sign h0 (x := wOpen) (by decide) i] at co
  unfold tokV at cn
  rw [ho] at co
  have hi1 := kind_len (all := all) (i := i) (by rw [hk2]; decide)
  rw [hk2] at cn
  have f2 : ((2 : Int) == 2) = true := by rfl
  have ewNever : ((⟨(textP (all.drop i)).toArray⟩ : ByteArray).toList == [110, 101, 118, 101, 114]) = true := by rw [Lib.toList_data]; exact hwNever
  clear ho hk2 hwNever
  generalize hnq : numP (all.drop i) = t1 at *
  generalize (atP E (all.drop i) : Int) = t2 at *
  generalize htq : (⟨(textP (all.drop i)).toArray⟩ : ByteArray) = t3 at *
  clear hnq htq
  go_enter Tryd.func81, Tryd.ntmps81
  go_wp2_with fail
  refine cg.mono ?_
  rintro e wg ⟨rfl, hwg⟩
  subst wg
  clear cg hwA
  go_wp2_with fail
  refine cn.mono ?_
  rintro e w1 ⟨rfl, hb1⟩
  have h1 := hA.below hb1 h0
  have hz1 := (hb1.block _ (lt_of_block hz)).trans hz
  have hb2 : Below w1.heap.size w1 (w1.alloc (.cells #[.int .i64 2, .int .i64 t1, .int .i64 t2, .string t3] 30)) := (Below.refl _ _).alloc (Nat.le_refl _) _
  have hx2 := heap_alloc_new w1 (.cells #[.int .i64 2, .int .i64 t1, .int .i64 t2, .string t3] 30)
  have h2 := h1.below hb2 h0
  have hz2 := (hb2.block _ (lt_of_block hz1)).trans hz1
  have hk2 := (hkA.trans (Kept.of_below hb1)).trans (Kept.of_below hb2)
  have hs2 := lt_of_block hx2
  have hsw1 := hb1.size
  have kd0 : (w1.alloc (.cells #[.int .i64 2, .int .i64 t1, .int .i64 t2, .string t3] 30)).cell? ⟨w1.heap.size, 0, none⟩ = some (.int .i64 2) := (cell_of_row _ _ 0 _ _ _ hx2).trans rfl
  have kd3 : (w1.alloc (.cells #[.int .i64 2, .int .i64 t1, .int .i64 t2, .string t3] 30)).cell? ⟨w1.heap.size, 3, none⟩ = some (.string t3) := (cell_of_row _ _ 3 _ _ _ hx2).trans rfl
  clear cn h1 hz1 hb1 hb2 hA hz hkA hb0
  generalize hw2 : w1.alloc (.cells #[.int .i64 2, .int .i64 t1, .int .i64 t2, .string t3] 30) = w2 at *
  go_wp2_with fail
  refine (co _ h2).mono ?_
  rintro e w3 ⟨rfl, hb3⟩
  have h3 := h2.below hb3 h0
  have hx3 := (hb3.block _ (lt_of_block hx2)).trans hx2
  have hz3 := (hb3.block _ (lt_of_block hz2)).trans hz2
  have hk3 := hk2.trans (Kept.of_below hb3)
  have hs3 := lt_of_block hx3
  have kt0 := (cell_of_row _ _ 0 _ _ _ hx3).trans rfl
  have kt3 := (cell_of_row _ _ 3 _ _ _ hx3).trans rfl
  clear co h2 hz2 hk2 hb3 hw2 kd0 kd3 hx2 hs2
  have k1 := (cell_of_row _ _ 1 _ _ _ h3.blk).trans rfl
  have y1 := frozen_of_row _ _ 1 _ _ h3.blk
  have h4 := h3.set h0 hi1
  have hk34 := Kept.set (w := w3) (g := g) (j := 1) (u := .int .i64 ((i + 1 : Nat) : Int))
  have hz4 := hk34.at hz3 (by omega)
  have hx4 := hk34.at hx3 (by omega)
  have kt4 := (cell_of_row _ _ 3 _ _ _ hx4).trans rfl
  have hk4 := hk3.trans hk34
  have ei : (i : Int) + 1 = ((i + 1 : Nat) : Int) := by omega
  have hi6 : (i : Int) ≤ 6000 := by omega
  have c5 := made_any h0 h4 hn6 (fun k => w.heap.size + 1 ≤ k) (fun k hk => by omega) ⟨1, 0, 0, [], []⟩ (.slice none 0 0) 0 (KidsAt.nil _ _ _ _ _)
  unfold exV at c5
  clear h3 hz3 hk3 hx3 hk34
  generalize ((i + 1 : Nat) : Int) = vv at *
  generalize hw4 : w3.setCell ⟨g, 1, none⟩ (.int .i64 vv) = w4 at *
  go_wp2_with fail
  refine c5.mono ?_
  intro e w7 ho
  obtain ⟨a, b, c, x, p, q, r, rfl, hz7, HO⟩ := outW_split h h0 hk4 hz4 (Nat.le_refl _) (fun k hk => ⟨by omega, by omega⟩) ho
  clear ho c5 hz4 hk4 h4 hw4 h
  go_wp2_with (refine wpList_store_row rfl 60 _ _ rfl _ _ rfl rfl _ _ hz7 (by kernel_rfl) (by rfl) (by simp [Value.oneCell']) ?_)
  exact ex_ret 4 (by kernel_rfl) w.heap.size _ _ _ _ _ rfl rfl (setRow_heap _ _ _ _ _ _ hz7) (HO _)
set_option maxRecDepth 100000 in
set_option maxHeartbeats 2000000 in
theorem rthing_always (h0 : WS0 all E g v) (h : WSt all E g v w i n 0 0) (hn6 : n ≤ 600) (d : Nat) (hd : d ≤ 40) (ho : isT wOpen (all.drop i) = false) (hk2 : kindP (all.drop i) = 2) (hwNever : isT wNever (all.drop i) = false) (hwAlways : isT wAlways (all.drop i) = true) :
    Calls Tryd.prog 81 #[.pointer (some ⟨g, 0, none⟩), .int .i64 (d : Int)] w (OutW all E g v w (fun k => w.heap.size ≤ k) (endedP E ⟨2, 0, 0, [], []⟩ (all.drop (i + 1)) n)) := by
  have hgl := lt_of_block h.blk
  have hlen := h0.len
  have hdI : ¬ (40 : Int) < (d : Int) := by omega
  have hb0 : Below w.heap.size w (w.alloc (.cells #[.int .i64 0, .int .i64 0, .int .i64 0, .string ⟨#[]⟩, .slice none 0 0] 60)) := (Below.refl _ _).alloc (Nat.le_refl _) _
  have hz := zero_new w
  have hA := h.below hb0 h0
  have hkA := Kept.of_below (g := g) hb0
  have hszA : (w.alloc (.cells #[.int .i64 0, .int .i64 0, .int .i64 0, .string ⟨#[]⟩, .slice none 0 0] 60)).heap.size = w.heap.size + 1 := by simp
  generalize hwA : w.alloc (.cells #[.int .i64 0, .int .i64 0, .int .i64 0, .string ⟨#[]⟩, .slice none 0 0] 60) = wA at *
  have cg := good_any hA
  have cn := next_any h0 hA
  have co := fun (w1 : World) (h1 : WSt all E g v w1 i n 0 0) => on_any h0 h1 3 wOpen
  simp only [on_sign h0 (x := wOpen) (by decide) i] at co
  unfold tokV at cn
  rw [ho] at co
  have hi1 := kind_len (all := all) (i := i) (by rw [hk2]; decide)
  rw [hk2] at cn
  have f2 : ((2 : Int) == 2) = true := by rfl
  have ewNever : ((⟨(textP (all.drop i)).toArray⟩ : ByteArray).toList == [110, 101, 118, 101, 114]) = false := by rw [Lib.toList_data]; exact hwNever
  have ewAlways : ((⟨(textP (all.drop i)).toArray⟩ : ByteArray).toList == [97, 108, 119, 97, 121, 115]) = true := by rw [Lib.toList_data]; exact hwAlways
  clear ho hk2 hwNever hwAlways
  generalize hnq : numP (all.drop i) = t1 at *
  generalize (atP E (all.drop i) : Int) = t2 at *
  generalize htq : (⟨(textP (all.drop i)).toArray⟩ : ByteArray) = t3 at *
  clear hnq htq
  go_enter Tryd.func81, Tryd.ntmps81
  go_wp2_with fail
  refine cg.mono ?_
  rintro e wg ⟨rfl, hwg⟩
  subst wg
  clear cg hwA
  go_wp2_with fail
  refine cn.mono ?_
  rintro e w1 ⟨rfl, hb1⟩
  have h1 := hA.below hb1 h0
  have hz1 := (hb1.block _ (lt_of_block hz)).trans hz
  have hb2 : Below w1.heap.size w1 (w1.alloc (.cells #[.int .i64 2, .int .i64 t1, .int .i64 t2, .string t3] 30)) := (Below.refl _ _).alloc (Nat.le_refl _) _
  have hx2 := heap_alloc_new w1 (.cells #[.int .i64 2, .int .i64 t1, .int .i64 t2, .string t3] 30)
  have h2 := h1.below hb2 h0
  have hz2 := (hb2.block _ (lt_of_block hz1)).trans hz1
  have hk2 := (hkA.trans (Kept.of_below hb1)).trans (Kept.of_below hb2)
  have hs2 := lt_of_block hx2
  have hsw1 := hb1.size
  have kd0 : (w1.alloc (.cells #[.int .i64 2, .int .i64 t1, .int .i64 t2, .string t3] 30)).cell? ⟨w1.heap.size, 0, none⟩ = some (.int .i64 2) := (cell_of_row _ _ 0 _ _ _ hx2).trans rfl
  have kd3 : (w1.alloc (.cells #[.int .i64 2, .int .i64 t1, .int .i64 t2, .string t3] 30)).cell? ⟨w1.heap.size, 3, none⟩ = some (.string t3) := (cell_of_row _ _ 3 _ _ _ hx2).trans rfl
  clear cn h1 hz1 hb1 hb2 hA hz hkA hb0
  generalize hw2 : w1.alloc (.cells #[.int .i64 2, .int .i64 t1, .int .i64 t2, .string t3] 30) = w2 at *
  go_wp2_with fail
  refine (co _ h2).mono ?_
  rintro e w3 ⟨rfl, hb3⟩
  have h3 := h2.below hb3 h0
  have hx3 := (hb3.block _ (lt_of_block hx2)).trans hx2
  have hz3 := (hb3.block _ (lt_of_block hz2)).trans hz2
  have hk3 := hk2.trans (Kept.of_below hb3)
  have hs3 := lt_of_block hx3
  have kt0 := (cell_of_row _ _ 0 _ _ _ hx3).trans rfl
  have kt3 := (cell_of_row _ _ 3 _ _ _ hx3).trans rfl
  clear co h2 hz2 hk2 hb3 hw2 kd0 kd3 hx2 hs2
  have k1 := (cell_of_row _ _ 1 _ _ _ h3.blk).trans rfl
  have y1 := frozen_of_row _ _ 1 _ _ h3.blk
  have h4 := h3.set h0 hi1
  have hk34 := Kept.set (w := w3) (g := g) (j := 1) (u := .int .i64 ((i + 1 : Nat) : Int))
  have hz4 := hk34.at hz3 (by omega)
  have hx4 := hk34.at hx3 (by omega)
  have kt4 := (cell_of_row _ _ 3 _ _ _ hx4).trans rfl
  have hk4 := hk3.trans hk34
  have ei : (i : Int) + 1 = ((i + 1 : Nat) : Int) := by omega
  have hi6 : (i : Int) ≤ 6000 := by omega
  have c5 := made_any h0 h4 hn6 (fun k => w.heap.size + 1 ≤ k) (fun k hk => by omega) ⟨2, 0, 0, [], []⟩ (.slice none 0 0) 0 (KidsAt.nil _ _ _ _ _)
  unfold exV at c5
  clear h3 hz3 hk3 hx3 hk34
  generalize ((i + 1 : Nat) : Int) = vv at *
  generalize hw4 : w3.setCell ⟨g, 1, none⟩ (.int .i64 vv) = w4 at *
  go_wp2_with fail
  refine c5.mono ?_
  intro e w7 ho
  obtain ⟨a, b, c, x, p, q, r, rfl, hz7, HO⟩ := outW_split h h0 hk4 hz4 (Nat.le_refl _) (fun k hk => ⟨by omega, by omega⟩) ho
  clear ho c5 hz4 hk4 h4 hw4 h
  go_wp2_with (refine wpList_store_row rfl 60 _ _ rfl _ _ rfl rfl _ _ hz7 (by kernel_rfl) (by rfl) (by simp [Value.oneCell']) ?_)
  exact ex_ret 4 (by kernel_rfl) w.heap.size _ _ _ _ _ rfl rfl (setRow_heap _ _ _ _ _ _ hz7) (HO _)
set_option maxRecDepth 100000 in
set_option maxHeartbeats 2000000 in
theorem rthing_deep (h0 : WS0 all E g v) (h : WSt all E g v w i n 0 0) (d : Nat) (hd : 40 < d) (hd41 : d ≤ 41) :
    Calls Tryd.prog 81 #[.pointer (some ⟨g, 0, none⟩), .int .i64 (d : Int)] w (OutW all E g v w (fun k => w.heap.size ≤ k) (failP E 4 (all.drop i))) := by
  have hgl := lt_of_block h.blk
  have hdI : (40 : Int) < (d : Int) := by omega
  have hb0 : Below w.heap.size w (w.alloc (.cells #[.int .i64 0, .int .i64 0, .int .i64 0, .string ⟨#[]⟩, .slice none 0 0] 60)) := (Below.refl _ _).alloc (Nat.le_refl _) _
  have hz := zero_new w
  have hA := h.below hb0 h0
  have hkA := Kept.of_below (g := g) hb0
  have hszA : (w.alloc (.cells #[.int .i64 0, .int .i64 0, .int .i64 0, .string ⟨#[]⟩, .slice none 0 0] 60)).heap.size = w.heap.size + 1 := by simp
  generalize hwA : w.alloc (.cells #[.int .i64 0, .int .i64 0, .int .i64 0, .string ⟨#[]⟩, .slice none 0 0] 60) = wA at *
  have cg := good_any hA
  have cn := next_any h0 hA
  have cs := fun (w1 : World) (h1 : WSt all E g v w1 i n 0 0) => stop_good h0 h1 4 (atP E (all.drop i))
  unfold tokV at cn
  unfold failP
  generalize atP E (all.drop i) = t2 at *
  generalize kindP (all.drop i) = t0 at *
  generalize numP (all.drop i) = t1 at *
  generalize (⟨(textP (all.drop i)).toArray⟩ : ByteArray) = t3 at *
  go_enter Tryd.func81, Tryd.ntmps81
  go_wp2_with fail
  refine cg.mono ?_
  rintro e wg ⟨rfl, hwg⟩
  subst wg
  clear cg hwA
  go_wp2_with fail
  refine cn.mono ?_
  rintro e w1 ⟨rfl, hb1⟩
  have h1 := hA.below hb1 h0
  go_wp2_with fail
  refine (cs _ h1).mono ?_
  rintro e w2 ⟨rfl, h2, hk2⟩
  have hz2 := hk2.at ((hb1.block _ (lt_of_block hz)).trans hz) (by omega)
  have hkw := (hkA.trans (Kept.of_below hb1)).trans hk2
  have HF := fun cs => h.row_set h0 h2 hkw (Nat.le_refl _) cs
  have hkF := fun cs => hkw.setRow (Nat.le_refl _) cs
  clear cn cs h1 h2 hk2 hkw hz hA hkA hb0 hb1 h
  go_wp2_with (refine wpList_store_row rfl 60 _ _ rfl _ _ rfl rfl _ _ hz2 (by kernel_rfl) (by rfl) (by simp [Value.oneCell']) ?_)
  exact ex_ret 4 (by kernel_rfl) w.heap.size _ _ _ _ _ rfl rfl (setRow_heap _ _ _ _ _ _ hz2) ⟨by decide, ⟨_, _, _, _, _, _, _, rfl⟩, ⟨i, n, HF _⟩, hkF _⟩
end Go.Proofs.YtggcepicghibjacDoor

/- What the document's Thing comes to: brackets. -/
namespace Go.Proofs.YtggcepicghibjacDoor
open Go.RowKit Lx
variable {all : List Tk} {E g : Nat} {v : Value} {w : World} {i n : Nat} {er at_ : Int}

set_option maxRecDepth 100000 in
set_option maxHeartbeats 2000000 in
theorem rthing_open (h0 : WS0 all E g v) (h : WSt all E g v w i n 0 0) (hn6 : n ≤ 600) (d : Nat) (hd : d ≤ 40) (hop : isT wOpen (all.drop i) = true) (hS : RSum all E g v 0 0 (i + 1)) :
    Calls Tryd.prog 81 #[.pointer (some ⟨g, 0, none⟩), .int .i64 (d : Int)] w (OutW all E g v w (fun k => w.heap.size ≤ k) (andThen (rd E 0 (d + 1) ex0 (all.drop (i + 1)) n) fun e r n => if isT wShut r then .ok (e, r.tail, n) else failP E 2 r)) := by
  have hgl := lt_of_block h.blk
  have hlen := h0.len
  have hdI : ¬ (40 : Int) < (d : Int) := by omega
  have hb0 : Below w.heap.size w (w.alloc (.cells #[.int .i64 0, .int .i64 0, .int .i64 0, .string ⟨#[]⟩, .slice none 0 0] 60)) := (Below.refl _ _).alloc (Nat.le_refl _) _
  have hz := zero_new w
  have hA := h.below hb0 h0
  have hkA := Kept.of_below (g := g) hb0
  have hszA : (w.alloc (.cells #[.int .i64 0, .int .i64 0, .int .i64 0, .string ⟨#[]⟩, .slice none 0 0] 60)).heap.size = w.heap.size + 1 := by simp
  generalize hwA : w.alloc (.cells #[.int .i64 0, .int .i64 0, .int .i64 0, .string ⟨#[]⟩, .slice none 0 0] 60) = wA at *
  have cg := good_any hA
  have cn := next_any h0 hA
  have co := fun (w1 : World) (h1 : WSt all E g v w1 i n 0 0) => on_any h0 h1 3 wOpen
  simp only [on_sign h0 (x := wOpen) (by decide) i] at co
  unfold tokV at cn
  rw [hop] at co
  have hi1 := isT_len (by decide) hop
  have hk3' : kindP (all.drop i) = 3 := (head_ok h0 i).1 (by rw [show textP (all.drop i) = wOpen by simpa [isT] using hop]; decide)
  rw [hk3'] at cn
  have f2 : ((3 : Int) == 2) = false := by rfl
  generalize hX : (andThen (rd E 0 (d + 1) ex0 (all.drop (i + 1)) n) fun e r n => if isT wShut r then .ok (e, r.tail, n) else failP E 2 r) = X
  clear hop hk3'
  generalize hnq : numP (all.drop i) = t1 at *
  generalize (atP E (all.drop i) : Int) = t2 at *
  generalize htq : (⟨(textP (all.drop i)).toArray⟩ : ByteArray) = t3 at *
  clear hnq htq
  go_enter Tryd.func81, Tryd.ntmps81
  go_wp2_with fail
  refine cg.mono ?_
  rintro e wg ⟨rfl, hwg⟩
  subst wg
  clear cg hwA
  go_wp2_with fail
  refine cn.mono ?_
  rintro e w1 ⟨rfl, hb1⟩
  have h1 := hA.below hb1 h0
  have hz1 := (hb1.block _ (lt_of_block hz)).trans hz
  have hb2 : Below w1.heap.size w1 (w1.alloc (.cells #[.int .i64 3, .int .i64 t1, .int .i64 t2, .string t3] 30)) := (Below.refl _ _).alloc (Nat.le_refl _) _
  have hx2 := heap_alloc_new w1 (.cells #[.int .i64 3, .int .i64 t1, .int .i64 t2, .string t3] 30)
  have h2 := h1.below hb2 h0
  have hz2 := (hb2.block _ (lt_of_block hz1)).trans hz1
  have hk2 := (hkA.trans (Kept.of_below hb1)).trans (Kept.of_below hb2)
  have hs2 := lt_of_block hx2
  have hsw1 := hb1.size
  have kd0 : (w1.alloc (.cells #[.int .i64 3, .int .i64 t1, .int .i64 t2, .string t3] 30)).cell? ⟨w1.heap.size, 0, none⟩ = some (.int .i64 3) := (cell_of_row _ _ 0 _ _ _ hx2).trans rfl
  have kd3 : (w1.alloc (.cells #[.int .i64 3, .int .i64 t1, .int .i64 t2, .string t3] 30)).cell? ⟨w1.heap.size, 3, none⟩ = some (.string t3) := (cell_of_row _ _ 3 _ _ _ hx2).trans rfl
  clear cn h1 hz1 hb1 hb2 hA hz hkA hb0
  generalize hw2 : w1.alloc (.cells #[.int .i64 3, .int .i64 t1, .int .i64 t2, .string t3] 30) = w2 at *
  go_wp2_with fail
  refine (co _ h2).mono ?_
  rintro e w3 ⟨rfl, hb3⟩
  have h3 := h2.below hb3 h0
  have hx3 := (hb3.block _ (lt_of_block hx2)).trans hx2
  have hz3 := (hb3.block _ (lt_of_block hz2)).trans hz2
  have hk3 := hk2.trans (Kept.of_below hb3)
  have hs3 := lt_of_block hx3
  have kt0 := (cell_of_row _ _ 0 _ _ _ hx3).trans rfl
  have kt3 := (cell_of_row _ _ 3 _ _ _ hx3).trans rfl
  clear co h2 hz2 hk2 hb3 hw2 kd0 kd3 hx2 hs2
  have k1 := (cell_of_row _ _ 1 _ _ _ h3.blk).trans rfl
  have y1 := frozen_of_row _ _ 1 _ _ h3.blk
  have h4 := h3.set h0 hi1
  have hk34 := Kept.set (w := w3) (g := g) (j := 1) (u := .int .i64 ((i + 1 : Nat) : Int))
  have hz4 := hk34.at hz3 (by omega)
  have hx4 := hk34.at hx3 (by omega)
  have kt4 := (cell_of_row _ _ 3 _ _ _ hx4).trans rfl
  have hk4 := hk3.trans hk34
  have ei : (i : Int) + 1 = ((i + 1 : Nat) : Int) := by omega
  have hi6 : (i : Int) ≤ 6000 := by omega
  have c5 : Calls Tryd.prog 28 #[.pointer (some ⟨g, 0, none⟩), .int .i64 0, .int .i64 ((d : Int) + 1)] _ _ := hS _ n (d + 1) h4 hn6 (by omega)
  have hdw : (d : Int) ≤ 40 := by omega
  have hd0 : (0 : Int) ≤ (d : Int) := by omega
  have HX : Hid ((andThen (rd E 0 (d + 1) ex0 (all.drop (i + 1)) n) fun e r n => if isT wShut r then .ok (e, r.tail, n) else failP E 2 r) = X) := hX
  clear h3 hz3 hk3 hx3 hk34 hX
  generalize hvv : ((i + 1 : Nat) : Int) = vv at *
  clear hvv
  generalize hw4 : w3.setCell ⟨g, 1, none⟩ (.int .i64 vv) = w4 at *
  go_wp2_with fail
  refine c5.mono ?_
  intro e w5 ho
  clear c5 hw4
  cases hx : rd E 0 (d + 1) ex0 (all.drop (i + 1)) n with
  | error q =>
    obtain ⟨er, at'⟩ := q
    have hXX := HX.out
    rw [hx] at ho hXX
    obtain ⟨hne, ⟨a, b, c, x, p, q, r, rfl⟩, ⟨i5, n5, h5⟩, hk5⟩ := ho
    have hb6 : Below w5.heap.size w5 (w5.alloc (.cells #[.int .i64 a, .int .i64 b, .int .i64 c, .string x, .slice p q r] 60)) := (Below.refl _ _).alloc (Nat.le_refl _) _
    have hx6 := heap_alloc_new w5 (.cells #[.int .i64 a, .int .i64 b, .int .i64 c, .string x, .slice p q r] 60)
    have h6 := h5.below hb6 h0
    have hk46 := hk5.trans (Kept.of_below hb6)
    have hz6 := hk46.at hz4 (by omega)
    have hk6 := hk4.trans hk46
    have hs5 := hk5.size
    have hl4 := lt_of_block hz4
    have cN := need_bad h0 h6 hne wShut
    have HE : Hid (X = .error (er, at') ∧ er ≠ 0) := ⟨hXX.symm, hne⟩
    clear hx hXX hne h5 hk5 hb6 hk46 HX hz4 hk4 h4
    generalize hw6 : w5.alloc (.cells #[.int .i64 a, .int .i64 b, .int .i64 c, .string x, .slice p q r] 60) = w6 at *
    go_wp2_with fail
    refine cN.mono ?_
    rintro e w7 ⟨rfl, h7, hk7⟩
    have hx7 := hk7.at hx6 (by omega)
    have hz7 := hk7.at hz6 (by omega)
    have hkw := hk6.trans hk7
    have HF := fun cs => h.row_set h0 h7 hkw (Nat.le_refl _) cs
    have hkF := fun cs => hkw.setRow (Nat.le_refl _) cs
    clear cN h6 h7 hk7 hk6 hkw hx6 hz6 hw6
    go_wp2_with (first
      | (refine wpList_load_row rfl 60 _ rfl _ rfl _ _ _ _ hx7 exprType rfl (by kernel_rfl) ?_)
      | (refine wpList_store_row rfl 60 _ _ rfl _ _ rfl rfl _ _ hz7 (by kernel_rfl) (by rfl) (by simp [Value.oneCell']) ?_))
    exact ex_ret 4 (by kernel_rfl) w.heap.size _ _ _ _ _ rfl rfl (setRow_heap _ _ _ _ _ _ hz7) (by rw [HE.out.1]; exact ⟨HE.out.2, ⟨_, _, _, _, _, _, _, rfl⟩, ⟨_, _, HF _⟩, hkF _⟩)
  | ok q =>
    obtain ⟨ex, rr, n5⟩ := q
    have hXX := HX.out
    rw [hx] at ho hXX
    obtain ⟨i5, sl, d5, hr', rfl, hkd5, h5, hn5, hk5⟩ := ho
    subst hr'
    obtain ⟨p5, q5, rfl⟩ := hkd5.form
    replace hXX : (if isT wShut (all.drop i5) then .ok (ex, (all.drop i5).tail, n5) else failP E 2 (all.drop i5)) = X := hXX
    have hs5 := hk5.size
    have hl4 := lt_of_block hz4
    have hb6 : Below w5.heap.size w5 (w5.alloc (.cells #[.int .i64 ex.kind, .int .i64 ex.a, .int .i64 ex.b, .string ⟨ex.name.toArray⟩, .slice p5 ex.kids.length q5] 60)) := (Below.refl _ _).alloc (Nat.le_refl _) _
    have hx6 := heap_alloc_new w5 (.cells #[.int .i64 ex.kind, .int .i64 ex.a, .int .i64 ex.b, .string ⟨ex.name.toArray⟩, .slice p5 ex.kids.length q5] 60)
    have h6 := h5.below hb6 h0
    have hk46 := hk5.trans (Kept.of_below hb6)
    have hz6 := hk46.at hz4 (by omega)
    have hk6 := hk4.trans hk46
    have hkf := (Kept.of_below (g := g) hb6).kids (B := fun k => w.heap.size + 1 ≤ k) (fun k hk => by omega) (hkd5.mono fun k hk => by omega)
    have hon := on_sign h0 (x := wShut) (by decide) i5
    unfold exV
    clear hx h5 hk5 hb6 hk46 HX hz4 hk4 h4 hkd5
    generalize hw6 : w5.alloc (.cells #[.int .i64 ex.kind, .int .i64 ex.a, .int .i64 ex.b, .string ⟨ex.name.toArray⟩, .slice p5 ex.kids.length q5] 60) = w6 at *
    by_cases hs : isT wShut (all.drop i5) = true
    · rw [if_pos hs, tail_drop] at hXX
      rw [hs] at hon
      have cN := need_yes h0 h6 wShut (by decide) hon
      have HE : Hid (.ok (ex, all.drop (i5 + 1), n5) = X) := hXX
      clear hs hon hXX
      go_wp2_with fail
      refine cN.mono ?_
      rintro e w7 ⟨rfl, h7, hk7⟩
      have hx7 := hk7.at hx6 (by omega)
      have hz7 := hk7.at hz6 (by omega)
      have hkw := hk6.trans hk7
      have HO : Hid (∀ cs, OutW all E g v w (fun k => w.heap.size ≤ k) X (.returned (exV ex (.slice p5 ex.kids.length q5))) (w7.setRow w.heap.size cs)) := fun cs => by
        rw [← HE.out]
        exact ⟨i5 + 1, _, d5, rfl, rfl, ((hk7.kids (fun k hk => by omega) hkf).kept fun k hk _ => setRow_other _ _ _ _ (by omega)).mono fun k hk => by omega, h.row_set h0 h7 hkw (Nat.le_refl _) cs, hn5, hkw.setRow (Nat.le_refl _) cs⟩
      unfold exV at HO
      clear cN h6 h7 hk7 hk6 hkw hx6 hz6 hw6 HE hkf
      go_wp2_with (first
        | (refine wpList_load_row rfl 60 _ rfl _ rfl _ _ _ _ hx7 exprType rfl (by kernel_rfl) ?_)
        | (refine wpList_store_row rfl 60 _ _ rfl _ _ rfl rfl _ _ hz7 (by kernel_rfl) (by rfl) (by simp [Value.oneCell']) ?_))
      exact ex_ret 4 (by kernel_rfl) w.heap.size _ _ _ _ _ rfl rfl (setRow_heap _ _ _ _ _ _ hz7) (HO.out _)
    · have hs' : isT wShut (all.drop i5) = false := by simpa using hs
      rw [if_neg hs] at hXX
      rw [hs'] at hon
      have cN := need_no h0 h6 wShut hon
      have HE : Hid (.error (2, atP E (all.drop i5)) = X) := hXX
      clear hs hs' hon hXX
      go_wp2_with fail
      refine cN.mono ?_
      rintro e w7 ⟨rfl, h7, hk7⟩
      have hx7 := hk7.at hx6 (by omega)
      have hz7 := hk7.at hz6 (by omega)
      have hkw := hk6.trans hk7
      have HF := fun cs => h.row_set h0 h7 hkw (Nat.le_refl _) cs
      have hkF := fun cs => hkw.setRow (Nat.le_refl _) cs
      clear cN h6 h7 hk7 hk6 hkw hx6 hz6 hw6 hkf
      go_wp2_with (first
        | (refine wpList_load_row rfl 60 _ rfl _ rfl _ _ _ _ hx7 exprType rfl (by kernel_rfl) ?_)
        | (refine wpList_store_row rfl 60 _ _ rfl _ _ rfl rfl _ _ hz7 (by kernel_rfl) (by rfl) (by simp [Value.oneCell']) ?_))
      exact ex_ret 4 (by kernel_rfl) w.heap.size _ _ _ _ _ rfl rfl (setRow_heap _ _ _ _ _ _ hz7) (by rw [← HE.out]; exact ⟨by decide, ⟨_, _, _, _, _, _, _, rfl⟩, ⟨_, _, HF _⟩, hkF _⟩)
end Go.Proofs.YtggcepicghibjacDoor
