/- What thing comes to, where what it calls comes to what it should. -/
import Derived.Test.YtgfjbcdjpkcbkaaGreatDoorDu09
namespace Go.Proofs.YtgfjbcdjpkcbkaaGreatDoor
open Go.RowKit Lx
variable {all : List Tk} {E g : Nat} {v : Value} {w : World} {i n : Nat}
set_option maxRecDepth 100000 in
set_option maxHeartbeats 4000000 in
theorem thing_step (h0 : PS0 all E g v) (hS : ∀ j, i < j → RC all E g v 76 0 j) (hF : ∀ j, i < j → RC all E g v 98 4 j) : RC all E g v 102 6 i := by
  intro w n d h hn6 hd41
  have hgl := lt_of_block h.blk
  have hb0 : Below w.heap.size w (w.alloc (.cells #[.int .i64 0, .int .i64 0, .int .i64 0, .string ⟨#[]⟩, .slice none 0 0] 31)) := (Below.refl _ _).alloc (Nat.le_refl _) _
  have hz := zero_new w
  have hS0 := h.below hb0 h0
  have hkA := Kept.of_below (g := g) hb0
  generalize hwA : w.alloc (.cells #[.int .i64 0, .int .i64 0, .int .i64 0, .string ⟨#[]⟩, .slice none 0 0] 31) = w0 at *
  have hq0 := Kept.refl g w0
  by_cases h40 : 40 < d
  · have h40' : (40 : Int) < (d : Int) := by omega
    rw [rd_6, if_pos h40]
    go_enter Tryz.func102, Tryz.ntmps102
    go_wp2_with fail
    refine (fail_any h0 hS0 4).mono ?_
    rintro e w1 ⟨rfl, hb1⟩
    exact ⟨rfl, rfl, hkA.trans (Kept.of_below hb1)⟩
  have hd : d ≤ 40 := by omega
  have hd' : ¬ (40 : Int) < (d : Int) := by omega
  have hdi : (d : Int) ≤ 40 := by omega
  have hdz : (0 : Int) ≤ (d : Int) := by omega
  generalize hXd : rd E 6 d ex0 (all.drop i) n = X
  have hX : _ := hXd
  rw [rd_6, if_neg h40] at hX
  simp only [tail_drop] at hX
  clear h40 hb0 hXd
  by_cases t0 : isT wOpen (all.drop i) = true
  · rw [if_pos t0] at hX
    have HX : Hid (andThen (rd E 0 (d + 1) ex0 (all.drop (i + 1)) n) (fun e r n => if isT wShut r then .ok (e, r.tail, n) else failP E 2 r) = X) := hX
    clear hX
    go_enter Tryz.func102, Tryz.ntmps102
    go_wp2_with fail
    refine (skip_yes h0 hS0 wOpen (by decide) t0).mono ?_
    rintro e w9 ⟨rfl, hS9, kq⟩
    have hq9 := hq0.trans kq
    have hz9 := hq9.at hz (by omega)
    have hk9 := hkA.trans hq9
    have hl9 := lt_of_block hz9
    clear kq hS0
    have c9 : Calls Tryz.prog 76 #[.pointer (some ⟨g, 0, none⟩), .int .i64 ((d : Int) + 1)] w9 (OutE all E g v w9 (fun k => w9.heap.size ≤ k) (rd E 0 (d + 1) ex0 (all.drop (i + 1)) n)) := hS (i + 1) (by omega) w9 n (d + 1) hS9 hn6 (by omega)
    have hXX := HX.out
    go_wp2_with fail
    refine c9.mono ?_
    intro e w2 ho
    clear c9
    cases hx : rd E 0 (d + 1) ex0 (all.drop (i + 1)) n with
    | error q =>
      obtain ⟨er, at_⟩ := q
      rw [hx] at ho hXX
      obtain ⟨rfl, hk5⟩ := ho
      refine ⟨rfl, ?_⟩
      rw [← hXX]
      exact ⟨rfl, hk9.trans hk5⟩
    | ok q =>
      obtain ⟨ex, rr, nn⟩ := q
      rw [hx] at ho hXX
      obtain ⟨i', sl, dd, hr', rfl, hkd, h2, hn2, hk2⟩ := ho
      subst hr'
      obtain ⟨p5, c5, rfl⟩ := hkd.form
      have hz2 := hk2.at hz9 (by omega)
      have hs2 := hk2.size
      have hb3 : Below w2.heap.size w2 (w2.alloc (.cells #[.int .i64 ex.kind, .int .i64 ex.a, .int .i64 ex.b, .string ⟨ex.name.toArray⟩, .slice p5 ex.kids.length c5] 31)) := (Below.refl _ _).alloc (Nat.le_refl _) _
      have h3 := h2.below hb3 h0
      have hk3 := hk2.trans (Kept.of_below hb3)
      have he3 := heap_alloc_new w2 (.cells #[.int .i64 ex.kind, .int .i64 ex.a, .int .i64 ex.b, .string ⟨ex.name.toArray⟩, .slice p5 ex.kids.length c5] 31)
      have hkd3 : KidsAt (fun k => w.heap.size + 1 ≤ k) dd (w2.alloc (.cells #[.int .i64 ex.kind, .int .i64 ex.a, .int .i64 ex.b, .string ⟨ex.name.toArray⟩, .slice p5 ex.kids.length c5] 31)) (.slice p5 ex.kids.length c5) ex.kids := (Kept.of_below (g := g) hb3).kids (fun k hk => by omega) (hkd.mono fun k hk => by omega)
      unfold exV
      clear hkd h2 hk2 hb3 hx
      generalize hw3 : w2.alloc (.cells #[.int .i64 ex.kind, .int .i64 ex.a, .int .i64 ex.b, .string ⟨ex.name.toArray⟩, .slice p5 ex.kids.length c5] 31) = w3 at *
      by_cases hm : isT wShut (all.drop i') = true
      · have c5' := must_yes h0 h3 wShut (by decide) hm
        have HX2 : Hid (X = .ok (ex, all.drop (i' + 1), nn)) := by
          show _ = _
          rw [← hXX, ← tail_drop]
          show (if isT wShut (all.drop i') then _ else _) = _
          rw [if_pos hm]
        clear hXX hm
        go_wp2_with fail
        refine c5'.mono ?_
        rintro e w4 ⟨rfl, h4, hk4⟩
        have he4 := hk4.at he3 (by omega)
        have hz4 := (hk3.trans hk4).at hz9 (by omega)
        have hkw := (hk9.trans hk3).trans hk4
        have hkd4 := hk4.kids (fun k hk => by omega) hkd3
        have HO : Hid (∀ cs, OutE all E g v w (fun k => w.heap.size ≤ k) X (.returned (exV ex (.slice p5 ex.kids.length c5))) (w4.setRow w.heap.size cs)) := fun cs => by
          rw [HX2.out]
          exact ⟨i' + 1, _, dd, rfl, rfl, (hkd4.kept fun k hk _ => setRow_other _ _ _ _ (by omega)).mono fun k hk => by omega, h.of_kept h0 (hkw.setRow (Nat.le_refl _) cs) ((setRow_other _ _ _ _ (by omega)).trans h4.blk) h4.le, hn2, hkw.setRow (Nat.le_refl _) cs⟩
        unfold exV at HO
        clear c5' h3 h4 hk3 hk4 hkw hkd3 hkd4 he3 hz2 hw3 HX2
        go_wp2_with (first
          | (refine wpList_load_row rfl 31 _ rfl _ rfl _ _ _ _ he4 exprType rfl (by kernel_rfl) ?_)
          | (refine wpList_store_row rfl 31 _ _ rfl _ _ rfl rfl _ _ hz4 (by kernel_rfl) (by rfl) (by simp [Value.oneCell']) ?_))
        exact ex_ret 4 (by kernel_rfl) w.heap.size _ _ _ _ _ rfl rfl (setRow_heap _ _ _ _ _ _ hz4) (HO.out _)
      · have hm' : isT wShut (all.drop i') = false := by simpa using hm
        have c5' := must_no h0 h3 wShut hm'
        have HX2 : Hid (X = failP E 2 (all.drop i')) := by
          show _ = _
          rw [← hXX]
          show (if isT wShut (all.drop i') then _ else _) = _
          rw [if_neg hm]
        clear hXX hm hm'
        go_wp2_with fail
        refine c5'.mono ?_
        rintro e w4 ⟨rfl, hk4⟩
        refine ⟨rfl, ?_⟩
        rw [HX2.out]
        exact ⟨rfl, (hk9.trans hk3).trans hk4⟩
  have f0 : isT wOpen (all.drop i) = false := by simpa using t0
  rw [if_neg t0] at hX
  clear t0
  by_cases t1 : isT wNever (all.drop i) = true
  · rw [if_pos t1] at hX
    have HX : Hid (endedP E ⟨1, 0, 0, [], []⟩ (all.drop (i + 1)) n = X) := hX
    clear hX
    go_enter Tryz.func102, Tryz.ntmps102
    go_wp2_with fail
    refine (skip_no h0 hS0 wOpen f0).mono ?_
    rintro e w1 ⟨rfl, hS1, kq⟩
    have hq1 := hq0.trans kq
    clear kq hS0
    go_wp2_with fail
    refine (skip_yes h0 hS1 wNever (by decide) t1).mono ?_
    rintro e w9 ⟨rfl, hS9, kq⟩
    have hq9 := hq1.trans kq
    have hz9 := hq9.at hz (by omega)
    have hk9 := hkA.trans hq9
    have hl9 := lt_of_block hz9
    clear kq hS1
    have c9 := ended_any h0 hS9 hn6 (fun k => w.heap.size + 1 ≤ k) (fun k hk => by omega) ⟨1, 0, 0, [], []⟩ (.slice none 0 0) 0 (KidsAt.nil _ _ _ _ _)
    unfold exV at c9
    rw [show endedP E ⟨1, 0, 0, [], []⟩ (all.drop (i + 1)) n = X from HX.out] at c9
    go_wp2_with fail
    refine c9.mono ?_
    intro e w5 ho
    rcases out_split h h0 hk9 hz9 ho with ⟨ch, rfl, hO⟩ | ⟨a', b', c', x', p', q', r', rfl, hz6, hO⟩
    · exact ⟨rfl, hO⟩
    · clear ho
      go_wp2_with (refine wpList_store_row rfl 31 _ _ rfl _ _ rfl rfl _ _ hz6 (by kernel_rfl) (by rfl) (by simp [Value.oneCell']) ?_)
      exact ex_ret 4 (by kernel_rfl) w.heap.size _ _ _ _ _ rfl rfl (setRow_heap _ _ _ _ _ _ hz6) (hO _)
  have f1 : isT wNever (all.drop i) = false := by simpa using t1
  rw [if_neg t1] at hX
  clear t1
  by_cases t2 : isT wAlways (all.drop i) = true
  · rw [if_pos t2] at hX
    have HX : Hid (endedP E ⟨2, 0, 0, [], []⟩ (all.drop (i + 1)) n = X) := hX
    clear hX
    go_enter Tryz.func102, Tryz.ntmps102
    go_wp2_with fail
    refine (skip_no h0 hS0 wOpen f0).mono ?_
    rintro e w1 ⟨rfl, hS1, kq⟩
    have hq1 := hq0.trans kq
    clear kq hS0
    go_wp2_with fail
    refine (skip_no h0 hS1 wNever f1).mono ?_
    rintro e w2 ⟨rfl, hS2, kq⟩
    have hq2 := hq1.trans kq
    clear kq hS1
    go_wp2_with fail
    refine (skip_yes h0 hS2 wAlways (by decide) t2).mono ?_
    rintro e w9 ⟨rfl, hS9, kq⟩
    have hq9 := hq2.trans kq
    have hz9 := hq9.at hz (by omega)
    have hk9 := hkA.trans hq9
    have hl9 := lt_of_block hz9
    clear kq hS2
    have c9 := ended_any h0 hS9 hn6 (fun k => w.heap.size + 1 ≤ k) (fun k hk => by omega) ⟨2, 0, 0, [], []⟩ (.slice none 0 0) 0 (KidsAt.nil _ _ _ _ _)
    unfold exV at c9
    rw [show endedP E ⟨2, 0, 0, [], []⟩ (all.drop (i + 1)) n = X from HX.out] at c9
    go_wp2_with fail
    refine c9.mono ?_
    intro e w5 ho
    rcases out_split h h0 hk9 hz9 ho with ⟨ch, rfl, hO⟩ | ⟨a', b', c', x', p', q', r', rfl, hz6, hO⟩
    · exact ⟨rfl, hO⟩
    · clear ho
      go_wp2_with (refine wpList_store_row rfl 31 _ _ rfl _ _ rfl rfl _ _ hz6 (by kernel_rfl) (by rfl) (by simp [Value.oneCell']) ?_)
      exact ex_ret 4 (by kernel_rfl) w.heap.size _ _ _ _ _ rfl rfl (setRow_heap _ _ _ _ _ _ hz6) (hO _)
  have f2 : isT wAlways (all.drop i) = false := by simpa using t2
  rw [if_neg t2] at hX
  clear t2
  by_cases t3 : isT wWeekly (all.drop i) = true
  · rw [if_pos t3] at hX
    have HX : Hid (rd E 7 d ex0 (all.drop (i + 1)) n = X) := hX
    clear hX
    go_enter Tryz.func102, Tryz.ntmps102
    go_wp2_with fail
    refine (skip_no h0 hS0 wOpen f0).mono ?_
    rintro e w1 ⟨rfl, hS1, kq⟩
    have hq1 := hq0.trans kq
    clear kq hS0
    go_wp2_with fail
    refine (skip_no h0 hS1 wNever f1).mono ?_
    rintro e w2 ⟨rfl, hS2, kq⟩
    have hq2 := hq1.trans kq
    clear kq hS1
    go_wp2_with fail
    refine (skip_no h0 hS2 wAlways f2).mono ?_
    rintro e w3 ⟨rfl, hS3, kq⟩
    have hq3 := hq2.trans kq
    clear kq hS2
    go_wp2_with fail
    refine (skip_yes h0 hS3 wWeekly (by decide) t3).mono ?_
    rintro e w9 ⟨rfl, hS9, kq⟩
    have hq9 := hq3.trans kq
    have hz9 := hq9.at hz (by omega)
    have hk9 := hkA.trans hq9
    have hl9 := lt_of_block hz9
    clear kq hS3
    have c9 := weekly_any h0 hS9 hn6 d hd (fun j hj => hF j (by omega))
    rw [show rd E 7 d ex0 (all.drop (i + 1)) n = X from HX.out] at c9
    go_wp2_with fail
    refine c9.mono ?_
    intro e w4 ho'
    have ho := OutE.weak (B' := fun k => w.heap.size + 1 ≤ k) (Kept.refl g w9) (fun k hk => by omega) ho'
    clear ho'
    rcases out_split h h0 hk9 hz9 ho with ⟨ch, rfl, hO⟩ | ⟨a', b', c', x', p', q', r', rfl, hz6, hO⟩
    · exact ⟨rfl, hO⟩
    · clear ho
      go_wp2_with (refine wpList_store_row rfl 31 _ _ rfl _ _ rfl rfl _ _ hz6 (by kernel_rfl) (by rfl) (by simp [Value.oneCell']) ?_)
      exact ex_ret 4 (by kernel_rfl) w.heap.size _ _ _ _ _ rfl rfl (setRow_heap _ _ _ _ _ _ hz6) (hO _)
  have f3 : isT wWeekly (all.drop i) = false := by simpa using t3
  rw [if_neg t3] at hX
  clear t3
  by_cases t4 : isT wDates (all.drop i) = true
  · rw [if_pos t4] at hX
    have HX : Hid (datesR E d (all.drop (i + 1)) n = X) := by
      show _ = _
      rw [← hX]; unfold datesR; simp only [tail_drop]
    clear hX
    go_enter Tryz.func102, Tryz.ntmps102
    go_wp2_with fail
    refine (skip_no h0 hS0 wOpen f0).mono ?_
    rintro e w1 ⟨rfl, hS1, kq⟩
    have hq1 := hq0.trans kq
    clear kq hS0
    go_wp2_with fail
    refine (skip_no h0 hS1 wNever f1).mono ?_
    rintro e w2 ⟨rfl, hS2, kq⟩
    have hq2 := hq1.trans kq
    clear kq hS1
    go_wp2_with fail
    refine (skip_no h0 hS2 wAlways f2).mono ?_
    rintro e w3 ⟨rfl, hS3, kq⟩
    have hq3 := hq2.trans kq
    clear kq hS2
    go_wp2_with fail
    refine (skip_no h0 hS3 wWeekly f3).mono ?_
    rintro e w4 ⟨rfl, hS4, kq⟩
    have hq4 := hq3.trans kq
    clear kq hS3
    go_wp2_with fail
    refine (skip_yes h0 hS4 wDates (by decide) t4).mono ?_
    rintro e w9 ⟨rfl, hS9, kq⟩
    have hq9 := hq4.trans kq
    have hz9 := hq9.at hz (by omega)
    have hk9 := hkA.trans hq9
    have hl9 := lt_of_block hz9
    clear kq hS4
    have c9 := dates_any h0 hS9 hn6 d hd (fun j hj => hF j (by omega))
    rw [show datesR E d (all.drop (i + 1)) n = X from HX.out] at c9
    go_wp2_with fail
    refine c9.mono ?_
    intro e w4 ho'
    have ho := OutE.weak (B' := fun k => w.heap.size + 1 ≤ k) (Kept.refl g w9) (fun k hk => by omega) ho'
    clear ho'
    rcases out_split h h0 hk9 hz9 ho with ⟨ch, rfl, hO⟩ | ⟨a', b', c', x', p', q', r', rfl, hz6, hO⟩
    · exact ⟨rfl, hO⟩
    · clear ho
      go_wp2_with (refine wpList_store_row rfl 31 _ _ rfl _ _ rfl rfl _ _ hz6 (by kernel_rfl) (by rfl) (by simp [Value.oneCell']) ?_)
      exact ex_ret 4 (by kernel_rfl) w.heap.size _ _ _ _ _ rfl rfl (setRow_heap _ _ _ _ _ _ hz6) (hO _)
  have f4 : isT wDates (all.drop i) = false := by simpa using t4
  rw [if_neg t4] at hX
  clear t4
  by_cases t5 : kindP (all.drop i) = 1
  · rw [if_pos t5] at hX
    have HX : Hid (endedP E ⟨10, 0, 0, textP (all.drop i), []⟩ (all.drop (i + 1)) n = X) := hX
    clear hX
    go_enter Tryz.func102, Tryz.ntmps102
    go_wp2_with fail
    refine (skip_no h0 hS0 wOpen f0).mono ?_
    rintro e w1 ⟨rfl, hS1, kq⟩
    have hq1 := hq0.trans kq
    clear kq hS0
    go_wp2_with fail
    refine (skip_no h0 hS1 wNever f1).mono ?_
    rintro e w2 ⟨rfl, hS2, kq⟩
    have hq2 := hq1.trans kq
    clear kq hS1
    go_wp2_with fail
    refine (skip_no h0 hS2 wAlways f2).mono ?_
    rintro e w3 ⟨rfl, hS3, kq⟩
    have hq3 := hq2.trans kq
    clear kq hS2
    go_wp2_with fail
    refine (skip_no h0 hS3 wWeekly f3).mono ?_
    rintro e w4 ⟨rfl, hS4, kq⟩
    have hq4 := hq3.trans kq
    clear kq hS3
    go_wp2_with fail
    refine (skip_no h0 hS4 wDates f4).mono ?_
    rintro e w5 ⟨rfl, hS5, kq⟩
    have hq5 := hq4.trans kq
    clear kq hS4
    have cm := met_any h0 hS5
    unfold tokV at cm
    rw [t5] at cm
    go_wp2_with fail
    refine cm.mono ?_
    rintro e w6 ⟨rfl, hb6⟩
    have hS6 := hS5.below hb6 h0
    have hq6 := hq5.trans (Kept.of_below hb6)
    clear cm hS5 hb6
    have ct := take_yes h0 hS6 1 (by decide) t5
    unfold tokV at ct
    go_wp2_with fail
    refine ct.mono ?_
    rintro e w9 ⟨rfl, hS9, kq⟩
    have hq9 := hq6.trans kq
    have hz9 := hq9.at hz (by omega)
    have hk9 := hkA.trans hq9
    have c9 := ended_any h0 hS9 hn6 (fun k => w.heap.size + 1 ≤ k) (fun k hk => by omega) ⟨10, 0, 0, textP (all.drop i), []⟩ (.slice none 0 0) 0 (KidsAt.nil _ _ _ _ _)
    unfold exV at c9
    rw [show endedP E ⟨10, 0, 0, textP (all.drop i), []⟩ (all.drop (i + 1)) n = X from HX.out] at c9
    clear kq hS6 ct
    go_wp2_with fail
    refine c9.mono ?_
    intro e w5 ho
    rcases out_split h h0 hk9 hz9 ho with ⟨ch, rfl, hO⟩ | ⟨a', b', c', x', p', q', r', rfl, hz6, hO⟩
    · exact ⟨rfl, hO⟩
    · clear ho
      go_wp2_with (refine wpList_store_row rfl 31 _ _ rfl _ _ rfl rfl _ _ hz6 (by kernel_rfl) (by rfl) (by simp [Value.oneCell']) ?_)
      exact ex_ret 4 (by kernel_rfl) w.heap.size _ _ _ _ _ rfl rfl (setRow_heap _ _ _ _ _ _ hz6) (hO _)
  · rw [if_neg t5] at hX
    have HX : Hid (spanR E (all.drop i) n = X) := by
      show _ = _
      rw [← hX]; unfold spanR; simp only [tail_drop]
    clear hX
    go_enter Tryz.func102, Tryz.ntmps102
    go_wp2_with fail
    refine (skip_no h0 hS0 wOpen f0).mono ?_
    rintro e w1 ⟨rfl, hS1, kq⟩
    have hq1 := hq0.trans kq
    clear kq hS0
    go_wp2_with fail
    refine (skip_no h0 hS1 wNever f1).mono ?_
    rintro e w2 ⟨rfl, hS2, kq⟩
    have hq2 := hq1.trans kq
    clear kq hS1
    go_wp2_with fail
    refine (skip_no h0 hS2 wAlways f2).mono ?_
    rintro e w3 ⟨rfl, hS3, kq⟩
    have hq3 := hq2.trans kq
    clear kq hS2
    go_wp2_with fail
    refine (skip_no h0 hS3 wWeekly f3).mono ?_
    rintro e w4 ⟨rfl, hS4, kq⟩
    have hq4 := hq3.trans kq
    clear kq hS3
    go_wp2_with fail
    refine (skip_no h0 hS4 wDates f4).mono ?_
    rintro e w5 ⟨rfl, hS5, kq⟩
    have hq5 := hq4.trans kq
    clear kq hS4
    have cm := met_any h0 hS5
    unfold tokV at cm
    have hne : (kindP (all.drop i) == 1) = false := by simpa using t5
    generalize kindP (all.drop i) = kq0 at *
    go_wp2_with fail
    refine cm.mono ?_
    rintro e w6 ⟨rfl, hb6⟩
    have hS6 := hS5.below hb6 h0
    have hq9 := hq5.trans (Kept.of_below hb6)
    have hz9 := hq9.at hz (by omega)
    have hk9 := hkA.trans hq9
    have hl9 := lt_of_block hz9
    have c9 := span_any h0 hS6 hn6
    rw [show spanR E (all.drop i) n = X from HX.out] at c9
    clear cm hS5 hb6
    go_wp2_with fail
    refine c9.mono ?_
    intro e w4 ho'
    have ho := OutE.weak (B' := fun k => w.heap.size + 1 ≤ k) (Kept.refl g w6) (fun k hk => by omega) ho'
    clear ho'
    rcases out_split h h0 hk9 hz9 ho with ⟨ch, rfl, hO⟩ | ⟨a', b', c', x', p', q', r', rfl, hz6, hO⟩
    · exact ⟨rfl, hO⟩
    · clear ho
      go_wp2_with (refine wpList_store_row rfl 31 _ _ rfl _ _ rfl rfl _ _ hz6 (by kernel_rfl) (by rfl) (by simp [Value.oneCell']) ?_)
      exact ex_ret 4 (by kernel_rfl) w.heap.size _ _ _ _ _ rfl rfl (setRow_heap _ _ _ _ _ _ hz6) (hO _)
end Go.Proofs.YtgfjbcdjpkcbkaaGreatDoor

/- What factor comes to, where thing comes to what it should. -/
namespace Go.Proofs.YtgfjbcdjpkcbkaaGreatDoor
open Go.RowKit Lx
variable {all : List Tk} {E g : Nat} {v : Value} {w : World} {i n : Nat}
def posOf (g : Nat) (w : World) : Nat := match w.heap[g]? with
  | some (.cells cs _ _) => (intOf (cs.getD 1 undef)).toNat
  | _ => 0
theorem PSt.pos (h : PSt all E g v w i n) : posOf g w = i := by
  unfold posOf
  rw [h.blk]
  simp [intOf]
theorem shiftAt_drop (j : Nat) : shiftAt (all.drop j) = all.drop (shAt all (j + 1)) := by
  unfold shiftAt shAt
  rw [tail_drop]
  split
  · rw [tail_drop]
  · rfl
def afterShift (E d : Nat) (all : List Tk) (e : Ex) (n : Nat) : Except (Int × Nat) (Int × Nat) → Res
  | .error q => .error q
  | .ok (m, j) => andThen (endedP E ⟨9, m, 0, [], [e]⟩ (all.drop j) n) fun e r n => rd E 5 d e r n
theorem rd5_shift (d : Nat) (e : Ex) (j n : Nat) (h : isT wShift (all.drop j) = true) : rd E 5 d e (all.drop j) n = afterShift E d all e n (shiftX all E (j + 1)) := by
  rw [rd_5, if_pos h, shiftAt_drop, tail_drop]
  unfold shiftX
  split
  · rfl
  split
  · rfl
  · unfold afterShift
    rw [tail_drop]
theorem rd5_no (d : Nat) (e : Ex) (j n : Nat) (h : isT wShift (all.drop j) = false) : rd E 5 d e (all.drop j) n = .ok (e, all.drop j, n) := by
  rw [rd_5, if_neg (by simp [h])]
structure VarE (w0 w : World) (b : Nat) (e : Ex) : Prop where
  ex : ∃ (p : Option Addr) (c d : Nat), w.heap[b]? = some (.cells #[.int .i64 e.kind, .int .i64 e.a, .int .i64 e.b, .string ⟨e.name.toArray⟩, .slice p e.kids.length c] 31 (0, 0)) ∧ KidsAt (fun k => w0.heap.size + 1 ≤ k ∧ k ≠ b) d w (.slice p e.kids.length c) e.kids
theorem VarE.kept {w0 w w' : World} {b : Nat} {e : Ex} (h : VarE w0 w b e) (hk : Kept g w w') (hb : b ≠ g) (hg : g < w0.heap.size) : VarE w0 w' b e := by
  obtain ⟨p, c, d, h1, h2⟩ := h.ex
  exact ⟨p, c, d, hk.at h1 hb, hk.kids (fun k hk => by omega) h2⟩
set_option maxRecDepth 100000 in
set_option maxHeartbeats 4000000 in
theorem factor_step (h0 : PS0 all E g v) (hT : RC all E g v 102 6 i) : RC all E g v 98 4 i := by
  intro w n d h hn6 hd41
  have hgl := lt_of_block h.blk
  have hb0 : Below w.heap.size w (w.alloc (.cells #[.int .i64 0, .int .i64 0, .int .i64 0, .string ⟨#[]⟩, .slice none 0 0] 31)) := (Below.refl _ _).alloc (Nat.le_refl _) _
  have hz := zero_new w
  have hS0 := h.below hb0 h0
  have hkA := Kept.of_below (g := g) hb0
  have hszA : (w.alloc (.cells #[.int .i64 0, .int .i64 0, .int .i64 0, .string ⟨#[]⟩, .slice none 0 0] 31)).heap.size = w.heap.size + 1 := by simp
  generalize hwA : w.alloc (.cells #[.int .i64 0, .int .i64 0, .int .i64 0, .string ⟨#[]⟩, .slice none 0 0] 31) = w0 at *
  have c1 := hT w0 n d hS0 hn6 hd41
  generalize hXd : rd E 4 d ex0 (all.drop i) n = X
  rw [rd_4] at hXd
  go_enter Tryz.func98, Tryz.ntmps98
  go_wp2_with fail
  refine c1.mono ?_
  intro e w1 ho
  cases hx : rd E 6 d ex0 (all.drop i) n with
  | error q =>
    obtain ⟨er, at_⟩ := q
    rw [hx] at ho hXd
    obtain ⟨rfl, hk1⟩ := ho
    refine ⟨rfl, ?_⟩
    rw [← hXd]
    exact ⟨rfl, hkA.trans hk1⟩
  | ok q =>
    obtain ⟨e0, rr, n0⟩ := q
    rw [hx] at ho hXd
    obtain ⟨i1, sl, dd, hr', rfl, hkd, h1, hn1, hk1⟩ := ho
    subst hr'
    obtain ⟨p1, q1, rfl⟩ := hkd.form
    have hX1 : rd E 5 d e0 (all.drop i1) n0 = X := hXd
    have hs1 := hk1.size
    have hz1 := hk1.at hz (by omega)
    have hb2 : Below w1.heap.size w1 (w1.alloc (.cells #[.int .i64 e0.kind, .int .i64 e0.a, .int .i64 e0.b, .string ⟨e0.name.toArray⟩, .slice p1 e0.kids.length q1] 31)) := (Below.refl _ _).alloc (Nat.le_refl _) _
    have h2 := h1.below hb2 h0
    have hz2 := (hb2.block _ (lt_of_block hz1)).trans hz1
    have hkw2 := (hkA.trans hk1).trans (Kept.of_below hb2)
    have hv2 : VarE w (w1.alloc (.cells #[.int .i64 e0.kind, .int .i64 e0.a, .int .i64 e0.b, .string ⟨e0.name.toArray⟩, .slice p1 e0.kids.length q1] 31)) w1.heap.size e0 :=
      ⟨p1, q1, dd, heap_alloc_new w1 _, (Kept.of_below (g := g) hb2).kids (fun k hk => by omega) (hkd.lt.mono fun k hk => by omega)⟩
    unfold exV
    have HX1 : Hid (rd E 5 d e0 (all.drop i1) n0 = X) := hX1
    clear hkd h1 hk1 hb2 hx hXd hX1 c1 hz1 hS0 hwA hz hkA hb0
    generalize hw2 : w1.alloc (.cells #[.int .i64 e0.kind, .int .i64 e0.a, .int .i64 e0.b, .string ⟨e0.name.toArray⟩, .slice p1 e0.kids.length q1] 31) = w2 at *
    go_wp2_with fail
    clear hw2
    go_loopw [6] (fun _ wr => ∃ (e : Ex) (j m : Nat), rd E 5 d e (all.drop j) m = X ∧ VarE w wr w1.heap.size e ∧ PSt all E g v wr j m ∧ m ≤ 600 ∧ Kept g w wr ∧ wr.heap[w.heap.size]? = some (.cells ex0C 31 (0, 0))) (fun _ wr => all.length - posOf g wr)
    case atStart => exact ⟨e0, i1, n0, HX1.out, hv2, h2, hn1, hkw2, hz2⟩
    case round =>
      obtain ⟨e, j, m, hXr, hv, hst, hm6, hkp, hzr⟩ := hrel
      clear HX1 hv2 h2 hkw2 hz2
      have hp := hst.pos
      by_cases hs : isT wShift (all.drop j) = true
      · have hj1 := isT_len (by decide) hs
        have c2 := skip_yes h0 hst wShift (by decide) hs
        rw [rd5_shift d e j m hs] at hXr
        have c3 := fun (w1 : World) (h1 : PSt all E g v w1 (j + 1) m) => shift_any h0 h1
        have HXr : Hid (afterShift E d all e m (shiftX all E (j + 1)) = X) := hXr
        clear hs hXr
        go_wp2_with fail
        refine c2.mono ?_
        rintro e' w3 ⟨rfl, h3, hk3⟩
        go_wp2_with fail
        refine (c3 _ h3).mono ?_
        intro e' w4 ho
        cases hx : shiftX all E (j + 1) with
        | error q =>
          obtain ⟨er, at_⟩ := q
          have hXX := HXr.out
          rw [hx] at ho hXX
          obtain ⟨rfl, hk4⟩ := ho
          refine ⟨rfl, ?_⟩
          rw [← hXX]
          exact ⟨rfl, (hkp.trans hk3).trans hk4⟩
        | ok q =>
          obtain ⟨by_, j2⟩ := q
          have hXX := HXr.out
          rw [hx] at ho hXX
          obtain ⟨rfl, h4, hk4⟩ := ho
          have hj2 : j + 1 < j2 := by
            unfold shiftX at hx
            split at hx
            · cases hx
            split at hx
            · cases hx
            · cases hx
              unfold shAt
              split <;> omega
          have hk34 := hk3.trans hk4
          have hs34 := hk34.size
          have hv4 := hv.kept hk34 (by omega) hgl
          obtain ⟨pv, cv, dv, he4, hkv⟩ := hv4.ex
          have hz4 := hk34.at hzr (by omega)
          have hlz := lt_of_block hz4
          have hle := lt_of_block he4
          have hb5 : Below w4.heap.size w4 (w4.alloc (.cells #[.int .i64 e.kind, .int .i64 e.a, .int .i64 e.b, .string ⟨e.name.toArray⟩, .slice pv e.kids.length cv] 31)) := (Below.refl _ _).alloc (Nat.le_refl _) _
          have kk := kids_one (B := fun k => w.heap.size + 1 ≤ k ∧ k ≠ w1.heap.size) (by constructor <;> omega) (heap_alloc_new w4 (.cells #[.int .i64 e.kind, .int .i64 e.a, .int .i64 e.b, .string ⟨e.name.toArray⟩, .slice pv e.kids.length cv] 31)) ((Kept.of_below (g := g) hb5).kids (fun k hk => by omega) hkv)
          have h5 := h4.below hb5 h0
          have he5 := (hb5.block _ hle).trans he4
          have hz5 := (hb5.block _ hlz).trans hz4
          have hk5 := ((hkp.trans hk3).trans hk4).trans (Kept.of_below hb5)
          have c6 := ended_any h0 h5 hm6 (fun k => w.heap.size + 1 ≤ k ∧ k ≠ w1.heap.size) (fun k hk => by omega) ⟨9, by_, 0, [], [e]⟩ _ _ kk
          unfold exV at c6
          have HXX : Hid (andThen (endedP E ⟨9, by_, 0, [], [e]⟩ (all.drop j2) m) (fun e r n => rd E 5 d e r n) = X) := hXX
          clear hv hv4 hkv hb5 h3 h4 hst hk3 hk4 hk34 hkp hzr hx hXX c2 c3 HXr kk hz4
          generalize hw5 : w4.alloc (.cells #[.int .i64 e.kind, .int .i64 e.a, .int .i64 e.b, .string ⟨e.name.toArray⟩, .slice pv e.kids.length cv] 31) = w5 at *
          go_wp2_with (refine wpList_load_row rfl 31 _ rfl _ rfl _ _ _ _ he4 exprType rfl (by kernel_rfl) ?_)
          refine c6.mono ?_
          intro e' w6 ho
          cases hx : endedP E ⟨9, by_, 0, [], [e]⟩ (all.drop j2) m with
          | error q =>
            obtain ⟨er, at_⟩ := q
            have hXX := HXX.out
            rw [hx] at ho hXX
            obtain ⟨rfl, hk6⟩ := ho
            refine ⟨rfl, ?_⟩
            rw [← hXX]
            exact ⟨rfl, hk5.trans hk6⟩
          | ok q =>
            obtain ⟨e6, rr, n6⟩ := q
            have hXX := HXX.out
            rw [hx] at ho hXX
            obtain ⟨i6, sl, dd, hr', rfl, hkd, h6, hn6', hk6⟩ := ho
            have er := endedP_ok hx
            cases er
            obtain ⟨p6, q6, rfl⟩ := hkd.form
            have he6 := hk6.at he5 (by omega)
            have hz6 := hk6.at hz5 (by omega)
            have hs6 := hk6.size
            have hk56 := hk5.trans hk6
            have hsw := hk5.size
            have i6e : all.drop j2 = all.drop i6 := hr'
            have HR : Hid (∀ cs, PSt all E g v (w6.setRow w1.heap.size cs) i6 (m + 1) ∧ Kept g w (w6.setRow w1.heap.size cs) ∧ (w6.setRow w1.heap.size cs).heap[w.heap.size]? = some (.cells ex0C 31 (0, 0)) ∧ KidsAt (fun k => w.heap.size + 1 ≤ k ∧ k ≠ w1.heap.size) dd (w6.setRow w1.heap.size cs) (.slice p6 1 q6) [e]) := fun cs =>
              ⟨h.of_kept h0 (hk56.setRow (by omega) cs) ((setRow_other _ _ _ _ (by omega)).trans h6.blk) h6.le, hk56.setRow (by omega) cs, (setRow_other _ _ _ _ (by omega)).trans hz6, hkd.kept fun k hk _ => setRow_other _ _ _ _ hk.2⟩
            have HN : Hid (rd E 5 d ⟨9, by_, 0, [], [e]⟩ (all.drop i6) (m + 1) = X) := by
              show _ = _
              rw [← i6e]; exact hXX
            have hi6 : j < i6 := by
              have l1 := congrArg List.length i6e
              simp only [List.length_drop] at l1
              have := h6.le
              have := h5.le
              omega
            unfold exV
            clear hkd h5 h6 hk6 hx hXX c6 he5 hz5 hz6 hk56 i6e HXX hr' hw5
            go_wp2_with (refine wpList_store_row rfl 31 _ _ rfl _ _ rfl rfl _ _ he6 (by kernel_rfl) (by simp) (by simp [Value.oneCell']) ?_)
            obtain ⟨r1, r2, r3, r4⟩ := HR.out #[.int .i64 9, .int .i64 by_, .int .i64 0, .string ⟨#[]⟩, .slice p6 1 q6]
            go_roundw
            case rel =>
              (repeat apply Exists.intro)
              exact ⟨⟨⟨9, by_, 0, [], [e]⟩, i6, m + 1, HN.out, ⟨p6, q6, dd, setRow_heap _ _ _ _ _ _ he6, r4⟩, r1, hn6', r2, r3⟩, rfl⟩
            case measure =>
              rw [hp]
              have := r1.pos
              have := r1.le
              show all.length - posOf g _ < _
              omega
      · have hs' : isT wShift (all.drop j) = false := by simpa using hs
        have c2 := skip_no h0 hst wShift hs'
        rw [rd5_no d e j m hs'] at hXr
        have HXr : Hid (.ok (e, all.drop j, m) = X) := hXr
        clear hs hs' hXr hp
        go_wp2_with fail
        refine c2.mono ?_
        rintro e' w3 ⟨rfl, h3, hk3⟩
        have hv3 := hv.kept hk3 (by omega) hgl
        obtain ⟨pv, cv, dv, he3, hkv⟩ := hv3.ex
        have hz3 := hk3.at hzr (by omega)
        have hkw := hkp.trans hk3
        have HO : Hid (∀ cs, OutE all E g v w (fun k => w.heap.size ≤ k) X (.returned (exV e (.slice pv e.kids.length cv))) (w3.setRow w.heap.size cs)) := fun cs => by
          rw [← HXr.out]
          exact ⟨j, _, dv, rfl, rfl, (hkv.kept fun k hk _ => setRow_other _ _ _ _ (by omega)).mono fun k hk => by omega, h.of_kept h0 (hkw.setRow (Nat.le_refl _) cs) ((setRow_other _ _ _ _ (by omega)).trans h3.blk) h3.le, hm6, hkw.setRow (Nat.le_refl _) cs⟩
        unfold exV at HO
        clear c2 hst h3 hk3 hkp hkw hkv hv hv3 hzr HXr
        go_wp2_with (first
          | (refine wpList_load_row rfl 31 _ rfl _ rfl _ _ _ _ he3 exprType rfl (by kernel_rfl) ?_)
          | (refine wpList_store_row rfl 31 _ _ rfl _ _ rfl rfl _ _ hz3 (by kernel_rfl) (by rfl) (by simp [Value.oneCell']) ?_))
        exact ex_ret 4 (by kernel_rfl) w.heap.size _ _ _ _ _ rfl rfl (setRow_heap _ _ _ _ _ _ hz3) (HO.out _)
end Go.Proofs.YtgfjbcdjpkcbkaaGreatDoor

/- What term comes to, where factor comes to what it should. -/
namespace Go.Proofs.YtgfjbcdjpkcbkaaGreatDoor
open Go.RowKit Lx
variable {all : List Tk} {E g : Nat} {v : Value} {w : World} {i n : Nat}
structure Fs18 (l : List Value) where
  (u0 u1 u2 u3 u4 u5 u6 u7 u8 u9 u10 u11 u12 u13 u14 u15 u16 u17 : Value)
  eq : l = [u0, u1, u2, u3, u4, u5, u6, u7, u8, u9, u10, u11, u12, u13, u14, u15, u16, u17]
set_option maxRecDepth 100000 in
theorem fs18 (l : List Value) (hl : l.length = 18) : Nonempty (Fs18 l) := allL 18 (fun l => Nonempty (Fs18 l)) (fun u0 u1 u2 u3 u4 u5 u6 u7 u8 u9 u10 u11 u12 u13 u14 u15 u16 u17 => ⟨⟨u0, u1, u2, u3, u4, u5, u6, u7, u8, u9, u10, u11, u12, u13, u14, u15, u16, u17, rfl⟩⟩) l hl
def psp (g : Nat) (d : Nat) (V : Value) (B : Nat → Prop) (t e6 : Ex) (q : Nat) (x : Value) (W : World) : Prop := match q with
  | 0 => x = .pointer (some ⟨g, 0, none⟩)
  | 1 => x = V
  | 2 => x = .pointer (some ⟨g, 0, none⟩)
  | 3 => x = .int .i64 (d : Int)
  | 4 => ∃ (p : Option Addr) (c dd : Nat), x = exV t (.slice p t.kids.length c) ∧ KidsAt B dd W (.slice p t.kids.length c) t.kids
  | 5 => ∃ (p : Option Addr) (c dd : Nat), x = exV e6 (.slice p e6.kids.length c) ∧ KidsAt B dd W (.slice p e6.kids.length c) e6.kids
  | _ => True
theorem psp_kept {B : Nat → Prop} {d : Nat} {V : Value} {t e6 : Ex} {W W' : World} (hk : ∀ k, B k → k < W.heap.size → W'.heap[k]? = W.heap[k]?) : ∀ (q : Nat) (x : Value), psp g d V B t e6 q x W → psp g d V B t e6 q x W'
  | 0, _, h => h
  | 1, _, h => h
  | 2, _, h => h
  | 3, _, h => h
  | 4, _, h => by
    obtain ⟨p, c, dd, h1, h2⟩ := h
    exact ⟨p, c, dd, h1, h2.kept hk⟩
  | 5, _, h => by
    obtain ⟨p, c, dd, h1, h2⟩ := h
    exact ⟨p, c, dd, h1, h2.kept hk⟩
  | _ + 6, _, _ => trivial
structure PJ (all : List Tk) (E g : Nat) (v : Value) (w w3 : World) (b : Nat) (rr : List Tk) (n1 : Nat) (e6 : Ex) (L : Nat → Bool) (W : World) : Prop where
  d5 : L 5 = true → L 1 = true ∧ L 4 = true
  d6 : L 6 = true → L 5 = true
  none4 : L 4 = false → W.heap = w3.heap
  kept : L 6 = false → Kept g w3 W
  read : L 4 = true → L 5 = false → ∃ i, rr = all.drop i ∧ PSt all E g v W i n1 ∧ n1 ≤ 600
  both : L 5 = true → L 6 = false → ∃ i, rr = all.drop i ∧ PSt all E g v W i (n1 + 1) ∧ n1 + 1 ≤ 600
  done : L 6 = true → n1 + 1 ≤ 600 ∧ VarE w W b e6 ∧ Kept g w W ∧ W.heap[w.heap.size]? = some (.cells ex0C 31 (0, 0)) ∧ ∃ i, rr = all.drop i ∧ PSt all E g v W i (n1 + 1)
theorem PJ.quiet {w w3 W : World} {b n1 k : Nat} {rr : List Tk} {e6 : Ex} {L : Nat → Bool} (h : PJ all E g v w w3 b rr n1 e6 L W) (h4 : k ≠ 4) (h5 : k ≠ 5) (h6 : k ≠ 6) : PJ all E g v w w3 b rr n1 e6 (fun q => decide (k = q) || L q) W := by
  have e4 : (decide (k = 4) || L 4) = L 4 := by simp [h4]
  have e5 : (decide (k = 5) || L 5) = L 5 := by simp [h5]
  have e6 : (decide (k = 6) || L 6) = L 6 := by simp [h6]
  refine ⟨fun q => ?_, fun q => ?_, fun q => ?_, fun q => ?_, fun q q' => ?_, fun q q' => ?_, fun q => ?_⟩ <;> simp only [e4, e5, e6] at *
  · exact ⟨by simp [(h.d5 q).1], (h.d5 q).2⟩
  · exact h.d6 q
  · exact h.none4 q
  · exact h.kept q
  · exact h.read q q'
  · exact h.both q q'
  · exact h.done q
theorem gdv {A : Act} {s : Nat} {x : Value} (h : A.tmps.getD s undef = x) : A.tmps[s]?.getD undef = x := (gd A s).trans h
set_option maxRecDepth 100000 in
set_option maxHeartbeats 8000000 in
theorem term_step (h0 : PS0 all E g v) (hF0 : RC all E g v 98 4 i) (hF : ∀ j, i < j → RC all E g v 98 4 j) : RC all E g v 89 2 i := by
  intro w n d h hn6 hd41
  have hgl := lt_of_block h.blk
  have hb0 : Below w.heap.size w (w.alloc (.cells #[.int .i64 0, .int .i64 0, .int .i64 0, .string ⟨#[]⟩, .slice none 0 0] 31)) := (Below.refl _ _).alloc (Nat.le_refl _) _
  have hz := zero_new w
  have hS0 := h.below hb0 h0
  have hkA := Kept.of_below (g := g) hb0
  have hszA : (w.alloc (.cells #[.int .i64 0, .int .i64 0, .int .i64 0, .string ⟨#[]⟩, .slice none 0 0] 31)).heap.size = w.heap.size + 1 := by simp
  generalize hwA : w.alloc (.cells #[.int .i64 0, .int .i64 0, .int .i64 0, .string ⟨#[]⟩, .slice none 0 0] 31) = w0 at *
  have c1 := hF0 w0 n d hS0 hn6 hd41
  generalize hXd : rd E 2 d ex0 (all.drop i) n = X
  rw [rd_2] at hXd
  go_enter Tryz.func89, Tryz.ntmps89
  go_wp2_with fail
  refine c1.mono ?_
  intro e w1 ho
  cases hx : rd E 4 d ex0 (all.drop i) n with
  | error q =>
    obtain ⟨er, at_⟩ := q
    rw [hx] at ho hXd
    obtain ⟨rfl, hk1⟩ := ho
    refine ⟨rfl, ?_⟩
    rw [← hXd]
    exact ⟨rfl, hkA.trans hk1⟩
  | ok q =>
    obtain ⟨e0, rr0, n0⟩ := q
    have hlen0 := rd_len (by omega) hx
    rw [hx] at ho hXd
    obtain ⟨i1, sl, dd, hr', rfl, hkd, h1, hn1, hk1⟩ := ho
    subst hr'
    obtain ⟨p1, q1, rfl⟩ := hkd.form
    have hX1 : rd E 3 d e0 (all.drop i1) n0 = X := hXd
    have hii1 : i < i1 := by
      have e1 : eats 4 = 1 := rfl
      simp only [List.length_drop] at hlen0
      have := h1.le
      omega
    have hs1 := hk1.size
    have hz1 := hk1.at hz (by omega)
    have hb2 : Below w1.heap.size w1 (w1.alloc (.cells #[.int .i64 e0.kind, .int .i64 e0.a, .int .i64 e0.b, .string ⟨e0.name.toArray⟩, .slice p1 e0.kids.length q1] 31)) := (Below.refl _ _).alloc (Nat.le_refl _) _
    have h2 := h1.below hb2 h0
    have hz2 := (hb2.block _ (lt_of_block hz1)).trans hz1
    have hkw2 := (hkA.trans hk1).trans (Kept.of_below hb2)
    have hv2 : VarE w (w1.alloc (.cells #[.int .i64 e0.kind, .int .i64 e0.a, .int .i64 e0.b, .string ⟨e0.name.toArray⟩, .slice p1 e0.kids.length q1] 31)) w1.heap.size e0 :=
      ⟨p1, q1, dd, heap_alloc_new w1 _, (Kept.of_below (g := g) hb2).kids (fun k hk => by omega) (hkd.lt.mono fun k hk => by omega)⟩
    unfold exV
    have HX1 : Hid (rd E 3 d e0 (all.drop i1) n0 = X) := hX1
    clear hkd h1 hk1 hb2 hx hXd hX1 c1 hz1 hS0 hwA hz hkA hb0
    generalize hw2 : w1.alloc (.cells #[.int .i64 e0.kind, .int .i64 e0.a, .int .i64 e0.b, .string ⟨e0.name.toArray⟩, .slice p1 e0.kids.length q1] 31) = w2 at *
    go_wp2_with fail
    clear hw2
    obtain ⟨b5, hb5⟩ : ∃ b, w1.heap.size = b := ⟨_, rfl⟩
    rw [hb5] at hv2
    simp only [hb5]
    have hb5w : w.heap.size + 1 ≤ b5 := by omega
    clear hb5
    go_loopw [9] (fun _ wr => ∃ (e : Ex) (j m : Nat), rd E 3 d e (all.drop j) m = X ∧ VarE w wr b5 e ∧ PSt all E g v wr j m ∧ m ≤ 600 ∧ Kept g w wr ∧ wr.heap[w.heap.size]? = some (.cells ex0C 31 (0, 0)) ∧ i < j) (fun _ wr => all.length - posOf g wr)
    case atStart => exact ⟨e0, i1, n0, HX1.out, hv2, h2, hn1, hkw2, hz2, hii1⟩
    case round =>
      obtain ⟨e, j, m, hXr, hv, hst, hm6, hkp, hzr, hij⟩ := hrel
      clear HX1 hv2 h2 hkw2 hz2
      have hp := hst.pos
      by_cases hs : isT wAnd (all.drop j) = true
      · have hj1 := isT_len (by decide) hs
        have c2 := fun (W : World) (hW : PSt all E g v W j m) => skip_yes h0 hW wAnd (by decide) hs
        have HXX : Hid (andThen (rd E 4 d ex0 (all.drop (j + 1)) m) (fun t r n => andThen (endedP E ⟨8, 0, 0, [], [e, t]⟩ r n) fun e r n => rd E 3 d e r n) = X) := by
          show _ = _
          rw [← hXr, rd_3, if_pos hs, tail_drop]
        clear hs hXr
        go_wp2_with fail
        refine (c2 _ hst).mono ?_
        rintro e' w3 ⟨rfl, h3, hk3⟩
        have hv3 := hv.kept hk3 (by omega) hgl
        obtain ⟨pv, cv, dv, he3, hkv3⟩ := hv3.ex
        have hz3 := hk3.at hzr (by omega)
        have hkw3 := hkp.trans hk3
        have hlb := lt_of_block he3
        have hlz := lt_of_block hz3
        clear c2 hst hk3 hkp hzr hv
        go_wp2_with fail
        have cF := fun (W : World) (hW : PSt all E g v W (j + 1) m) => hF (j + 1) (by omega) W m d hW hm6 hd41
        cases hx : rd E 4 d ex0 (all.drop (j + 1)) m with
        | error q =>
          obtain ⟨er, at_⟩ := q
          have HE : Hid (X = .error (er, at_)) := by
            show _ = _
            rw [← HXX.out, hx]; rfl
          simp only [hx] at cF
          refine wp_region_flow (by kernel_rfl) (by kernel_rfl) (by kernel_rfl) (by kernel_rfl) (fun L _ W => L 4 = false ∧ L 5 = false ∧ L 6 = false ∧ W.heap = w3.heap ∧ Kept g w3 W) (fun q x W => psp g d (exV e (.slice pv e.kids.length cv)) (fun _ => True) ex0 ex0 q x W) ?_ ?_ ?_
          · intro L hL
            exact ⟨hL 4 (by decide), hL 5 (by decide), hL 6 (by decide), rfl, ⟨rfl, rfl, rfl, Nat.le_refl _, fun _ _ _ => rfl⟩⟩
          · intro q o L A W ho hLi hdep hJ hdef hkept hhas
            have HD : Hid (A.defers = []) := hdef
            clear hdef
            obtain ⟨hj4, hj5, hj6, hheap, hK⟩ := hJ
            have fin : ∀ (x : Value) (ds : Nat), q ≠ 4 → q ≠ 5 → q ≠ 6 → psp g d (exV e (.slice pv e.kids.length cv)) (fun _ => True) ex0 ex0 q x W → ∃ u, A.put (some ds) x = A.put (some ds) u ∧ (some ds ≠ none → psp g d (exV e (.slice pv e.kids.length cv)) (fun _ => True) ex0 ex0 q u W) ∧ (∀ k x', L k = true → psp g d (exV e (.slice pv e.kids.length cv)) (fun _ => True) ex0 ex0 k x' W → psp g d (exV e (.slice pv e.kids.length cv)) (fun _ => True) ex0 ex0 k x' W) ∧ ((decide (q = 4) || L 4) = false ∧ (decide (q = 5) || L 5) = false ∧ (decide (q = 6) || L 6) = false ∧ W.heap = w3.heap ∧ Kept g w3 W) := by
              intro x ds q4 q5 q6 hv
              exact ⟨x, rfl, fun _ => hv, fun _ _ _ h => h, by simp [q4, hj4], by simp [q5, hj5], by simp [q6, hj6], hheap, hK⟩
            match q, ho with
            | 0, ho =>
              cases Option.some.inj ho
              have s0 : A.tmps[0]?.getD undef = .pointer (some ⟨g, 0, none⟩) := (gd A 0).trans (hkept 0 (fun j p hp _ => nd (by kernel_rfl) j p hp))
              refine wpOp_step rfl (fun K hK' => ?_)
              go_simp
              exact hK' _ _ (fin _ 11 (by decide) (by decide) (by decide) rfl)
            | 1, ho =>
              cases Option.some.inj ho
              have s5 : A.eval (.tmp 5) = .pointer (some ⟨b5, 0, none⟩) := hkept 5 (fun j p hp _ => nd (by kernel_rfl) j p hp)
              have heW : W.heap[b5]? = some (.cells #[.int .i64 e.kind, .int .i64 e.a, .int .i64 e.b, .string ⟨e.name.toArray⟩, .slice pv e.kids.length cv] 31 (0, 0)) := by rw [hheap]; exact he3
              refine wpOp_step rfl (fun K hK' => ?_)
              show Oper.wp _ _ _ _ _ _
              refine wp_load_row 31 _ rfl _ s5 _ _ _ _ heW exprType rfl (by kernel_rfl) ?_
              exact hK' _ _ (fin _ 12 (by decide) (by decide) (by decide) rfl)
            | 2, ho =>
              cases Option.some.inj ho
              have s0 : A.tmps[0]?.getD undef = .pointer (some ⟨g, 0, none⟩) := (gd A 0).trans (hkept 0 (fun j p hp _ => nd (by kernel_rfl) j p hp))
              refine wpOp_step rfl (fun K hK' => ?_)
              go_simp
              exact hK' _ _ (fin _ 13 (by decide) (by decide) (by decide) rfl)
            | 3, ho =>
              cases Option.some.inj ho
              have s1 : A.tmps[1]?.getD undef = .int .i64 (d : Int) := (gd A 1).trans (hkept 1 (fun j p hp _ => nd (by kernel_rfl) j p hp))
              refine wpOp_step rfl (fun K hK' => ?_)
              go_simp
              exact hK' _ _ (fin _ 14 (by decide) (by decide) (by decide) rfl)
            | 4, ho =>
              cases Option.some.inj ho
              have sp : A.tmps[13]?.getD undef = .pointer (some ⟨g, 0, none⟩) := gdv (hhas 2 _ rfl (hdep ⟨2, .data⟩ (by simp) rfl) 13 rfl)
              have sd : A.tmps[14]?.getD undef = .int .i64 (d : Int) := gdv (hhas 3 _ rfl (hdep ⟨3, .data⟩ (by simp) rfl) 14 rfl)
              have hW : PSt all E g v W (j + 1) m := h3.of_kept h0 hK (by rw [hheap]; exact h3.blk) h3.le
              refine wpOp_step rfl (fun K hK' => ?_)
              go_simp
              refine (cF W hW).mono ?_
              rintro e' W' ⟨rfl, hk4⟩
              refine ⟨HD.out, ?_⟩
              rw [HE.out]
              exact ⟨rfl, (hkw3.trans hK).trans hk4⟩
            | 5, ho =>
              cases Option.some.inj ho
              have := hdep ⟨4, .data⟩ (by simp) rfl
              rw [hj4] at this; cases this
            | 6, ho =>
              cases Option.some.inj ho
              have := hdep ⟨5, .data⟩ (by simp) rfl
              rw [hj5] at this; cases this
            | k + 7, ho => simp at ho
          · intro L A W hL hJ
            have := hL 4 (by decide)
            rw [hJ.1] at this; cases this
        | ok q =>
          obtain ⟨tx, rr, n1⟩ := q
          simp only [hx] at cF
          have hXX := HXX.out
          rw [hx] at hXX
          have HY : Hid (andThen (endedP E ⟨8, 0, 0, [], [e, tx]⟩ rr n1) (fun e r n => rd E 3 d e r n) = X) := hXX
          have hlen1 := rd_len (by omega) hx
          have hBg : ∀ k, (w.heap.size + 1 ≤ k ∧ k ≠ b5) → k ≠ g := fun k hk => by omega
          clear hXX HXX
          refine wp_region_flow (by kernel_rfl) (by kernel_rfl) (by kernel_rfl) (by kernel_rfl) (fun L _ W => PJ all E g v w w3 b5 rr n1 ⟨8, 0, 0, [], [e, tx]⟩ L W) (fun q x W => psp g d (exV e (.slice pv e.kids.length cv)) (fun k => w.heap.size + 1 ≤ k ∧ k ≠ b5) tx ⟨8, 0, 0, [], [e, tx]⟩ q x W) ?_ ?_ ?_
          · intro L hL
            have l4 := hL 4 (by decide)
            have l5 := hL 5 (by decide)
            have l6 := hL 6 (by decide)
            exact ⟨fun h => (by rw [l5] at h; cases h), fun h => (by rw [l6] at h; cases h), fun _ => rfl, fun _ => ⟨rfl, rfl, rfl, Nat.le_refl _, fun _ _ _ => rfl⟩, fun h => (by rw [l4] at h; cases h), fun h => (by rw [l5] at h; cases h), fun h => (by rw [l6] at h; cases h)⟩
          · intro q o L A W ho hLi hdep hJ hdef hkept hhas
            have HD : Hid (A.defers = []) := hdef
            clear hdef
            have fin : ∀ (x : Value) (ds : Nat), q ≠ 4 → q ≠ 5 → q ≠ 6 → psp g d (exV e (.slice pv e.kids.length cv)) (fun k => w.heap.size + 1 ≤ k ∧ k ≠ b5) tx ⟨8, 0, 0, [], [e, tx]⟩ q x W → ∃ u, A.put (some ds) x = A.put (some ds) u ∧ (some ds ≠ none → psp g d (exV e (.slice pv e.kids.length cv)) (fun k => w.heap.size + 1 ≤ k ∧ k ≠ b5) tx ⟨8, 0, 0, [], [e, tx]⟩ q u W) ∧ (∀ k x', L k = true → psp g d (exV e (.slice pv e.kids.length cv)) (fun k => w.heap.size + 1 ≤ k ∧ k ≠ b5) tx ⟨8, 0, 0, [], [e, tx]⟩ k x' W → psp g d (exV e (.slice pv e.kids.length cv)) (fun k => w.heap.size + 1 ≤ k ∧ k ≠ b5) tx ⟨8, 0, 0, [], [e, tx]⟩ k x' W) ∧ PJ all E g v w w3 b5 rr n1 ⟨8, 0, 0, [], [e, tx]⟩ (fun k => decide (q = k) || L k) W := by
              intro x ds q4 q5 q6 hv
              exact ⟨x, rfl, fun _ => hv, fun _ _ _ h => h, hJ.quiet q4 q5 q6⟩
            match q, ho with
            | 0, ho =>
              cases Option.some.inj ho
              have s0 : A.tmps[0]?.getD undef = .pointer (some ⟨g, 0, none⟩) := (gd A 0).trans (hkept 0 (fun j p hp _ => nd (by kernel_rfl) j p hp))
              refine wpOp_step rfl (fun K hK' => ?_)
              go_simp
              exact hK' _ _ (fin _ 11 (by decide) (by decide) (by decide) rfl)
            | 1, ho =>
              cases Option.some.inj ho
              have l6 : L 6 = false := by
                cases h : L 6 with
                | false => rfl
                | true => rw [(hJ.d5 (hJ.d6 h)).1] at hLi; cases hLi
              have heW := (hJ.kept l6).at he3 (by omega)
              have s5 : A.eval (.tmp 5) = .pointer (some ⟨b5, 0, none⟩) := hkept 5 (fun j p hp _ => nd (by kernel_rfl) j p hp)
              refine wpOp_step rfl (fun K hK' => ?_)
              show Oper.wp _ _ _ _ _ _
              refine wp_load_row 31 _ rfl _ s5 _ _ _ _ heW exprType rfl (by kernel_rfl) ?_
              exact hK' _ _ (fin _ 12 (by decide) (by decide) (by decide) rfl)
            | 2, ho =>
              cases Option.some.inj ho
              have s0 : A.tmps[0]?.getD undef = .pointer (some ⟨g, 0, none⟩) := (gd A 0).trans (hkept 0 (fun j p hp _ => nd (by kernel_rfl) j p hp))
              refine wpOp_step rfl (fun K hK' => ?_)
              go_simp
              exact hK' _ _ (fin _ 13 (by decide) (by decide) (by decide) rfl)
            | 3, ho =>
              cases Option.some.inj ho
              have s1 : A.tmps[1]?.getD undef = .int .i64 (d : Int) := (gd A 1).trans (hkept 1 (fun j p hp _ => nd (by kernel_rfl) j p hp))
              refine wpOp_step rfl (fun K hK' => ?_)
              go_simp
              exact hK' _ _ (fin _ 14 (by decide) (by decide) (by decide) rfl)
            | 4, ho =>
              cases Option.some.inj ho
              have sp : A.tmps[13]?.getD undef = .pointer (some ⟨g, 0, none⟩) := gdv (hhas 2 _ rfl (hdep ⟨2, .data⟩ (by simp) rfl) 13 rfl)
              have sd : A.tmps[14]?.getD undef = .int .i64 (d : Int) := gdv (hhas 3 _ rfl (hdep ⟨3, .data⟩ (by simp) rfl) 14 rfl)
              have l5 : L 5 = false := by
                cases h : L 5 with
                | false => rfl
                | true => rw [(hJ.d5 h).2] at hLi; cases hLi
              have l6 : L 6 = false := by
                cases h : L 6 with
                | false => rfl
                | true => rw [hJ.d6 h] at l5; cases l5
              have hK := hJ.kept l6
              have hheap := hJ.none4 hLi
              have hW : PSt all E g v W (j + 1) m := h3.of_kept h0 hK (by rw [hheap]; exact h3.blk) h3.le
              have hsW := hK.size
              refine wpOp_step rfl (fun K hK' => ?_)
              go_simp
              refine (cF W hW).mono ?_
              intro e' W' ho'
              obtain ⟨i4, sl, d4, hr4, rfl, hkd4, h4, hn4, hk4⟩ := ho'
              obtain ⟨p4, c4, rfl⟩ := hkd4.form
              refine hK' _ _ ⟨_, rfl, fun _ => ⟨p4, c4, d4, rfl, hkd4.mono fun k hk => by omega⟩, fun k x' _ hx' => psp_kept (fun k hB hl => hk4.block k hl (fun e => hBg k hB (Option.some.inj e))) k x' hx', ?_⟩
              exact ⟨fun h => by simp [l5] at h, fun h => by simp [l6] at h, fun h => by simp at h, fun _ => hK.trans hk4, fun _ _ => ⟨i4, hr4, h4, hn4⟩, fun h => by simp [l5] at h, fun h => by simp [l6] at h⟩
            | 5, ho =>
              cases Option.some.inj ho
              have l1 := hdep ⟨1, .data⟩ (by simp) rfl
              have l4 := hdep ⟨4, .data⟩ (by simp) rfl
              have l6 : L 6 = false := by
                cases h : L 6 with
                | false => rfl
                | true => rw [hJ.d6 h] at hLi; cases hLi
              have hK := hJ.kept l6
              obtain ⟨i4, hr4, h4, hn4⟩ := hJ.read l4 hLi
              have sa : A.tmps[11]?.getD undef = .pointer (some ⟨g, 0, none⟩) := gdv (hhas 0 _ rfl (hdep ⟨0, .data⟩ (by simp) rfl) 11 rfl)
              have sv : A.tmps[12]?.getD undef = exV e (.slice pv e.kids.length cv) := gdv (hhas 1 _ rfl l1 12 rfl)
              obtain ⟨p4, c4, d4, st', hkd4⟩ := (show psp g d (exV e (.slice pv e.kids.length cv)) (fun k => w.heap.size + 1 ≤ k ∧ k ≠ b5) tx ⟨8, 0, 0, [], [e, tx]⟩ 4 (A.tmps.getD 15 undef) W from hhas 4 _ rfl l4 15 rfl)
              have st : A.tmps[15]?.getD undef = exV tx (.slice p4 tx.kids.length c4) := gdv st'
              have hsW := hK.size
              have hkvW := hK.kids hBg hkv3
              have cP := pair_any h0 h4 hn4 (fun k => w.heap.size + 1 ≤ k ∧ k ≠ b5) hBg (fun k hk => by constructor <;> omega) 8 e tx _ _ dv d4 hkvW hkd4
              refine wpOp_step rfl (fun K hK' => ?_)
              go_simp
              refine cP.mono ?_
              intro e' W' ho'
              rw [← hr4] at ho'
              by_cases hbig : 600 < n1 + 1
              · have he : endedP E ⟨8, 0, 0, [], [e, tx]⟩ rr n1 = .error (4, atP E rr) := by unfold endedP; rw [if_pos hbig]
                rw [he] at ho'
                obtain ⟨rfl, hk5⟩ := ho'
                refine ⟨HD.out, ?_⟩
                have hXY := HY.out
                rw [he] at hXY
                rw [← hXY]
                exact ⟨rfl, (hkw3.trans hK).trans hk5⟩
              · have he : endedP E ⟨8, 0, 0, [], [e, tx]⟩ rr n1 = .ok (⟨8, 0, 0, [], [e, tx]⟩, rr, n1 + 1) := by unfold endedP; rw [if_neg hbig]
                rw [he] at ho'
                obtain ⟨i5, sl, d5, hr5, rfl, hkd5, h5, hn5, hk5⟩ := ho'
                obtain ⟨p5, c5, rfl⟩ := hkd5.form
                refine hK' _ _ ⟨_, rfl, fun _ => ⟨p5, c5, d5, rfl, hkd5⟩, fun k x' _ hx' => psp_kept (fun k hB hl => hk5.block k hl (fun e => hBg k hB (Option.some.inj e))) k x' hx', ?_⟩
                exact ⟨fun _ => by simp [l1, l4], fun h => by simp [l6] at h, fun h => by simp [l4] at h, fun _ => hK.trans hk5, fun _ h => by simp at h, fun _ _ => ⟨i5, hr5, h5, hn5⟩, fun h => by simp [l6] at h⟩
            | 6, ho =>
              cases Option.some.inj ho
              have l5 := hdep ⟨5, .data⟩ (by simp) rfl
              have hK := hJ.kept hLi
              obtain ⟨i5, hr5, h5, hn5⟩ := hJ.both l5 hLi
              obtain ⟨p5, c5, d5, sr', hkd5⟩ := (show psp g d (exV e (.slice pv e.kids.length cv)) (fun k => w.heap.size + 1 ≤ k ∧ k ≠ b5) tx ⟨8, 0, 0, [], [e, tx]⟩ 5 (A.tmps.getD 16 undef) W from hhas 5 _ rfl l5 16 rfl)
              have sr : A.eval (.tmp 16) = exV ⟨8, 0, 0, [], [e, tx]⟩ (.slice p5 2 c5) := sr'
              have s5 : A.eval (.tmp 5) = .pointer (some ⟨b5, 0, none⟩) := hkept 5 (fun j p hp _ => nd (by kernel_rfl) j p hp)
              have heW := hK.at he3 (by omega)
              have hzW := hK.at hz3 (by omega)
              have hkW := hkw3.trans hK
              unfold exV at sr
              refine wpOp_step rfl (fun K hK' => ?_)
              show Oper.wp _ _ _ _ _ _
              refine wp_store_row 31 _ _ rfl _ _ s5 sr _ _ heW (by kernel_rfl) (by rfl) (by simp [Value.oneCell']) ?_
              refine hK' _ _ ⟨undef, rfl, fun h => absurd rfl h, fun k x' _ hx' => psp_kept (fun k hB _ => setRow_other _ _ _ _ hB.2) k x' hx', ?_⟩
              have hset : Kept g w (W.setRow b5 #[.int .i64 8, .int .i64 0, .int .i64 0, .string ⟨#[]⟩, .slice p5 2 c5]) := hkW.setRow (by omega) _
              exact ⟨fun _ => by simp [hJ.d5 l5], fun _ => by simp [l5], fun h => by simp [(hJ.d5 l5).2] at h, fun h => by simp at h, fun _ h => by simp [l5] at h, fun _ h => by simp at h,
                fun _ => ⟨hn5, ⟨p5, c5, d5, setRow_heap _ _ _ _ _ _ heW, hkd5.kept fun k hB _ => setRow_other _ _ _ _ hB.2⟩, hset, (setRow_other _ _ _ _ (by omega)).trans hzW, i5, hr5, h.of_kept h0 hset ((setRow_other _ _ _ _ (by omega)).trans h5.blk) h5.le⟩⟩
            | k + 7, ho => simp at ho
          · intro L A W hL hJ hdef hsize hkept hhas
            obtain ⟨hn5, hvW, hkW, hzW, i5, hr5, h5⟩ := hJ.done (hL 6 (by decide))
            have he : endedP E ⟨8, 0, 0, [], [e, tx]⟩ rr n1 = .ok (⟨8, 0, 0, [], [e, tx]⟩, rr, n1 + 1) := by unfold endedP; rw [if_neg (by omega)]
            have hXY := HY.out
            rw [he] at hXY
            have HN : Hid (rd E 3 d ⟨8, 0, 0, [], [e, tx]⟩ (all.drop i5) (n1 + 1) = X) := by
              show _ = _
              rw [← hr5]; exact hXY
            have hi5 : j < i5 := by
              rw [hr5] at hlen1
              have e1 : eats 4 = 1 := rfl
              simp only [List.length_drop] at hlen1
              have := h5.le
              omega
            obtain ⟨tt, dd'⟩ := A
            have hd' : dd' = [] := hdef
            subst hd'
            obtain ⟨q, rfl⟩ : ∃ q : List Value, tt = q.toArray := ⟨tt.toList, by simp⟩
            have hl : q.length = 18 := by
              have h : q.toArray.size = 18 := hsize
              simpa using h
            obtain ⟨⟨u0, u1, u2, u3, u4, u5, u6, u7, u8, u9, u10, u11, u12, u13, u14, u15, u16, u17, rfl⟩⟩ := fs18 q hl
            have q0 : u0 = _ := hkept 0 (nd (by kernel_rfl))
            have q1 : u1 = _ := hkept 1 (nd (by kernel_rfl))
            have q2 : u2 = _ := hkept 2 (nd (by kernel_rfl))
            have q3 : u3 = _ := hkept 3 (nd (by kernel_rfl))
            have q4 : u4 = _ := hkept 4 (nd (by kernel_rfl))
            have q5 : u5 = _ := hkept 5 (nd (by kernel_rfl))
            have q6 : u6 = _ := hkept 6 (nd (by kernel_rfl))
            have q7 : u7 = _ := hkept 7 (nd (by kernel_rfl))
            have q8 : u8 = _ := hkept 8 (nd (by kernel_rfl))
            have q9 : u9 = _ := hkept 9 (nd (by kernel_rfl))
            have q10 : u10 = _ := hkept 10 (nd (by kernel_rfl))
            have q17 : u17 = _ := hkept 17 (nd (by kernel_rfl))
            subst q0 q1 q2 q3 q4 q5 q6 q7 q8 q9 q10 q17
            clear hsize hkept hhas hL hJ hl hXY he hx hv3 hkv3 he3 hz3 h3 cF
            go_wp2_with fail
            go_roundw
            case rel =>
              have hii : i < i5 := by omega
              refine ⟨⟨8, 0, 0, [], [e, tx]⟩, i5, n1 + 1, HN.out, hvW, h5, ?_⟩
              (repeat' apply And.intro) <;> assumption
            case measure =>
              try rw [hp]
              have := h5.pos
              have := h5.le
              show all.length - posOf g _ < _
              omega
      · have hs' : isT wAnd (all.drop j) = false := by simpa using hs
        have c2 := fun (W : World) (hW : PSt all E g v W j m) => skip_no h0 hW wAnd hs'
        rw [rd_3, if_neg hs] at hXr
        clear hs hs'
        have HXr : Hid (.ok (e, all.drop j, m) = X) := hXr
        clear hXr hp
        go_wp2_with fail
        refine (c2 _ hst).mono ?_
        rintro e' w3 ⟨rfl, h3, hk3⟩
        have hv3 := hv.kept hk3 (by omega) hgl
        obtain ⟨pv, cv, dv, he3, hkv⟩ := hv3.ex
        have hz3 := hk3.at hzr (by omega)
        have hkw := hkp.trans hk3
        have HO : Hid (∀ cs, OutE all E g v w (fun k => w.heap.size ≤ k) X (.returned (exV e (.slice pv e.kids.length cv))) (w3.setRow w.heap.size cs)) := fun cs => by
          rw [← HXr.out]
          exact ⟨j, _, dv, rfl, rfl, (hkv.kept fun k hk _ => setRow_other _ _ _ _ (by omega)).mono fun k hk => by omega, h.of_kept h0 (hkw.setRow (Nat.le_refl _) cs) ((setRow_other _ _ _ _ (by omega)).trans h3.blk) h3.le, hm6, hkw.setRow (Nat.le_refl _) cs⟩
        unfold exV at HO
        clear c2 hst h3 hk3 hkp hkw hkv hv hv3 hzr HXr
        go_wp2_with (first
          | (refine wpList_load_row rfl 31 _ rfl _ rfl _ _ _ _ he3 exprType rfl (by kernel_rfl) ?_)
          | (refine wpList_store_row rfl 31 _ _ rfl _ _ rfl rfl _ _ hz3 (by kernel_rfl) (by rfl) (by simp [Value.oneCell']) ?_))
        exact ex_ret 4 (by kernel_rfl) w.heap.size _ _ _ _ _ rfl rfl (setRow_heap _ _ _ _ _ _ hz3) (HO.out _)
end Go.Proofs.YtgfjbcdjpkcbkaaGreatDoor
