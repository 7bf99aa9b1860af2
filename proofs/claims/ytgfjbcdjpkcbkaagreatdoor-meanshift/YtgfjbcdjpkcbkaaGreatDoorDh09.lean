/- What dates and weekly come to. -/
import Derived.Test.YtgfjbcdjpkcbkaaGreatDoorDh08
namespace Go.Proofs.YtgfjbcdjpkcbkaaGreatDoor
open Go.RowKit Lx
variable {all : List Tk} {E g : Nat} {v : Value} {w : World} {i n : Nat}
def datesR (E d : Nat) (r : List Tk) (n : Nat) : Res :=
  if kindP r ≠ 5 then failP E 2 r
  else if isT wTo r.tail then
    if kindP r.tail.tail ≠ 5 then failP E 2 r.tail.tail
    else if numP r.tail.tail < numP r then failP E 3 r.tail.tail
    else rd E 8 d ⟨5, numP r, numP r.tail.tail, [], []⟩ r.tail.tail.tail n
  else rd E 8 d ⟨5, numP r, numP r, [], []⟩ r.tail n
set_option maxRecDepth 100000 in
set_option maxHeartbeats 1000000 in
theorem dates_any (h0 : PS0 all E g v) (h : PSt all E g v w i n) (hn6 : n ≤ 600) (d : Nat) (hd : d ≤ 40) (hF : ∀ j, i < j → RC all E g v 98 4 j) :
    Calls Tryz.prog 105 #[.pointer (some ⟨g, 0, none⟩), .int .i64 (d : Int)] w (OutE all E g v w (fun k => w.heap.size ≤ k) (datesR E d (all.drop i) n)) := by
  have hgl := lt_of_block h.blk
  have hb0 : Below w.heap.size w (w.alloc (.cells #[.int .i64 0, .int .i64 0, .int .i64 0, .string ⟨#[]⟩, .slice none 0 0] 31)) := (Below.refl _ _).alloc (Nat.le_refl _) _
  have hz := zero_new w
  have hA := h.below hb0 h0
  have hkA := Kept.of_below (g := g) hb0
  unfold datesR failP
  simp only [tail_drop]
  generalize hwA : w.alloc (.cells #[.int .i64 0, .int .i64 0, .int .i64 0, .string ⟨#[]⟩, .slice none 0 0] 31) = wA at *
  by_cases h5 : kindP (all.drop i) = 5
  · have c1 := take_yes h0 hA 5 (by decide) h5
    rw [if_neg (by simp [h5])]
    unfold tokV at c1
    generalize numP (all.drop i) = N at *
    generalize kindP (all.drop i) = t0 at *
    clear h5
    by_cases hm : isT wTo (all.drop (i + 1)) = true
    · rw [if_pos hm]
      have c2 := fun (w1 : World) (h1 : PSt all E g v w1 (i + 1) n) => skip_yes h0 h1 wTo (by decide) hm
      clear hm
      by_cases h5 : kindP (all.drop (i + 1 + 1)) = 5
      · rw [if_neg (by simp [h5])]
        by_cases hlt : numP (all.drop (i + 1 + 1)) < N
        · rw [if_pos hlt]
          have c3 := fun (w1 : World) (h1 : PSt all E g v w1 (i + 1 + 1) n) => takeFrom_range h0 h1 5 N h5 hlt
          clear h5 hlt
          go_enter Tryz.func105, Tryz.ntmps105
          go_wp2_with fail
          refine c1.mono ?_
          rintro e w1 ⟨rfl, h1, hk1⟩
          go_wp2_with fail
          refine (c2 _ h1).mono ?_
          rintro e w2 ⟨rfl, h2, hk2⟩
          go_wp2_with fail
          refine (c3 _ h2).mono ?_
          rintro e w3 ⟨rfl, hk3⟩
          exact ⟨rfl, rfl, ((hkA.trans hk1).trans hk2).trans hk3⟩
        · rw [if_neg hlt]
          have c3 := fun (w1 : World) (h1 : PSt all E g v w1 (i + 1 + 1) n) => takeFrom_yes h0 h1 5 N (by decide) h5 hlt
          unfold tokV at c3
          generalize numP (all.drop (i + 1 + 1)) = M at *
          clear h5 hlt
          generalize hX : rd E 8 d ⟨5, N, M, [], []⟩ (all.drop (i + 1 + 1 + 1)) n = X
          have HX : Hid (rd E 8 d ⟨5, N, M, [], []⟩ (all.drop (i + 1 + 1 + 1)) n = X) := hX
          clear hX
          go_enter Tryz.func105, Tryz.ntmps105
          go_wp2_with fail
          refine c1.mono ?_
          rintro e w1 ⟨rfl, h1, hk1⟩
          go_wp2_with fail
          refine (c2 _ h1).mono ?_
          rintro e w2 ⟨rfl, h2, hk2⟩
          go_wp2_with fail
          refine (c3 _ h2).mono ?_
          rintro e w3 ⟨rfl, h3, hk3'⟩
          have hk3 := ((hkA.trans hk1).trans hk2).trans hk3'
          have hz3 := ((hk1.trans hk2).trans hk3').at hz (by omega)
          clear c1 c2 c3 h1 h2 hk1 hk2 hk3' hz hwA hA hkA hb0
          have hXX := HX.out
          rw [rd8_colon] at hXX
          go_wp2_with fail
          refine (colon_any h0 h3 hn6 d hd (hF (i + 1 + 1 + 1 + 1) (by omega))).mono ?_
          intro e w5 ho
          cases hx : colonR E d (all.drop (i + 1 + 1 + 1)) n with
          | error q =>
            obtain ⟨er, at_⟩ := q
            rw [hx] at ho
            obtain ⟨rfl, hk5⟩ := ho
            rw [hx] at hXX
            refine ⟨rfl, ?_⟩
            rw [← hXX]
            exact ⟨rfl, hk3.trans hk5⟩
          | ok q =>
            obtain ⟨kx, rr, nn⟩ := q
            rw [hx] at ho
            obtain ⟨i', bk, dd, hr', rfl, hkd, h5, hn5, hk5⟩ := ho
            subst hr'
            have hs3 := hk3.size
            have hz5 := hk5.at hz3 (by omega)
            have hl3 := lt_of_block hz3
            have c5 := ended_any h0 h5 hn5 (fun k => w.heap.size + 1 ≤ k) (fun k hk => by omega) ⟨5, N, M, [], [kx]⟩ (.slice (some ⟨bk, 0, none⟩) 1 1) dd (hkd.mono fun k hk => by omega)
            unfold exV at c5
            have hk35 := hk3.trans hk5
            rw [hx] at hXX
            rw [show endedP E ⟨5, N, M, [], [kx]⟩ (all.drop i') nn = X from hXX] at c5
            clear hkd hk5 hx h3 hz3 hk3 hXX
            go_wp2_with fail
            refine c5.mono ?_
            intro e w6 ho
            rcases out_split h h0 hk35 hz5 ho with ⟨ch, rfl, hO⟩ | ⟨a', b', c', x', p', q', r', rfl, hz6, hO⟩
            · exact ⟨rfl, hO⟩
            · clear c5 ho h5 hk35 hz5
              go_wp2_with (refine wpList_store_row rfl 31 _ _ rfl _ _ rfl rfl _ _ hz6 (by kernel_rfl) (by rfl) (by simp [Value.oneCell']) ?_)
              exact ex_ret 4 (by kernel_rfl) w.heap.size _ _ _ _ _ rfl rfl (setRow_heap _ _ _ _ _ _ hz6) (hO _)
      · rw [if_pos h5]
        have c3 := fun (w1 : World) (h1 : PSt all E g v w1 (i + 1 + 1) n) => takeFrom_kind h0 h1 5 N h5
        clear h5
        go_enter Tryz.func105, Tryz.ntmps105
        go_wp2_with fail
        refine c1.mono ?_
        rintro e w1 ⟨rfl, h1, hk1⟩
        go_wp2_with fail
        refine (c2 _ h1).mono ?_
        rintro e w2 ⟨rfl, h2, hk2⟩
        go_wp2_with fail
        refine (c3 _ h2).mono ?_
        rintro e w3 ⟨rfl, hk3⟩
        exact ⟨rfl, rfl, ((hkA.trans hk1).trans hk2).trans hk3⟩
    · have hm' : isT wTo (all.drop (i + 1)) = false := by simpa using hm
      rw [if_neg hm]
      have c2 := fun (w1 : World) (h1 : PSt all E g v w1 (i + 1) n) => skip_no h0 h1 wTo hm'
      clear hm hm'
      generalize hX : rd E 8 d ⟨5, N, N, [], []⟩ (all.drop (i + 1)) n = X
      have HX : Hid (rd E 8 d ⟨5, N, N, [], []⟩ (all.drop (i + 1)) n = X) := hX
      clear hX
      go_enter Tryz.func105, Tryz.ntmps105
      go_wp2_with fail
      refine c1.mono ?_
      rintro e w1 ⟨rfl, h1, hk1⟩
      go_wp2_with fail
      refine (c2 _ h1).mono ?_
      rintro e w3 ⟨rfl, h3, hk2⟩
      have hk3 := (hkA.trans hk1).trans hk2
      have hz3 := (hk1.trans hk2).at hz (by omega)
      clear c1 c2 h1 hk1 hk2 hz hwA hA hkA hb0
      have hXX := HX.out
      rw [rd8_colon] at hXX
      go_wp2_with fail
      refine (colon_any h0 h3 hn6 d hd (hF (i + 1 + 1) (by omega))).mono ?_
      intro e w5 ho
      cases hx : colonR E d (all.drop (i + 1)) n with
      | error q =>
        obtain ⟨er, at_⟩ := q
        rw [hx] at ho
        obtain ⟨rfl, hk5⟩ := ho
        rw [hx] at hXX
        refine ⟨rfl, ?_⟩
        rw [← hXX]
        exact ⟨rfl, hk3.trans hk5⟩
      | ok q =>
        obtain ⟨kx, rr, nn⟩ := q
        rw [hx] at ho
        obtain ⟨i', bk, dd, hr', rfl, hkd, h5, hn5, hk5⟩ := ho
        subst hr'
        have hs3 := hk3.size
        have hz5 := hk5.at hz3 (by omega)
        have hl3 := lt_of_block hz3
        have c5 := ended_any h0 h5 hn5 (fun k => w.heap.size + 1 ≤ k) (fun k hk => by omega) ⟨5, N, N, [], [kx]⟩ (.slice (some ⟨bk, 0, none⟩) 1 1) dd (hkd.mono fun k hk => by omega)
        unfold exV at c5
        have hk35 := hk3.trans hk5
        rw [hx] at hXX
        rw [show endedP E ⟨5, N, N, [], [kx]⟩ (all.drop i') nn = X from hXX] at c5
        clear hkd hk5 hx h3 hz3 hk3 hXX
        go_wp2_with fail
        refine c5.mono ?_
        intro e w6 ho
        rcases out_split h h0 hk35 hz5 ho with ⟨ch, rfl, hO⟩ | ⟨a', b', c', x', p', q', r', rfl, hz6, hO⟩
        · exact ⟨rfl, hO⟩
        · clear c5 ho h5 hk35 hz5
          go_wp2_with (refine wpList_store_row rfl 31 _ _ rfl _ _ rfl rfl _ _ hz6 (by kernel_rfl) (by rfl) (by simp [Value.oneCell']) ?_)
          exact ex_ret 4 (by kernel_rfl) w.heap.size _ _ _ _ _ rfl rfl (setRow_heap _ _ _ _ _ _ hz6) (hO _)
  · have c1 := take_no h0 hA 5 h5
    rw [if_pos h5]
    go_enter Tryz.func105, Tryz.ntmps105
    go_wp2_with fail
    refine c1.mono ?_
    rintro e w1 ⟨rfl, hk1⟩
    exact ⟨rfl, rfl, hkA.trans hk1⟩
def weekOn (E d : Nat) (a : Nat) (r : List Tk) (n : Nat) : Res := if isT wComma r then rd E 7 d ⟨0, (a : Int), 0, [], []⟩ r.tail n else rd E 8 d ⟨4, (a : Int), 0, [], []⟩ r n
theorem rd7_no (E d : Nat) (e : Ex) (r : List Tk) (n : Nat) (h : dayBit (textP r) = 0) : rd E 7 d e r n = failP E 2 r := by rw [rd_7, if_pos h]
theorem rd7_yes (E d : Nat) (e : Ex) (r : List Tk) (n : Nat) (h : dayBit (textP r) ≠ 0) : rd E 7 d e r n = weekOn E d (e.a.toNat ||| dayBit (textP r)) r.tail n := by rw [rd_7, if_neg h]; rfl
theorem day_lt (x : List UInt8) : dayBit x < 128 := by
  unfold dayBit
  repeat (split; · omega)
  omega
theorem or128 : ∀ a : Fin 128, ∀ b : Fin 128, bits BinOp.or IntKind.i64 ((a.val : Nat) : Int) ((b.val : Nat) : Int) = ((a.val ||| b.val : Nat) : Int) := by decide +kernel
theorem or_eq {a b : Nat} (ha : a < 128) (hb : b < 128) : bits BinOp.or IntKind.i64 (a : Int) (b : Int) = ((a ||| b : Nat) : Int) := or128 ⟨a, ha⟩ ⟨b, hb⟩
theorem or_lt {a b : Nat} (ha : a < 128) (hb : b < 128) : a ||| b < 128 := Nat.or_lt_two_pow (n := 7) ha hb
set_option maxRecDepth 100000 in
set_option maxHeartbeats 1000000 in
theorem weekly_any (h0 : PS0 all E g v) (h : PSt all E g v w i n) (hn6 : n ≤ 600) (d : Nat) (hd : d ≤ 40) (hF : ∀ j, i < j → RC all E g v 98 4 j) :
    Calls Tryz.prog 104 #[.pointer (some ⟨g, 0, none⟩), .int .i64 (d : Int)] w (OutE all E g v w (fun k => w.heap.size ≤ k) (rd E 7 d ex0 (all.drop i) n)) := by
  have hgl := lt_of_block h.blk
  have hb0 : Below w.heap.size w (w.alloc (.cells #[.int .i64 0, .int .i64 0, .int .i64 0, .string ⟨#[]⟩, .slice none 0 0] 31)) := (Below.refl _ _).alloc (Nat.le_refl _) _
  have hz := zero_new w
  have hA := h.below hb0 h0
  have hkA := Kept.of_below (g := g) hb0
  have hlen := h0.len
  generalize hwA : w.alloc (.cells #[.int .i64 0, .int .i64 0, .int .i64 0, .string ⟨#[]⟩, .slice none 0 0] 31) = wA at *
  have c1 := day_any h0 hA
  unfold dayX at c1
  by_cases hd0 : dayBit (textP (all.drop i)) = 0
  · rw [if_pos hd0] at c1
    rw [rd7_no _ _ _ _ _ hd0]
    go_enter Tryz.func104, Tryz.ntmps104
    go_wp2_with fail
    refine c1.mono ?_
    rintro e w1 ⟨rfl, hk1⟩
    exact ⟨rfl, rfl, hkA.trans hk1⟩
  · rw [if_neg hd0] at c1
    rw [rd7_yes _ _ _ _ _ hd0, tail_drop]
    have ha := day_lt (textP (all.drop i))
    have ez : (ex0.a.toNat ||| dayBit (textP (all.drop i))) = dayBit (textP (all.drop i)) := by show (0 ||| _) = _; exact Nat.zero_or _
    rw [ez]
    clear ez hd0
    generalize dayBit (textP (all.drop i)) = a0 at *
    generalize hX : weekOn E d a0 (all.drop (i + 1)) n = X
    go_enter Tryz.func104, Tryz.ntmps104
    go_wp2_with fail
    refine c1.mono ?_
    rintro e w1 ⟨rfl, h1, hk1⟩
    have hk1' := hkA.trans hk1
    have hz1 := hk1.at hz (by omega)
    clear c1 hk1 hkA hz hwA hA hb0
    go_wp2_with fail
    go_loopw [5] (fun q wr => ∃ (a j : Nat), q = .int .i64 (a : Int) ∧ a < 128 ∧ i < j ∧ PSt all E g v wr j n ∧ Kept g w wr ∧ wr.heap[w.heap.size]? = some (.cells ex0C 31 (0, 0)) ∧ weekOn E d a (all.drop j) n = X ∧ wr.heap[g]? = some (.cells #[v, .int .i64 (j : Int), .int .i64 (E : Int), .int .i64 (n : Int)] 87 (0, 0))) (fun _ wr => all.length - (match wr.heap[g]? with | some (.cells cs _ _) => (intOf (cs.getD 1 undef)).toNat | _ => 0))
    case atStart => exact ⟨a0, i + 1, rfl, ha, by omega, h1, hk1', hz1, hX, h1.blk⟩
    case round =>
      obtain ⟨a, j, rfl, ha, hij, hst, hkp, hzr, hXr, hblk⟩ := hrel
      clear h1 hk1' hz1 hX
      by_cases hc : isT wComma (all.drop j) = true
      · have hj1 := isT_len (by decide) hc
        have c2 := skip_yes h0 hst wComma (by decide) hc
        unfold weekOn at hXr
        rw [if_pos hc, tail_drop] at hXr
        have cd := fun (w1 : World) (h1 : PSt all E g v w1 (j + 1) n) => day_any h0 h1
        unfold dayX at cd
        clear hc
        by_cases hd0 : dayBit (textP (all.drop (j + 1))) = 0
        · rw [rd7_no _ _ _ _ _ hd0] at hXr
          have cd' := cd
          simp only [if_pos hd0] at cd'
          have HX : Hid (X = failP E 2 (all.drop (j + 1))) := hXr.symm
          clear cd hXr hblk
          go_wp2_with fail
          refine c2.mono ?_
          rintro e w2 ⟨rfl, h2, hk2⟩
          go_wp2_with fail
          refine (cd' _ h2).mono ?_
          rintro e w3 ⟨rfl, hk3⟩
          refine ⟨rfl, ?_⟩
          rw [HX.out]
          exact ⟨rfl, (hkp.trans hk2).trans hk3⟩
        · rw [rd7_yes _ _ _ _ _ hd0, tail_drop] at hXr
          have cd' := cd
          simp only [if_neg hd0] at cd'
          have hb := day_lt (textP (all.drop (j + 1)))
          have hor := or_lt ha hb
          have hj2 : j + 1 + 1 ≤ all.length := by
            have := dayBit_cons hd0
            simp at this; omega
          have hta : ((a : Int)).toNat = a := by omega
          dsimp only at hXr
          rw [hta] at hXr
          have HX : Hid (weekOn E d (a ||| dayBit (textP (all.drop (j + 1)))) (all.drop (j + 1 + 1)) n = X) := hXr
          generalize dayBit (textP (all.drop (j + 1))) = b at *
          clear cd hXr hd0 hta
          go_wp2_with fail
          refine c2.mono ?_
          rintro e w2 ⟨rfl, h2, hk2⟩
          go_wp2_with fail
          refine (cd' _ h2).mono ?_
          rintro e w3 ⟨rfl, h3, hk3⟩
          have hz3 := (hk2.trans hk3).at hzr (by omega)
          have hk' := (hkp.trans hk2).trans hk3
          go_wp2_with fail
          go_roundw
          case rel => exact ⟨a ||| b, j + 1 + 1, by rw [or_eq ha hb], hor, by omega, h3, hk', hz3, HX.out, h3.blk⟩
          case measure =>
            rw [h3.blk, hblk]
            simp [intOf]; omega
      · have hc' : isT wComma (all.drop j) = false := by simpa using hc
        have c2 := skip_no h0 hst wComma hc'
        unfold weekOn at hXr
        rw [if_neg hc] at hXr
        have HX : Hid (rd E 8 d ⟨4, (a : Int), 0, [], []⟩ (all.drop j) n = X) := hXr
        clear hc hc' hXr hblk
        go_wp2_with fail
        refine c2.mono ?_
        rintro e w3 ⟨rfl, h3, hk2⟩
        have hk3 := hkp.trans hk2
        have hz3 := hk2.at hzr (by omega)
        clear c2 hst hkp hzr hk2
        have hXX := HX.out
        rw [rd8_colon] at hXX
        go_wp2_with fail
        refine (colon_any h0 h3 hn6 d hd (hF (j + 1) (by omega))).mono ?_
        intro e w5 ho
        cases hx : colonR E d (all.drop (j)) n with
        | error q =>
          obtain ⟨er, at_⟩ := q
          rw [hx] at ho
          obtain ⟨rfl, hk5⟩ := ho
          rw [hx] at hXX
          refine ⟨rfl, ?_⟩
          rw [← hXX]
          exact ⟨rfl, hk3.trans hk5⟩
        | ok q =>
          obtain ⟨kx, rr, nn⟩ := q
          rw [hx] at ho
          obtain ⟨i', bk, dd, hr', rfl, hkd, h5, hn5, hk5⟩ := ho
          subst hr'
          have hs3 := hk3.size
          have hz5 := hk5.at hz3 (by omega)
          have hl3 := lt_of_block hz3
          have c5 := ended_any h0 h5 hn5 (fun k => w.heap.size + 1 ≤ k) (fun k hk => by omega) ⟨4, (a : Int), 0, [], [kx]⟩ (.slice (some ⟨bk, 0, none⟩) 1 1) dd (hkd.mono fun k hk => by omega)
          unfold exV at c5
          have hk35 := hk3.trans hk5
          rw [hx] at hXX
          rw [show endedP E ⟨4, (a : Int), 0, [], [kx]⟩ (all.drop i') nn = X from hXX] at c5
          clear hkd hk5 hx h3 hz3 hk3 hXX
          go_wp2_with fail
          refine c5.mono ?_
          intro e w6 ho
          rcases out_split h h0 hk35 hz5 ho with ⟨ch, rfl, hO⟩ | ⟨a', b', c', x', p', q', r', rfl, hz6, hO⟩
          · exact ⟨rfl, hO⟩
          · clear c5 ho h5 hk35 hz5
            go_wp2_with (refine wpList_store_row rfl 31 _ _ rfl _ _ rfl rfl _ _ hz6 (by kernel_rfl) (by rfl) (by simp [Value.oneCell']) ?_)
            exact ex_ret 4 (by kernel_rfl) w.heap.size _ _ _ _ _ rfl rfl (setRow_heap _ _ _ _ _ _ hz6) (hO _)
end Go.Proofs.YtgfjbcdjpkcbkaaGreatDoor

/- What thing comes to, where what it calls comes to what it should. -/
namespace Go.Proofs.YtgfjbcdjpkcbkaaGreatDoor
open Go.RowKit Lx
variable {all : List Tk} {E g : Nat} {v : Value} {w : World} {i n : Nat}
set_option maxRecDepth 100000 in
set_option maxHeartbeats 4000000 in
theorem thing_step (h0 : PS0 all E g v) (hS : ∀ j, i < j → RC all E g v 76 0 j) (hF : ∀ j, i < j → RC all E g v 98 4 j) : RC all E g v 102 6 i := by
  intro w n d h hn6 hd41
  have hgl := lt_of_block h.blk
  have hb0 : Below w.heap.size w (w.alloc (.cells #[.int .i64 0, .int .i64 0, .int .i64 0, .string ⟨#[]⟩, .slice none 0 0] 31)) := (Below.refl _ _).alloc (Nat.le_refl _) _
  have hz := zero_new w
  have hS0 := h.below hb0 h0
  have hkA := Kept.of_below (g := g) hb0
  generalize hwA : w.alloc (.cells #[.int .i64 0, .int .i64 0, .int .i64 0, .string ⟨#[]⟩, .slice none 0 0] 31) = w0 at *
  have hq0 := Kept.refl g w0
  by_cases h40 : 40 < d
  · have h40' : (40 : Int) < (d : Int) := by omega
    rw [rd_6, if_pos h40]
    go_enter Tryz.func102, Tryz.ntmps102
    go_wp2_with fail
    refine (fail_any h0 hS0 4).mono ?_
    rintro e w1 ⟨rfl, hb1⟩
    exact ⟨rfl, rfl, hkA.trans (Kept.of_below hb1)⟩
  have hd : d ≤ 40 := by omega
  have hd' : ¬ (40 : Int) < (d : Int) := by omega
  have hdi : (d : Int) ≤ 40 := by omega
  have hdz : (0 : Int) ≤ (d : Int) := by omega
  generalize hXd : rd E 6 d ex0 (all.drop i) n = X
  have hX : _ := hXd
  rw [rd_6, if_neg h40] at hX
  simp only [tail_drop] at hX
  clear h40 hb0 hXd
  by_cases t0 : isT wOpen (all.drop i) = true
  · rw [if_pos t0] at hX
    have HX : Hid (andThen (rd E 0 (d + 1) ex0 (all.drop (i + 1)) n) (fun e r n => if isT wShut r then .ok (e, r.tail, n) else failP E 2 r) = X) := hX
    clear hX
    go_enter Tryz.func102, Tryz.ntmps102
    go_wp2_with fail
    refine (skip_yes h0 hS0 wOpen (by decide) t0).mono ?_
    rintro e w9 ⟨rfl, hS9, kq⟩
    have hq9 := hq0.trans kq
    have hz9 := hq9.at hz (by omega)
    have hk9 := hkA.trans hq9
    have hl9 := lt_of_block hz9
    clear kq hS0
    have c9 : Calls Tryz.prog 76 #[.pointer (some ⟨g, 0, none⟩), .int .i64 ((d : Int) + 1)] w9 (OutE all E g v w9 (fun k => w9.heap.size ≤ k) (rd E 0 (d + 1) ex0 (all.drop (i + 1)) n)) := hS (i + 1) (by omega) w9 n (d + 1) hS9 hn6 (by omega)
    have hXX := HX.out
    go_wp2_with fail
    refine c9.mono ?_
    intro e w2 ho
    clear c9
    cases hx : rd E 0 (d + 1) ex0 (all.drop (i + 1)) n with
    | error q =>
      obtain ⟨er, at_⟩ := q
      rw [hx] at ho hXX
      obtain ⟨rfl, hk5⟩ := ho
      refine ⟨rfl, ?_⟩
      rw [← hXX]
      exact ⟨rfl, hk9.trans hk5⟩
    | ok q =>
      obtain ⟨ex, rr, nn⟩ := q
      rw [hx] at ho hXX
      obtain ⟨i', sl, dd, hr', rfl, hkd, h2, hn2, hk2⟩ := ho
      subst hr'
      obtain ⟨p5, c5, rfl⟩ := hkd.form
      have hz2 := hk2.at hz9 (by omega)
      have hs2 := hk2.size
      have hb3 : Below w2.heap.size w2 (w2.alloc (.cells #[.int .i64 ex.kind, .int .i64 ex.a, .int .i64 ex.b, .string ⟨ex.name.toArray⟩, .slice p5 ex.kids.length c5] 31)) := (Below.refl _ _).alloc (Nat.le_refl _) _
      have h3 := h2.below hb3 h0
      have hk3 := hk2.trans (Kept.of_below hb3)
      have he3 := heap_alloc_new w2 (.cells #[.int .i64 ex.kind, .int .i64 ex.a, .int .i64 ex.b, .string ⟨ex.name.toArray⟩, .slice p5 ex.kids.length c5] 31)
      have hkd3 : KidsAt (fun k => w.heap.size + 1 ≤ k) dd (w2.alloc (.cells #[.int .i64 ex.kind, .int .i64 ex.a, .int .i64 ex.b, .string ⟨ex.name.toArray⟩, .slice p5 ex.kids.length c5] 31)) (.slice p5 ex.kids.length c5) ex.kids := (Kept.of_below (g := g) hb3).kids (fun k hk => by omega) (hkd.mono fun k hk => by omega)
      unfold exV
      clear hkd h2 hk2 hb3 hx
      generalize hw3 : w2.alloc (.cells #[.int .i64 ex.kind, .int .i64 ex.a, .int .i64 ex.b, .string ⟨ex.name.toArray⟩, .slice p5 ex.kids.length c5] 31) = w3 at *
      by_cases hm : isT wShut (all.drop i') = true
      · have c5' := must_yes h0 h3 wShut (by decide) hm
        have HX2 : Hid (X = .ok (ex, all.drop (i' + 1), nn)) := by
          show _ = _
          rw [← hXX, ← tail_drop]
          show (if isT wShut (all.drop i') then _ else _) = _
          rw [if_pos hm]
        clear hXX hm
        go_wp2_with fail
        refine c5'.mono ?_
        rintro e w4 ⟨rfl, h4, hk4⟩
        have he4 := hk4.at he3 (by omega)
        have hz4 := (hk3.trans hk4).at hz9 (by omega)
        have hkw := (hk9.trans hk3).trans hk4
        have hkd4 := hk4.kids (fun k hk => by omega) hkd3
        have HO : Hid (∀ cs, OutE all E g v w (fun k => w.heap.size ≤ k) X (.returned (exV ex (.slice p5 ex.kids.length c5))) (w4.setRow w.heap.size cs)) := fun cs => by
          rw [HX2.out]
          exact ⟨i' + 1, _, dd, rfl, rfl, (hkd4.kept fun k hk _ => setRow_other _ _ _ _ (by omega)).mono fun k hk => by omega, h.of_kept h0 (hkw.setRow (Nat.le_refl _) cs) ((setRow_other _ _ _ _ (by omega)).trans h4.blk) h4.le, hn2, hkw.setRow (Nat.le_refl _) cs⟩
        unfold exV at HO
        clear c5' h3 h4 hk3 hk4 hkw hkd3 hkd4 he3 hz2 hw3 HX2
        go_wp2_with (first
          | (refine wpList_load_row rfl 31 _ rfl _ rfl _ _ _ _ he4 exprType rfl (by kernel_rfl) ?_)
          | (refine wpList_store_row rfl 31 _ _ rfl _ _ rfl rfl _ _ hz4 (by kernel_rfl) (by rfl) (by simp [Value.oneCell']) ?_))
        exact ex_ret 4 (by kernel_rfl) w.heap.size _ _ _ _ _ rfl rfl (setRow_heap _ _ _ _ _ _ hz4) (HO.out _)
      · have hm' : isT wShut (all.drop i') = false := by simpa using hm
        have c5' := must_no h0 h3 wShut hm'
        have HX2 : Hid (X = failP E 2 (all.drop i')) := by
          show _ = _
          rw [← hXX]
          show (if isT wShut (all.drop i') then _ else _) = _
          rw [if_neg hm]
        clear hXX hm hm'
        go_wp2_with fail
        refine c5'.mono ?_
        rintro e w4 ⟨rfl, hk4⟩
        refine ⟨rfl, ?_⟩
        rw [HX2.out]
        exact ⟨rfl, (hk9.trans hk3).trans hk4⟩
  have f0 : isT wOpen (all.drop i) = false := by simpa using t0
  rw [if_neg t0] at hX
  clear t0
  by_cases t1 : isT wNever (all.drop i) = true
  · rw [if_pos t1] at hX
    have HX : Hid (endedP E ⟨1, 0, 0, [], []⟩ (all.drop (i + 1)) n = X) := hX
    clear hX
    go_enter Tryz.func102, Tryz.ntmps102
    go_wp2_with fail
    refine (skip_no h0 hS0 wOpen f0).mono ?_
    rintro e w1 ⟨rfl, hS1, kq⟩
    have hq1 := hq0.trans kq
    clear kq hS0
    go_wp2_with fail
    refine (skip_yes h0 hS1 wNever (by decide) t1).mono ?_
    rintro e w9 ⟨rfl, hS9, kq⟩
    have hq9 := hq1.trans kq
    have hz9 := hq9.at hz (by omega)
    have hk9 := hkA.trans hq9
    have hl9 := lt_of_block hz9
    clear kq hS1
    have c9 := ended_any h0 hS9 hn6 (fun k => w.heap.size + 1 ≤ k) (fun k hk => by omega) ⟨1, 0, 0, [], []⟩ (.slice none 0 0) 0 (KidsAt.nil _ _ _ _ _)
    unfold exV at c9
    rw [show endedP E ⟨1, 0, 0, [], []⟩ (all.drop (i + 1)) n = X from HX.out] at c9
    go_wp2_with fail
    refine c9.mono ?_
    intro e w5 ho
    rcases out_split h h0 hk9 hz9 ho with ⟨ch, rfl, hO⟩ | ⟨a', b', c', x', p', q', r', rfl, hz6, hO⟩
    · exact ⟨rfl, hO⟩
    · clear ho
      go_wp2_with (refine wpList_store_row rfl 31 _ _ rfl _ _ rfl rfl _ _ hz6 (by kernel_rfl) (by rfl) (by simp [Value.oneCell']) ?_)
      exact ex_ret 4 (by kernel_rfl) w.heap.size _ _ _ _ _ rfl rfl (setRow_heap _ _ _ _ _ _ hz6) (hO _)
  have f1 : isT wNever (all.drop i) = false := by simpa using t1
  rw [if_neg t1] at hX
  clear t1
  by_cases t2 : isT wAlways (all.drop i) = true
  · rw [if_pos t2] at hX
    have HX : Hid (endedP E ⟨2, 0, 0, [], []⟩ (all.drop (i + 1)) n = X) := hX
    clear hX
    go_enter Tryz.func102, Tryz.ntmps102
    go_wp2_with fail
    refine (skip_no h0 hS0 wOpen f0).mono ?_
    rintro e w1 ⟨rfl, hS1, kq⟩
    have hq1 := hq0.trans kq
    clear kq hS0
    go_wp2_with fail
    refine (skip_no h0 hS1 wNever f1).mono ?_
    rintro e w2 ⟨rfl, hS2, kq⟩
    have hq2 := hq1.trans kq
    clear kq hS1
    go_wp2_with fail
    refine (skip_yes h0 hS2 wAlways (by decide) t2).mono ?_
    rintro e w9 ⟨rfl, hS9, kq⟩
    have hq9 := hq2.trans kq
    have hz9 := hq9.at hz (by omega)
    have hk9 := hkA.trans hq9
    have hl9 := lt_of_block hz9
    clear kq hS2
    have c9 := ended_any h0 hS9 hn6 (fun k => w.heap.size + 1 ≤ k) (fun k hk => by omega) ⟨2, 0, 0, [], []⟩ (.slice none 0 0) 0 (KidsAt.nil _ _ _ _ _)
    unfold exV at c9
    rw [show endedP E ⟨2, 0, 0, [], []⟩ (all.drop (i + 1)) n = X from HX.out] at c9
    go_wp2_with fail
    refine c9.mono ?_
    intro e w5 ho
    rcases out_split h h0 hk9 hz9 ho with ⟨ch, rfl, hO⟩ | ⟨a', b', c', x', p', q', r', rfl, hz6, hO⟩
    · exact ⟨rfl, hO⟩
    · clear ho
      go_wp2_with (refine wpList_store_row rfl 31 _ _ rfl _ _ rfl rfl _ _ hz6 (by kernel_rfl) (by rfl) (by simp [Value.oneCell']) ?_)
      exact ex_ret 4 (by kernel_rfl) w.heap.size _ _ _ _ _ rfl rfl (setRow_heap _ _ _ _ _ _ hz6) (hO _)
  have f2 : isT wAlways (all.drop i) = false := by simpa using t2
  rw [if_neg t2] at hX
  clear t2
  by_cases t3 : isT wWeekly (all.drop i) = true
  · rw [if_pos t3] at hX
    have HX : Hid (rd E 7 d ex0 (all.drop (i + 1)) n = X) := hX
    clear hX
    go_enter Tryz.func102, Tryz.ntmps102
    go_wp2_with fail
    refine (skip_no h0 hS0 wOpen f0).mono ?_
    rintro e w1 ⟨rfl, hS1, kq⟩
    have hq1 := hq0.trans kq
    clear kq hS0
    go_wp2_with fail
    refine (skip_no h0 hS1 wNever f1).mono ?_
    rintro e w2 ⟨rfl, hS2, kq⟩
    have hq2 := hq1.trans kq
    clear kq hS1
    go_wp2_with fail
    refine (skip_no h0 hS2 wAlways f2).mono ?_
    rintro e w3 ⟨rfl, hS3, kq⟩
    have hq3 := hq2.trans kq
    clear kq hS2
    go_wp2_with fail
    refine (skip_yes h0 hS3 wWeekly (by decide) t3).mono ?_
    rintro e w9 ⟨rfl, hS9, kq⟩
    have hq9 := hq3.trans kq
    have hz9 := hq9.at hz (by omega)
    have hk9 := hkA.trans hq9
    have hl9 := lt_of_block hz9
    clear kq hS3
    have c9 := weekly_any h0 hS9 hn6 d hd (fun j hj => hF j (by omega))
    rw [show rd E 7 d ex0 (all.drop (i + 1)) n = X from HX.out] at c9
    go_wp2_with fail
    refine c9.mono ?_
    intro e w4 ho'
    have ho := OutE.weak (B' := fun k => w.heap.size + 1 ≤ k) (Kept.refl g w9) (fun k hk => by omega) ho'
    clear ho'
    rcases out_split h h0 hk9 hz9 ho with ⟨ch, rfl, hO⟩ | ⟨a', b', c', x', p', q', r', rfl, hz6, hO⟩
    · exact ⟨rfl, hO⟩
    · clear ho
      go_wp2_with (refine wpList_store_row rfl 31 _ _ rfl _ _ rfl rfl _ _ hz6 (by kernel_rfl) (by rfl) (by simp [Value.oneCell']) ?_)
      exact ex_ret 4 (by kernel_rfl) w.heap.size _ _ _ _ _ rfl rfl (setRow_heap _ _ _ _ _ _ hz6) (hO _)
  have f3 : isT wWeekly (all.drop i) = false := by simpa using t3
  rw [if_neg t3] at hX
  clear t3
  by_cases t4 : isT wDates (all.drop i) = true
  · rw [if_pos t4] at hX
    have HX : Hid (datesR E d (all.drop (i + 1)) n = X) := by
      show _ = _
      rw [← hX]; unfold datesR; simp only [tail_drop]
    clear hX
    go_enter Tryz.func102, Tryz.ntmps102
    go_wp2_with fail
    refine (skip_no h0 hS0 wOpen f0).mono ?_
    rintro e w1 ⟨rfl, hS1, kq⟩
    have hq1 := hq0.trans kq
    clear kq hS0
    go_wp2_with fail
    refine (skip_no h0 hS1 wNever f1).mono ?_
    rintro e w2 ⟨rfl, hS2, kq⟩
    have hq2 := hq1.trans kq
    clear kq hS1
    go_wp2_with fail
    refine (skip_no h0 hS2 wAlways f2).mono ?_
    rintro e w3 ⟨rfl, hS3, kq⟩
    have hq3 := hq2.trans kq
    clear kq hS2
    go_wp2_with fail
    refine (skip_no h0 hS3 wWeekly f3).mono ?_
    rintro e w4 ⟨rfl, hS4, kq⟩
    have hq4 := hq3.trans kq
    clear kq hS3
    go_wp2_with fail
    refine (skip_yes h0 hS4 wDates (by decide) t4).mono ?_
    rintro e w9 ⟨rfl, hS9, kq⟩
    have hq9 := hq4.trans kq
    have hz9 := hq9.at hz (by omega)
    have hk9 := hkA.trans hq9
    have hl9 := lt_of_block hz9
    clear kq hS4
    have c9 := dates_any h0 hS9 hn6 d hd (fun j hj => hF j (by omega))
    rw [show datesR E d (all.drop (i + 1)) n = X from HX.out] at c9
    go_wp2_with fail
    refine c9.mono ?_
    intro e w4 ho'
    have ho := OutE.weak (B' := fun k => w.heap.size + 1 ≤ k) (Kept.refl g w9) (fun k hk => by omega) ho'
    clear ho'
    rcases out_split h h0 hk9 hz9 ho with ⟨ch, rfl, hO⟩ | ⟨a', b', c', x', p', q', r', rfl, hz6, hO⟩
    · exact ⟨rfl, hO⟩
    · clear ho
      go_wp2_with (refine wpList_store_row rfl 31 _ _ rfl _ _ rfl rfl _ _ hz6 (by kernel_rfl) (by rfl) (by simp [Value.oneCell']) ?_)
      exact ex_ret 4 (by kernel_rfl) w.heap.size _ _ _ _ _ rfl rfl (setRow_heap _ _ _ _ _ _ hz6) (hO _)
  have f4 : isT wDates (all.drop i) = false := by simpa using t4
  rw [if_neg t4] at hX
  clear t4
  by_cases t5 : kindP (all.drop i) = 1
  · rw [if_pos t5] at hX
    have HX : Hid (endedP E ⟨10, 0, 0, textP (all.drop i), []⟩ (all.drop (i + 1)) n = X) := hX
    clear hX
    go_enter Tryz.func102, Tryz.ntmps102
    go_wp2_with fail
    refine (skip_no h0 hS0 wOpen f0).mono ?_
    rintro e w1 ⟨rfl, hS1, kq⟩
    have hq1 := hq0.trans kq
    clear kq hS0
    go_wp2_with fail
    refine (skip_no h0 hS1 wNever f1).mono ?_
    rintro e w2 ⟨rfl, hS2, kq⟩
    have hq2 := hq1.trans kq
    clear kq hS1
    go_wp2_with fail
    refine (skip_no h0 hS2 wAlways f2).mono ?_
    rintro e w3 ⟨rfl, hS3, kq⟩
    have hq3 := hq2.trans kq
    clear kq hS2
    go_wp2_with fail
    refine (skip_no h0 hS3 wWeekly f3).mono ?_
    rintro e w4 ⟨rfl, hS4, kq⟩
    have hq4 := hq3.trans kq
    clear kq hS3
    go_wp2_with fail
    refine (skip_no h0 hS4 wDates f4).mono ?_
    rintro e w5 ⟨rfl, hS5, kq⟩
    have hq5 := hq4.trans kq
    clear kq hS4
    have cm := met_any h0 hS5
    unfold tokV at cm
    rw [t5] at cm
    go_wp2_with fail
    refine cm.mono ?_
    rintro e w6 ⟨rfl, hb6⟩
    have hS6 := hS5.below hb6 h0
    have hq6 := hq5.trans (Kept.of_below hb6)
    clear cm hS5 hb6
    have ct := take_yes h0 hS6 1 (by decide) t5
    unfold tokV at ct
    go_wp2_with fail
    refine ct.mono ?_
    rintro e w9 ⟨rfl, hS9, kq⟩
    have hq9 := hq6.trans kq
    have hz9 := hq9.at hz (by omega)
    have hk9 := hkA.trans hq9
    have c9 := ended_any h0 hS9 hn6 (fun k => w.heap.size + 1 ≤ k) (fun k hk => by omega) ⟨10, 0, 0, textP (all.drop i), []⟩ (.slice none 0 0) 0 (KidsAt.nil _ _ _ _ _)
    unfold exV at c9
    rw [show endedP E ⟨10, 0, 0, textP (all.drop i), []⟩ (all.drop (i + 1)) n = X from HX.out] at c9
    clear kq hS6 ct
    go_wp2_with fail
    refine c9.mono ?_
    intro e w5 ho
    rcases out_split h h0 hk9 hz9 ho with ⟨ch, rfl, hO⟩ | ⟨a', b', c', x', p', q', r', rfl, hz6, hO⟩
    · exact ⟨rfl, hO⟩
    · clear ho
      go_wp2_with (refine wpList_store_row rfl 31 _ _ rfl _ _ rfl rfl _ _ hz6 (by kernel_rfl) (by rfl) (by simp [Value.oneCell']) ?_)
      exact ex_ret 4 (by kernel_rfl) w.heap.size _ _ _ _ _ rfl rfl (setRow_heap _ _ _ _ _ _ hz6) (hO _)
  · rw [if_neg t5] at hX
    have HX : Hid (spanR E (all.drop i) n = X) := by
      show _ = _
      rw [← hX]; unfold spanR; simp only [tail_drop]
    clear hX
    go_enter Tryz.func102, Tryz.ntmps102
    go_wp2_with fail
    refine (skip_no h0 hS0 wOpen f0).mono ?_
    rintro e w1 ⟨rfl, hS1, kq⟩
    have hq1 := hq0.trans kq
    clear kq hS0
    go_wp2_with fail
    refine (skip_no h0 hS1 wNever f1).mono ?_
    rintro e w2 ⟨rfl, hS2, kq⟩
    have hq2 := hq1.trans kq
    clear kq hS1
    go_wp2_with fail
    refine (skip_no h0 hS2 wAlways f2).mono ?_
    rintro e w3 ⟨rfl, hS3, kq⟩
    have hq3 := hq2.trans kq
    clear kq hS2
    go_wp2_with fail
    refine (skip_no h0 hS3 wWeekly f3).mono ?_
    rintro e w4 ⟨rfl, hS4, kq⟩
    have hq4 := hq3.trans kq
    clear kq hS3
    go_wp2_with fail
    refine (skip_no h0 hS4 wDates f4).mono ?_
    rintro e w5 ⟨rfl, hS5, kq⟩
    have hq5 := hq4.trans kq
    clear kq hS4
    have cm := met_any h0 hS5
    unfold tokV at cm
    have hne : (kindP (all.drop i) == 1) = false := by simpa using t5
    generalize kindP (all.drop i) = kq0 at *
    go_wp2_with fail
    refine cm.mono ?_
    rintro e w6 ⟨rfl, hb6⟩
    have hS6 := hS5.below hb6 h0
    have hq9 := hq5.trans (Kept.of_below hb6)
    have hz9 := hq9.at hz (by omega)
    have hk9 := hkA.trans hq9
    have hl9 := lt_of_block hz9
    have c9 := span_any h0 hS6 hn6
    rw [show spanR E (all.drop i) n = X from HX.out] at c9
    clear cm hS5 hb6
    go_wp2_with fail
    refine c9.mono ?_
    intro e w4 ho'
    have ho := OutE.weak (B' := fun k => w.heap.size + 1 ≤ k) (Kept.refl g w6) (fun k hk => by omega) ho'
    clear ho'
    rcases out_split h h0 hk9 hz9 ho with ⟨ch, rfl, hO⟩ | ⟨a', b', c', x', p', q', r', rfl, hz6, hO⟩
    · exact ⟨rfl, hO⟩
    · clear ho
      go_wp2_with (refine wpList_store_row rfl 31 _ _ rfl _ _ rfl rfl _ _ hz6 (by kernel_rfl) (by rfl) (by simp [Value.oneCell']) ?_)
      exact ex_ret 4 (by kernel_rfl) w.heap.size _ _ _ _ _ rfl rfl (setRow_heap _ _ _ _ _ _ hz6) (hO _)
end Go.Proofs.YtgfjbcdjpkcbkaaGreatDoor

/- What factor comes to, where thing comes to what it should. -/
namespace Go.Proofs.YtgfjbcdjpkcbkaaGreatDoor
open Go.RowKit Lx
variable {all : List Tk} {E g : Nat} {v : Value} {w : World} {i n : Nat}
def posOf (g : Nat) (w : World) : Nat := match w.heap[g]? with
  | some (.cells cs _ _) => (intOf (cs.getD 1 undef)).toNat
  | _ => 0
theorem PSt.pos (h : PSt all E g v w i n) : posOf g w = i := by
  unfold posOf
  rw [h.blk]
  simp [intOf]
theorem shiftAt_drop (j : Nat) : shiftAt (all.drop j) = all.drop (shAt all (j + 1)) := by
  unfold shiftAt shAt
  rw [tail_drop]
  split
  · rw [tail_drop]
  · rfl
def afterShift (E d : Nat) (all : List Tk) (e : Ex) (n : Nat) : Except (Int × Nat) (Int × Nat) → Res
  | .error q => .error q
  | .ok (m, j) => andThen (endedP E ⟨9, m, 0, [], [e]⟩ (all.drop j) n) fun e r n => rd E 5 d e r n
theorem rd5_shift (d : Nat) (e : Ex) (j n : Nat) (h : isT wShift (all.drop j) = true) : rd E 5 d e (all.drop j) n = afterShift E d all e n (shiftX all E (j + 1)) := by
  rw [rd_5, if_pos h, shiftAt_drop, tail_drop]
  unfold shiftX
  split
  · rfl
  split
  · rfl
  · unfold afterShift
    rw [tail_drop]
theorem rd5_no (d : Nat) (e : Ex) (j n : Nat) (h : isT wShift (all.drop j) = false) : rd E 5 d e (all.drop j) n = .ok (e, all.drop j, n) := by
  rw [rd_5, if_neg (by simp [h])]
structure VarE (w0 w : World) (b : Nat) (e : Ex) : Prop where
  ex : ∃ (p : Option Addr) (c d : Nat), w.heap[b]? = some (.cells #[.int .i64 e.kind, .int .i64 e.a, .int .i64 e.b, .string ⟨e.name.toArray⟩, .slice p e.kids.length c] 31 (0, 0)) ∧ KidsAt (fun k => w0.heap.size + 1 ≤ k ∧ k ≠ b) d w (.slice p e.kids.length c) e.kids
theorem VarE.kept {w0 w w' : World} {b : Nat} {e : Ex} (h : VarE w0 w b e) (hk : Kept g w w') (hb : b ≠ g) (hg : g < w0.heap.size) : VarE w0 w' b e := by
  obtain ⟨p, c, d, h1, h2⟩ := h.ex
  exact ⟨p, c, d, hk.at h1 hb, hk.kids (fun k hk => by omega) h2⟩
set_option maxRecDepth 100000 in
set_option maxHeartbeats 4000000 in
theorem factor_step (h0 : PS0 all E g v) (hT : RC all E g v 102 6 i) : RC all E g v 98 4 i := by
  intro w n d h hn6 hd41
  have hgl := lt_of_block h.blk
  have hb0 : Below w.heap.size w (w.alloc (.cells #[.int .i64 0, .int .i64 0, .int .i64 0, .string ⟨#[]⟩, .slice none 0 0] 31)) := (Below.refl _ _).alloc (Nat.le_refl _) _
  have hz := zero_new w
  have hS0 := h.below hb0 h0
  have hkA := Kept.of_below (g := g) hb0
  have hszA : (w.alloc (.cells #[.int .i64 0, .int .i64 0, .int .i64 0, .string ⟨#[]⟩, .slice none 0 0] 31)).heap.size = w.heap.size + 1 := by simp
  generalize hwA : w.alloc (.cells #[.int .i64 0, .int .i64 0, .int .i64 0, .string ⟨#[]⟩, .slice none 0 0] 31) = w0 at *
  have c1 := hT w0 n d hS0 hn6 hd41
  generalize hXd : rd E 4 d ex0 (all.drop i) n = X
  rw [rd_4] at hXd
  go_enter Tryz.func98, Tryz.ntmps98
  go_wp2_with fail
  refine c1.mono ?_
  intro e w1 ho
  cases hx : rd E 6 d ex0 (all.drop i) n with
  | error q =>
    obtain ⟨er, at_⟩ := q
    rw [hx] at ho hXd
    obtain ⟨rfl, hk1⟩ := ho
    refine ⟨rfl, ?_⟩
    rw [← hXd]
    exact ⟨rfl, hkA.trans hk1⟩
  | ok q =>
    obtain ⟨e0, rr, n0⟩ := q
    rw [hx] at ho hXd
    obtain ⟨i1, sl, dd, hr', rfl, hkd, h1, hn1, hk1⟩ := ho
    subst hr'
    obtain ⟨p1, q1, rfl⟩ := hkd.form
    have hX1 : rd E 5 d e0 (all.drop i1) n0 = X := hXd
    have hs1 := hk1.size
    have hz1 := hk1.at hz (by omega)
    have hb2 : Below w1.heap.size w1 (w1.alloc (.cells #[.int .i64 e0.kind, .int .i64 e0.a, .int .i64 e0.b, .string ⟨e0.name.toArray⟩, .slice p1 e0.kids.length q1] 31)) := (Below.refl _ _).alloc (Nat.le_refl _) _
    have h2 := h1.below hb2 h0
    have hz2 := (hb2.block _ (lt_of_block hz1)).trans hz1
    have hkw2 := (hkA.trans hk1).trans (Kept.of_below hb2)
    have hv2 : VarE w (w1.alloc (.cells #[.int .i64 e0.kind, .int .i64 e0.a, .int .i64 e0.b, .string ⟨e0.name.toArray⟩, .slice p1 e0.kids.length q1] 31)) w1.heap.size e0 :=
      ⟨p1, q1, dd, heap_alloc_new w1 _, (Kept.of_below (g := g) hb2).kids (fun k hk => by omega) (hkd.lt.mono fun k hk => by omega)⟩
    unfold exV
    have HX1 : Hid (rd E 5 d e0 (all.drop i1) n0 = X) := hX1
    clear hkd h1 hk1 hb2 hx hXd hX1 c1 hz1 hS0 hwA hz hkA hb0
    generalize hw2 : w1.alloc (.cells #[.int .i64 e0.kind, .int .i64 e0.a, .int .i64 e0.b, .string ⟨e0.name.toArray⟩, .slice p1 e0.kids.length q1] 31) = w2 at *
    go_wp2_with fail
    clear hw2
    go_loopw [6] (fun _ wr => ∃ (e : Ex) (j m : Nat), rd E 5 d e (all.drop j) m = X ∧ VarE w wr w1.heap.size e ∧ PSt all E g v wr j m ∧ m ≤ 600 ∧ Kept g w wr ∧ wr.heap[w.heap.size]? = some (.cells ex0C 31 (0, 0))) (fun _ wr => all.length - posOf g wr)
    case atStart => exact ⟨e0, i1, n0, HX1.out, hv2, h2, hn1, hkw2, hz2⟩
    case round =>
      obtain ⟨e, j, m, hXr, hv, hst, hm6, hkp, hzr⟩ := hrel
      clear HX1 hv2 h2 hkw2 hz2
      have hp := hst.pos
      by_cases hs : isT wShift (all.drop j) = true
      · have hj1 := isT_len (by decide) hs
        have c2 := skip_yes h0 hst wShift (by decide) hs
        rw [rd5_shift d e j m hs] at hXr
        have c3 := fun (w1 : World) (h1 : PSt all E g v w1 (j + 1) m) => shift_any h0 h1
        have HXr : Hid (afterShift E d all e m (shiftX all E (j + 1)) = X) := hXr
        clear hs hXr
        go_wp2_with fail
        refine c2.mono ?_
        rintro e' w3 ⟨rfl, h3, hk3⟩
        go_wp2_with fail
        refine (c3 _ h3).mono ?_
        intro e' w4 ho
        cases hx : shiftX all E (j + 1) with
        | error q =>
          obtain ⟨er, at_⟩ := q
          have hXX := HXr.out
          rw [hx] at ho hXX
          obtain ⟨rfl, hk4⟩ := ho
          refine ⟨rfl, ?_⟩
          rw [← hXX]
          exact ⟨rfl, (hkp.trans hk3).trans hk4⟩
        | ok q =>
          obtain ⟨by_, j2⟩ := q
          have hXX := HXr.out
          rw [hx] at ho hXX
          obtain ⟨rfl, h4, hk4⟩ := ho
          have hj2 : j + 1 < j2 := by
            unfold shiftX at hx
            split at hx
            · cases hx
            split at hx
            · cases hx
            · cases hx
              unfold shAt
              split <;> omega
          have hk34 := hk3.trans hk4
          have hs34 := hk34.size
          have hv4 := hv.kept hk34 (by omega) hgl
          obtain ⟨pv, cv, dv, he4, hkv⟩ := hv4.ex
          have hz4 := hk34.at hzr (by omega)
          have hlz := lt_of_block hz4
          have hle := lt_of_block he4
          have hb5 : Below w4.heap.size w4 (w4.alloc (.cells #[.int .i64 e.kind, .int .i64 e.a, .int .i64 e.b, .string ⟨e.name.toArray⟩, .slice pv e.kids.length cv] 31)) := (Below.refl _ _).alloc (Nat.le_refl _) _
          have kk := kids_one (B := fun k => w.heap.size + 1 ≤ k ∧ k ≠ w1.heap.size) (by constructor <;> omega) (heap_alloc_new w4 (.cells #[.int .i64 e.kind, .int .i64 e.a, .int .i64 e.b, .string ⟨e.name.toArray⟩, .slice pv e.kids.length cv] 31)) ((Kept.of_below (g := g) hb5).kids (fun k hk => by omega) hkv)
          have h5 := h4.below hb5 h0
          have he5 := (hb5.block _ hle).trans he4
          have hz5 := (hb5.block _ hlz).trans hz4
          have hk5 := ((hkp.trans hk3).trans hk4).trans (Kept.of_below hb5)
          have c6 := ended_any h0 h5 hm6 (fun k => w.heap.size + 1 ≤ k ∧ k ≠ w1.heap.size) (fun k hk => by omega) ⟨9, by_, 0, [], [e]⟩ _ _ kk
          unfold exV at c6
          have HXX : Hid (andThen (endedP E ⟨9, by_, 0, [], [e]⟩ (all.drop j2) m) (fun e r n => rd E 5 d e r n) = X) := hXX
          clear hv hv4 hkv hb5 h3 h4 hst hk3 hk4 hk34 hkp hzr hx hXX c2 c3 HXr kk hz4
          generalize hw5 : w4.alloc (.cells #[.int .i64 e.kind, .int .i64 e.a, .int .i64 e.b, .string ⟨e.name.toArray⟩, .slice pv e.kids.length cv] 31) = w5 at *
          go_wp2_with (refine wpList_load_row rfl 31 _ rfl _ rfl _ _ _ _ he4 exprType rfl (by kernel_rfl) ?_)
          refine c6.mono ?_
          intro e' w6 ho
          cases hx : endedP E ⟨9, by_, 0, [], [e]⟩ (all.drop j2) m with
          | error q =>
            obtain ⟨er, at_⟩ := q
            have hXX := HXX.out
            rw [hx] at ho hXX
            obtain ⟨rfl, hk6⟩ := ho
            refine ⟨rfl, ?_⟩
            rw [← hXX]
            exact ⟨rfl, hk5.trans hk6⟩
          | ok q =>
            obtain ⟨e6, rr, n6⟩ := q
            have hXX := HXX.out
            rw [hx] at ho hXX
            obtain ⟨i6, sl, dd, hr', rfl, hkd, h6, hn6', hk6⟩ := ho
            have er := endedP_ok hx
            cases er
            obtain ⟨p6, q6, rfl⟩ := hkd.form
            have he6 := hk6.at he5 (by omega)
            have hz6 := hk6.at hz5 (by omega)
            have hs6 := hk6.size
            have hk56 := hk5.trans hk6
            have hsw := hk5.size
            have i6e : all.drop j2 = all.drop i6 := hr'
            have HR : Hid (∀ cs, PSt all E g v (w6.setRow w1.heap.size cs) i6 (m + 1) ∧ Kept g w (w6.setRow w1.heap.size cs) ∧ (w6.setRow w1.heap.size cs).heap[w.heap.size]? = some (.cells ex0C 31 (0, 0)) ∧ KidsAt (fun k => w.heap.size + 1 ≤ k ∧ k ≠ w1.heap.size) dd (w6.setRow w1.heap.size cs) (.slice p6 1 q6) [e]) := fun cs =>
              ⟨h.of_kept h0 (hk56.setRow (by omega) cs) ((setRow_other _ _ _ _ (by omega)).trans h6.blk) h6.le, hk56.setRow (by omega) cs, (setRow_other _ _ _ _ (by omega)).trans hz6, hkd.kept fun k hk _ => setRow_other _ _ _ _ hk.2⟩
            have HN : Hid (rd E 5 d ⟨9, by_, 0, [], [e]⟩ (all.drop i6) (m + 1) = X) := by
              show _ = _
              rw [← i6e]; exact hXX
            have hi6 : j < i6 := by
              have l1 := congrArg List.length i6e
              simp only [List.length_drop] at l1
              have := h6.le
              have := h5.le
              omega
            unfold exV
            clear hkd h5 h6 hk6 hx hXX c6 he5 hz5 hz6 hk56 i6e HXX hr' hw5
            go_wp2_with (refine wpList_store_row rfl 31 _ _ rfl _ _ rfl rfl _ _ he6 (by kernel_rfl) (by simp) (by simp [Value.oneCell']) ?_)
            obtain ⟨r1, r2, r3, r4⟩ := HR.out #[.int .i64 9, .int .i64 by_, .int .i64 0, .string ⟨#[]⟩, .slice p6 1 q6]
            go_roundw
            case rel =>
              (repeat apply Exists.intro)
              exact ⟨⟨⟨9, by_, 0, [], [e]⟩, i6, m + 1, HN.out, ⟨p6, q6, dd, setRow_heap _ _ _ _ _ _ he6, r4⟩, r1, hn6', r2, r3⟩, rfl⟩
            case measure =>
              rw [hp]
              have := r1.pos
              have := r1.le
              show all.length - posOf g _ < _
              omega
      · have hs' : isT wShift (all.drop j) = false := by simpa using hs
        have c2 := skip_no h0 hst wShift hs'
        rw [rd5_no d e j m hs'] at hXr
        have HXr : Hid (.ok (e, all.drop j, m) = X) := hXr
        clear hs hs' hXr hp
        go_wp2_with fail
        refine c2.mono ?_
        rintro e' w3 ⟨rfl, h3, hk3⟩
        have hv3 := hv.kept hk3 (by omega) hgl
        obtain ⟨pv, cv, dv, he3, hkv⟩ := hv3.ex
        have hz3 := hk3.at hzr (by omega)
        have hkw := hkp.trans hk3
        have HO : Hid (∀ cs, OutE all E g v w (fun k => w.heap.size ≤ k) X (.returned (exV e (.slice pv e.kids.length cv))) (w3.setRow w.heap.size cs)) := fun cs => by
          rw [← HXr.out]
          exact ⟨j, _, dv, rfl, rfl, (hkv.kept fun k hk _ => setRow_other _ _ _ _ (by omega)).mono fun k hk => by omega, h.of_kept h0 (hkw.setRow (Nat.le_refl _) cs) ((setRow_other _ _ _ _ (by omega)).trans h3.blk) h3.le, hm6, hkw.setRow (Nat.le_refl _) cs⟩
        unfold exV at HO
        clear c2 hst h3 hk3 hkp hkw hkv hv hv3 hzr HXr
        go_wp2_with (first
          | (refine wpList_load_row rfl 31 _ rfl _ rfl _ _ _ _ he3 exprType rfl (by kernel_rfl) ?_)
          | (refine wpList_store_row rfl 31 _ _ rfl _ _ rfl rfl _ _ hz3 (by kernel_rfl) (by rfl) (by simp [Value.oneCell']) ?_))
        exact ex_ret 4 (by kernel_rfl) w.heap.size _ _ _ _ _ rfl rfl (setRow_heap _ _ _ _ _ _ hz3) (HO.out _)
end Go.Proofs.YtgfjbcdjpkcbkaaGreatDoor
