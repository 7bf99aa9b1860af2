/- What the document's Sum comes to, where its Factor comes to what it should. -/
import Derived.Test.YtggcepicghibjacDoorPm20
namespace Go.Proofs.YtggcepicghibjacDoor
open Go.RowKit Lx
variable {all : List Tk} {E g : Nat} {v : Value} {w : World} {i n : Nat} {er at_ : Int}

/-- A contract of the document's Sum, at a place. -/
def RSum (all : List Tk) (E g : Nat) (v : Value) (hd : Int) (m i : Nat) : Prop := ∀ (w : World) (n d : Nat), WSt all E g v w i n 0 0 → n ≤ 600 → d ≤ 41 →
  Calls Tryd.prog 28 #[.pointer (some ⟨g, 0, none⟩), .int .i64 hd, .int .i64 (d : Int)] w (OutW all E g v w (fun k => w.heap.size ≤ k) (rd E m d ex0 (all.drop i) n))
theorem rd_pos {m d n j : Nat} {e e' : Ex} {n' i' : Nat} (hm : m ≤ 8) (h : rd E m d e (all.drop i) n = .ok (e', all.drop i', n')) (hi : i' ≤ all.length) (hj : j ≤ i) (hjl : i ≤ all.length) : j ≤ i' := by
  have l := rd_len hm h
  simp only [List.length_drop] at l
  omega

set_option maxRecDepth 100000 in
set_option maxHeartbeats 1000000 in
theorem rsum2_step (h0 : WS0 all E g v) (hF : RW all E g v 54 4 i) : RSum all E g v 2 4 i := by
  intro w n d h hn6 hd41
  have hgl := lt_of_block h.blk
  have hb0 : Below w.heap.size w (w.alloc (.cells #[.int .i64 0, .int .i64 0, .int .i64 0, .string ⟨#[]⟩, .slice none 0 0] 60)) := (Below.refl _ _).alloc (Nat.le_refl _) _
  have hz := zero_new w
  have hA := h.below hb0 h0
  have hkA := Kept.of_below (g := g) hb0
  have hszA : (w.alloc (.cells #[.int .i64 0, .int .i64 0, .int .i64 0, .string ⟨#[]⟩, .slice none 0 0] 60)).heap.size = w.heap.size + 1 := by simp
  generalize hwA : w.alloc (.cells #[.int .i64 0, .int .i64 0, .int .i64 0, .string ⟨#[]⟩, .slice none 0 0] 60) = wA at *
  have c1 := hF wA n d hA hn6 hd41
  go_enter Tryd.func28, Tryd.ntmps28
  go_wp2_with fail
  refine c1.mono ?_
  intro e w1 ho
  obtain ⟨a, b, c, x, p, q, r, rfl, hz7, HO⟩ := outW_split h h0 hkA hz (Nat.le_refl _) (fun k hk => ⟨by omega, by omega⟩) ho
  clear ho c1 hz hkA hA h hwA hb0
  go_wp2_with (refine wpList_store_row rfl 60 _ _ rfl _ _ rfl rfl _ _ hz7 (by kernel_rfl) (by rfl) (by simp [Value.oneCell']) ?_)
  exact ex_ret 6 (by kernel_rfl) w.heap.size _ _ _ _ _ rfl rfl (setRow_heap _ _ _ _ _ _ hz7) (HO _)

set_option maxRecDepth 100000 in
set_option maxHeartbeats 8000000 in
theorem rsum1_step (h0 : WS0 all E g v) (hF0 : RSum all E g v 2 4 i) (hF : ∀ j, i < j → RSum all E g v 2 4 j) : RSum all E g v 1 2 i := by
  intro w n d h hn6 hd41
  have hgl := lt_of_block h.blk
  have hil := h.le
  have hlen := h0.len
  have hb0 : Below w.heap.size w (w.alloc (.cells #[.int .i64 0, .int .i64 0, .int .i64 0, .string ⟨#[]⟩, .slice none 0 0] 60)) := (Below.refl _ _).alloc (Nat.le_refl _) _
  have hz := zero_new w
  have hS0 := h.below hb0 h0
  have hkA := Kept.of_below (g := g) hb0
  have hszA : (w.alloc (.cells #[.int .i64 0, .int .i64 0, .int .i64 0, .string ⟨#[]⟩, .slice none 0 0] 60)).heap.size = w.heap.size + 1 := by simp
  generalize hwA : w.alloc (.cells #[.int .i64 0, .int .i64 0, .int .i64 0, .string ⟨#[]⟩, .slice none 0 0] 60) = w0 at *
  have c1 := hF0 w0 n d hS0 hn6 hd41
  generalize hXd : rd E 2 d ex0 (all.drop i) n = X
  rw [rd_2] at hXd
  go_enter Tryd.func28, Tryd.ntmps28
  go_wp2_with fail
  refine c1.mono ?_
  intro e w1 ho
  have ho' : ∃ (a b c : Int) (x : ByteArray) (p : Option Addr) (q r : Nat), e = .returned (.agg #[.int .i64 a, .int .i64 b, .int .i64 c, .string x, .slice p q r]) ∧ w.heap.size + 1 ≤ w1.heap.size ∧ LoopW all E g v w w1.heap.size i X (fun e r n => rd E 3 d e r n) (w1.alloc (.cells #[.int .i64 a, .int .i64 b, .int .i64 c, .string x, .slice p q r] 60)) := by
    cases hx : rd E 4 d ex0 (all.drop i) n with
    | error q =>
      obtain ⟨er, at'⟩ := q
      rw [hx] at ho hXd
      obtain ⟨hne, ⟨a, b, c, x, p, q, r, rfl⟩, ⟨i1, n1, h1⟩, hk1⟩ := ho
      have hz1 := hk1.at hz (by omega)
      have hs1 := hk1.size
      have hb2 : Below w1.heap.size w1 (w1.alloc (.cells #[.int .i64 a, .int .i64 b, .int .i64 c, .string x, .slice p q r] 60)) := (Below.refl _ _).alloc (Nat.le_refl _) _
      exact ⟨a, b, c, x, p, q, r, rfl, by omega, (hkA.trans hk1).trans (Kept.of_below hb2), (hb2.block _ (lt_of_block hz1)).trans hz1, .inr ⟨er, at', i1, n1, hXd.symm, hne, h1.below hb2 h0, a, b, c, x, p, q, r, heap_alloc_new w1 _⟩⟩
    | ok q =>
      obtain ⟨e0, rr, n0⟩ := q
      rw [hx] at ho hXd
      obtain ⟨i1, sl, dd, hr', rfl, hkd, h1, hn1, hk1⟩ := ho
      subst hr'
      obtain ⟨p1, q1, rfl⟩ := hkd.form
      have hs1 := hk1.size
      have hz1 := hk1.at hz (by omega)
      have hp := rd_pos (by omega) hx h1.le (Nat.le_refl i) hil
      have hb2 : Below w1.heap.size w1 (w1.alloc (.cells #[.int .i64 e0.kind, .int .i64 e0.a, .int .i64 e0.b, .string ⟨e0.name.toArray⟩, .slice p1 e0.kids.length q1] 60)) := (Below.refl _ _).alloc (Nat.le_refl _) _
      exact ⟨e0.kind, e0.a, e0.b, _, p1, e0.kids.length, q1, rfl, by omega, (hkA.trans hk1).trans (Kept.of_below hb2), (hb2.block _ (lt_of_block hz1)).trans hz1, .inl ⟨e0, i1, n0, hp, hXd, ⟨p1, q1, dd, heap_alloc_new w1 _, (Kept.of_below (g := g) hb2).kids (fun k hk => by omega) (hkd.lt.mono fun k hk => by omega)⟩, h1.below hb2 h0, hn1⟩⟩
  obtain ⟨a, b, c, x, p, q, r, rfl, hs1, HL⟩ := ho'
  clear ho c1 hS0 hkA hb0 hXd hwA hz hF0
  have HLL : Hid (LoopW all E g v w w1.heap.size i X (fun e r n => rd E 3 d e r n) (w1.alloc (.cells #[.int .i64 a, .int .i64 b, .int .i64 c, .string x, .slice p q r] 60))) := HL
  clear HL
  generalize hw2 : w1.alloc (.cells #[.int .i64 a, .int .i64 b, .int .i64 c, .string x, .slice p q r] 60) = w2 at *
  go_wp2_with fail
  clear hw2
  go_loopw [8] (fun _ wr => LoopW all E g v w w1.heap.size i X (fun e r n => rd E 3 d e r n) wr) (fun _ wr => mzOf all.length g wr)
  case atStart => exact HLL.out
  case round =>
    clear HLL
    obtain ⟨hkp, hzr, ⟨e, j, m, hij, hXr, hv, hst, hm6⟩ | ⟨er, at', j, m, hXe, hne, hst, a, b, c, x, p, q, r, hrow⟩⟩ := hrel
    · replace hXr : rd E 3 d e (all.drop j) m = X := hXr
      rw [rd_3, tail_drop] at hXr
      have cg := good_any hst
      have hmz := hst.mz_ok all.length
      go_wp2_with fail
      refine cg.mono ?_
      rintro e' w2' ⟨rfl, hw2⟩
      subst w2'
      clear cg
      have cW := on_any h0 hst 3 wAnd
      rw [on_sign h0 (x := wAnd) (by decide) j] at cW
      by_cases hs : isT wAnd (all.drop j) = true
      · have hj1 := isT_len (by decide) hs
        rw [if_pos hs] at hXr
        rw [hs] at cW
        clear hs
        go_wp2_with fail
        refine cW.mono ?_
        rintro e' w3 ⟨rfl, hb3⟩
        have h3 := hst.below hb3 h0
        have k1 := (cell_of_row _ _ 1 _ _ _ h3.blk).trans rfl
        have y1 := frozen_of_row _ _ 1 _ _ h3.blk
        have h4 := h3.set h0 hj1
        have hk34 := (Kept.of_below (g := g) hb3).trans (Kept.set w3 g 1 (.int .i64 ((j + 1 : Nat) : Int)))
        have hv4 := hv.kept hk34 (by omega) hgl
        have hz4 := hk34.at hzr (by omega)
        have hk4 := hkp.trans hk34
        have ei : (j : Int) + 1 = ((j + 1 : Nat) : Int) := by omega
        have hj6 : (j : Int) ≤ 6000 := by omega
        clear cW hst h3 hb3 hk34 hkp hzr hv
        generalize hvv : ((j + 1 : Nat) : Int) = vv at *
        generalize hw4 : w3.setCell ⟨g, 1, none⟩ (.int .i64 vv) = w4 at *
        have c5 := hF (j + 1) (by omega) w4 m d h4 hm6 hd41
        have HX : Hid (andThen (rd E 4 d ex0 (all.drop (j + 1)) m) (fun t r n => andThen (endedP E ⟨8, 0, 0, [], [e, t]⟩ r n) fun e r n => rd E 3 d e r n) = X) := hXr
        clear hXr
        go_wp2_with fail
        refine c5.mono ?_
        intro e' w5 ho
        clear c5 hw4
        cases hx : rd E 4 d ex0 (all.drop (j + 1)) m with
        | error q =>
          obtain ⟨er, at'⟩ := q
          have hXX := HX.out
          rw [hx] at ho hXX
          obtain ⟨hne, ⟨a, b, c, x, p, q, r, rfl⟩, ⟨i5, n5, h5⟩, hk5⟩ := ho
          have hb6 : Below w5.heap.size w5 (w5.alloc (.cells #[.int .i64 a, .int .i64 b, .int .i64 c, .string x, .slice p q r] 60)) := (Below.refl _ _).alloc (Nat.le_refl _) _
          have hk46 := hk5.trans (Kept.of_below hb6)
          have h6 := h5.below hb6 h0
          have hv6 := hv4.kept hk46 (by omega) hgl
          have hz6 := hk46.at hz4 (by omega)
          have hk6 := hk4.trans hk46
          have cg := good_any h6
          rw [show (er == 0) = false by simpa using hne] at cg
          have HE : Hid (X = .error (er, at') ∧ er ≠ 0) := ⟨hXX.symm, hne⟩
          clear hx hXX hne h5 hk5 hb6 hk46 HX hv4 hz4 hk4 h4
          generalize hw6 : w5.alloc (.cells #[.int .i64 a, .int .i64 b, .int .i64 c, .string x, .slice p q r] 60) = w6 at *
          go_wp2_with fail
          refine cg.mono ?_
          rintro e' w7 ⟨rfl, hw7⟩
          subst w7
          clear hw6
          go_wp2_with fail
          obtain ⟨pv, cv, dv, he6, hkv⟩ := hv6.ex
          go_roundw
          case rel => exact ⟨hk6, hz6, .inr ⟨er, at', _, _, HE.out.1, HE.out.2, h6, _, _, _, _, _, _, _, he6⟩⟩
          case measure =>
            show mzOf _ _ _ < _
            rw [hmz, h6.mz_bad HE.out.2]
            omega
        | ok q =>
          obtain ⟨f, rr, n5⟩ := q
          have hXX := HX.out
          rw [hx] at ho hXX
          obtain ⟨i5, sl, d5, hr', rfl, hkd5, h5, hn5, hk5⟩ := ho
          subst hr'
          have hp5 := rd_pos (j := j + 1) (by omega) hx h5.le (Nat.le_refl _) h4.le
          obtain ⟨p5, q5, rfl⟩ := hkd5.form
          have hs5 := hk5.size
          have hb6 : Below w5.heap.size w5 (w5.alloc (.cells #[.int .i64 f.kind, .int .i64 f.a, .int .i64 f.b, .string ⟨f.name.toArray⟩, .slice p5 f.kids.length q5] 60)) := (Below.refl _ _).alloc (Nat.le_refl _) _
          have hf6 := heap_alloc_new w5 (.cells #[.int .i64 f.kind, .int .i64 f.a, .int .i64 f.b, .string ⟨f.name.toArray⟩, .slice p5 f.kids.length q5] 60)
          have hk46 := hk5.trans (Kept.of_below hb6)
          have h6 := h5.below hb6 h0
          have hv6 := hv4.kept hk46 (by omega) hgl
          have hz6 := hk46.at hz4 (by omega)
          have hk6 := hk4.trans hk46
          have cg := good_any h6
          obtain ⟨pv, cv, dv, he6, hkv⟩ := hv6.ex
          obtain ⟨_, _, _, he4, _⟩ := hv4.ex
          have hl4 := lt_of_block he4
          have hkf := (Kept.of_below (g := g) hb6).kids (B := fun k => w.heap.size + 1 ≤ k ∧ k ≠ w1.heap.size) (fun k hk => by omega) (hkd5.mono fun k hk => by omega)
          have HX2 : Hid (andThen (endedP E ⟨8, 0, 0, [], [e, f]⟩ (all.drop i5) n5) (fun e r n => rd E 3 d e r n) = X) := hXX
          unfold exV
          clear hx hXX h5 hk5 hb6 hk46 HX hv4 hz4 hk4 h4 hv6 hkd5 he4
          generalize hw6 : w5.alloc (.cells #[.int .i64 f.kind, .int .i64 f.a, .int .i64 f.b, .string ⟨f.name.toArray⟩, .slice p5 f.kids.length q5] 60) = w6 at *
          go_wp2_with fail
          refine cg.mono ?_
          rintro e' w7 ⟨rfl, hw7⟩
          subst w7
          clear hw6
          have hb7 : Below w6.heap.size w6 (w6.alloc (.cells #[.int .i64 e.kind, .int .i64 e.a, .int .i64 e.b, .string ⟨e.name.toArray⟩, .slice pv e.kids.length cv, .int .i64 f.kind, .int .i64 f.a, .int .i64 f.b, .string ⟨f.name.toArray⟩, .slice p5 f.kids.length q5] 60)) := (Below.refl _ _).alloc (Nat.le_refl _) _
          have kk := kids_two (B := fun k => w.heap.size + 1 ≤ k ∧ k ≠ w1.heap.size) (by have := lt_of_block he6; constructor <;> omega) (heap_alloc_new w6 (.cells #[.int .i64 e.kind, .int .i64 e.a, .int .i64 e.b, .string ⟨e.name.toArray⟩, .slice pv e.kids.length cv, .int .i64 f.kind, .int .i64 f.a, .int .i64 f.b, .string ⟨f.name.toArray⟩, .slice p5 f.kids.length q5] 60)) ((Kept.of_below (g := g) hb7).kids (fun k hk => by omega) hkv) ((Kept.of_below (g := g) hb7).kids (fun k hk => by omega) hkf)
          have h7 := h6.below hb7 h0
          have he7 := (hb7.block _ (lt_of_block he6)).trans he6
          have hz7 := (hb7.block _ (lt_of_block hz6)).trans hz6
          have hk7 := hk6.trans (Kept.of_below hb7)
          have c8 := made_any h0 h7 hn5 (fun k => w.heap.size + 1 ≤ k ∧ k ≠ w1.heap.size) (fun k hk => by omega) ⟨8, 0, 0, [], [e, f]⟩ _ _ kk
          unfold exV at c8
          clear kk hkv hkf hb7 h6 hz6 hk6 cg
          generalize hw7 : w6.alloc (.cells #[.int .i64 e.kind, .int .i64 e.a, .int .i64 e.b, .string ⟨e.name.toArray⟩, .slice pv e.kids.length cv, .int .i64 f.kind, .int .i64 f.a, .int .i64 f.b, .string ⟨f.name.toArray⟩, .slice p5 f.kids.length q5] 60) = w7 at *
          go_wp2_with (first
            | (refine wpList_load_row rfl 60 _ rfl _ rfl _ _ _ _ he6 exprType rfl (by kernel_rfl) ?_)
            | (refine wpList_load_row rfl 60 _ rfl _ rfl _ _ _ _ hf6 exprType rfl (by kernel_rfl) ?_))
          refine c8.mono ?_
          intro e' w10 ho
          clear hw7
          cases hx : endedP E ⟨8, 0, 0, [], [e, f]⟩ (all.drop i5) n5 with
          | error q =>
            obtain ⟨er, at'⟩ := q
            have hXX := HX2.out
            rw [hx] at ho hXX
            obtain ⟨hne, ⟨a, b, c, x, p, q, r, rfl⟩, ⟨i10, n10, h10⟩, hk10⟩ := ho
            have he10 := hk10.at he7 (by omega)
            have hz10 := hk10.at hz7 (by omega)
            have hk910 := hk7.trans hk10
            have HR : Hid (∀ cs, WSt all E g v (w10.setRow w1.heap.size cs) i10 n10 er at' ∧ Kept g w (w10.setRow w1.heap.size cs) ∧ (w10.setRow w1.heap.size cs).heap[w.heap.size]? = some (.cells ex0C 60 (0, 0))) := fun cs => ⟨h.row_set h0 h10 hk910 (by omega) cs, hk910.setRow (by omega) cs, (setRow_other _ _ _ _ (by omega)).trans hz10⟩
            have HE : Hid (X = .error (er, at') ∧ er ≠ 0) := ⟨hXX.symm, hne⟩
            clear hx hXX hne h10 hk10 hz10 hk910 c8 he7 hz7 hk7 h7 HX2 he6 hf6
            go_wp2_with (refine wpList_store_row rfl 60 _ _ rfl _ _ rfl rfl _ _ he10 (by kernel_rfl) (by simp) (by simp [Value.oneCell']) ?_)
            obtain ⟨r1, r2, r3⟩ := HR.out #[.int .i64 a, .int .i64 b, .int .i64 c, .string x, .slice p q r]
            go_roundw
            case rel =>
              (repeat apply Exists.intro)
              exact ⟨⟨r2, r3, .inr ⟨er, at', _, _, HE.out.1, HE.out.2, r1, _, _, _, _, _, _, _, setRow_heap _ _ _ _ _ _ he10⟩⟩, rfl⟩
            case measure =>
              show mzOf _ _ _ < _
              rw [hmz, r1.mz_bad HE.out.2]
              omega
          | ok q =>
            obtain ⟨e6, rr, n6⟩ := q
            have hXX := HX2.out
            rw [hx] at ho hXX
            obtain ⟨i10, sl, dd, hr', rfl, hkd, h10, hn10, hk10⟩ := ho
            have er := endedP_ok hx
            cases er
            obtain ⟨p6, q6, rfl⟩ := hkd.form
            have he10 := hk10.at he7 (by omega)
            have hz10 := hk10.at hz7 (by omega)
            have hk910 := hk7.trans hk10
            have i6e : all.drop i5 = all.drop i10 := hr'
            have HR : Hid (∀ cs, WSt all E g v (w10.setRow w1.heap.size cs) i10 (n5 + 1) 0 0 ∧ Kept g w (w10.setRow w1.heap.size cs) ∧ (w10.setRow w1.heap.size cs).heap[w.heap.size]? = some (.cells ex0C 60 (0, 0)) ∧ KidsAt (fun k => w.heap.size + 1 ≤ k ∧ k ≠ w1.heap.size) dd (w10.setRow w1.heap.size cs) (.slice p6 2 q6) [e, f]) := fun cs => ⟨h.row_set h0 h10 hk910 (by omega) cs, hk910.setRow (by omega) cs, (setRow_other _ _ _ _ (by omega)).trans hz10, hkd.kept fun k hk _ => setRow_other _ _ _ _ hk.2⟩
            have HE : Hid (rd E 3 d ⟨8, 0, 0, [], [e, f]⟩ (all.drop i10) (n5 + 1) = X) := by
              show _ = _
              rw [← i6e]; exact hXX
            have hi10 : j < i10 := by
              have l1 := congrArg List.length i6e
              simp only [List.length_drop] at l1
              have := h10.le
              have := h7.le
              omega
            unfold exV
            clear hx hXX h10 hk10 hz10 hk910 c8 he7 hz7 hk7 h7 HX2 hkd i6e hr' he6 hf6
            go_wp2_with (refine wpList_store_row rfl 60 _ _ rfl _ _ rfl rfl _ _ he10 (by kernel_rfl) (by simp) (by simp [Value.oneCell']) ?_)
            obtain ⟨r1, r2, r3, r4⟩ := HR.out #[.int .i64 8, .int .i64 0, .int .i64 0, .string ⟨#[]⟩, .slice p6 2 q6]
            go_roundw
            case rel =>
              (repeat apply Exists.intro)
              exact ⟨⟨r2, r3, .inl ⟨⟨8, 0, 0, [], [e, f]⟩, i10, n5 + 1, by omega, HE.out, ⟨p6, q6, dd, setRow_heap _ _ _ _ _ _ he10, r4⟩, r1, hn10⟩⟩, rfl⟩
            case measure =>
              show mzOf _ _ _ < _
              rw [hmz, r1.mz_ok]
              have := r1.le
              omega
      · have hs' : isT wAnd (all.drop j) = false := by simpa using hs
        rw [if_neg hs] at hXr
        rw [hs'] at cW
        clear hs hs'
        go_wp2_with fail
        refine cW.mono ?_
        rintro e' w3 ⟨rfl, hb3⟩
        have hst3 := hst.below hb3 h0
        have hk3 := Kept.of_below (g := g) hb3
        have hv3 := hv.kept hk3 (by omega) hgl
        have hz3 := hk3.at hzr (by omega)
        have hkw := hkp.trans hk3
        clear cW hst hk3 hkp hv hzr hb3
        have HXr : Hid (.ok (e, all.drop j, m) = X) := hXr
        obtain ⟨pv, cv, dv, he3, hkv⟩ := hv3.ex
        have HO : Hid (∀ cs, OutW all E g v w (fun k => w.heap.size ≤ k) X (.returned (exV e (.slice pv e.kids.length cv))) (w3.setRow w.heap.size cs)) := fun cs => by
          rw [← HXr.out]
          exact ⟨j, _, dv, rfl, rfl, (hkv.kept fun k hk _ => setRow_other _ _ _ _ (by omega)).mono fun k hk => by omega, h.row_set h0 hst3 hkw (Nat.le_refl _) cs, hm6, hkw.setRow (Nat.le_refl _) cs⟩
        unfold exV at HO
        clear hst3 hkw hkv hv3 HXr hXr
        go_wp2_with (first
          | (refine wpList_load_row rfl 60 _ rfl _ rfl _ _ _ _ he3 exprType rfl (by kernel_rfl) ?_)
          | (refine wpList_store_row rfl 60 _ _ rfl _ _ rfl rfl _ _ hz3 (by kernel_rfl) (by rfl) (by simp [Value.oneCell']) ?_))
        exact ex_ret 6 (by kernel_rfl) w.heap.size _ _ _ _ _ rfl rfl (setRow_heap _ _ _ _ _ _ hz3) (HO.out _)
    · have cg := good_any hst
      rw [show (er == 0) = false by simpa using hne] at cg
      have HO : Hid (∀ cs, OutW all E g v w (fun k => w.heap.size ≤ k) X (.returned (.agg #[.int .i64 a, .int .i64 b, .int .i64 c, .string x, .slice p q r])) (World.setRow _ w.heap.size cs)) := fun cs => by
        rw [hXe]
        exact ⟨hne, ⟨_, _, _, _, _, _, _, rfl⟩, ⟨j, m, h.row_set h0 hst hkp (Nat.le_refl _) cs⟩, hkp.setRow (Nat.le_refl _) cs⟩
      go_wp2_with fail
      refine cg.mono ?_
      rintro e' w3 ⟨rfl, hw3⟩
      subst w3
      clear cg hst hkp hXe hne
      go_wp2_with (first
        | (refine wpList_load_row rfl 60 _ rfl _ rfl _ _ _ _ hrow exprType rfl (by kernel_rfl) ?_)
        | (refine wpList_store_row rfl 60 _ _ rfl _ _ rfl rfl _ _ hzr (by kernel_rfl) (by rfl) (by simp [Value.oneCell']) ?_))
      exact ex_ret 6 (by kernel_rfl) w.heap.size _ _ _ _ _ rfl rfl (setRow_heap _ _ _ _ _ _ hzr) (HO.out _)

set_option maxRecDepth 100000 in
set_option maxHeartbeats 8000000 in
theorem rsum0_step (h0 : WS0 all E g v) (hF0 : RSum all E g v 1 2 i) (hF : ∀ j, i < j → RSum all E g v 1 2 j) : RSum all E g v 0 0 i := by
  intro w n d h hn6 hd41
  have hgl := lt_of_block h.blk
  have hil := h.le
  have hlen := h0.len
  have hb0 : Below w.heap.size w (w.alloc (.cells #[.int .i64 0, .int .i64 0, .int .i64 0, .string ⟨#[]⟩, .slice none 0 0] 60)) := (Below.refl _ _).alloc (Nat.le_refl _) _
  have hz := zero_new w
  have hS0 := h.below hb0 h0
  have hkA := Kept.of_below (g := g) hb0
  have hszA : (w.alloc (.cells #[.int .i64 0, .int .i64 0, .int .i64 0, .string ⟨#[]⟩, .slice none 0 0] 60)).heap.size = w.heap.size + 1 := by simp
  generalize hwA : w.alloc (.cells #[.int .i64 0, .int .i64 0, .int .i64 0, .string ⟨#[]⟩, .slice none 0 0] 60) = w0 at *
  have c1 := hF0 w0 n d hS0 hn6 hd41
  generalize hXd : rd E 0 d ex0 (all.drop i) n = X
  rw [rd_0] at hXd
  go_enter Tryd.func28, Tryd.ntmps28
  go_wp2_with fail
  refine c1.mono ?_
  intro e w1 ho
  have ho' : ∃ (a b c : Int) (x : ByteArray) (p : Option Addr) (q r : Nat), e = .returned (.agg #[.int .i64 a, .int .i64 b, .int .i64 c, .string x, .slice p q r]) ∧ w.heap.size + 1 ≤ w1.heap.size ∧ LoopW all E g v w w1.heap.size i X (fun e r n => rd E 1 d e r n) (w1.alloc (.cells #[.int .i64 a, .int .i64 b, .int .i64 c, .string x, .slice p q r] 60)) := by
    cases hx : rd E 2 d ex0 (all.drop i) n with
    | error q =>
      obtain ⟨er, at'⟩ := q
      rw [hx] at ho hXd
      obtain ⟨hne, ⟨a, b, c, x, p, q, r, rfl⟩, ⟨i1, n1, h1⟩, hk1⟩ := ho
      have hz1 := hk1.at hz (by omega)
      have hs1 := hk1.size
      have hb2 : Below w1.heap.size w1 (w1.alloc (.cells #[.int .i64 a, .int .i64 b, .int .i64 c, .string x, .slice p q r] 60)) := (Below.refl _ _).alloc (Nat.le_refl _) _
      exact ⟨a, b, c, x, p, q, r, rfl, by omega, (hkA.trans hk1).trans (Kept.of_below hb2), (hb2.block _ (lt_of_block hz1)).trans hz1, .inr ⟨er, at', i1, n1, hXd.symm, hne, h1.below hb2 h0, a, b, c, x, p, q, r, heap_alloc_new w1 _⟩⟩
    | ok q =>
      obtain ⟨e0, rr, n0⟩ := q
      rw [hx] at ho hXd
      obtain ⟨i1, sl, dd, hr', rfl, hkd, h1, hn1, hk1⟩ := ho
      subst hr'
      obtain ⟨p1, q1, rfl⟩ := hkd.form
      have hs1 := hk1.size
      have hz1 := hk1.at hz (by omega)
      have hp := rd_pos (by omega) hx h1.le (Nat.le_refl i) hil
      have hb2 : Below w1.heap.size w1 (w1.alloc (.cells #[.int .i64 e0.kind, .int .i64 e0.a, .int .i64 e0.b, .string ⟨e0.name.toArray⟩, .slice p1 e0.kids.length q1] 60)) := (Below.refl _ _).alloc (Nat.le_refl _) _
      exact ⟨e0.kind, e0.a, e0.b, _, p1, e0.kids.length, q1, rfl, by omega, (hkA.trans hk1).trans (Kept.of_below hb2), (hb2.block _ (lt_of_block hz1)).trans hz1, .inl ⟨e0, i1, n0, hp, hXd, ⟨p1, q1, dd, heap_alloc_new w1 _, (Kept.of_below (g := g) hb2).kids (fun k hk => by omega) (hkd.lt.mono fun k hk => by omega)⟩, h1.below hb2 h0, hn1⟩⟩
  obtain ⟨a, b, c, x, p, q, r, rfl, hs1, HL⟩ := ho'
  clear ho c1 hS0 hkA hb0 hXd hwA hz hF0
  have HLL : Hid (LoopW all E g v w w1.heap.size i X (fun e r n => rd E 1 d e r n) (w1.alloc (.cells #[.int .i64 a, .int .i64 b, .int .i64 c, .string x, .slice p q r] 60))) := HL
  clear HL
  generalize hw2 : w1.alloc (.cells #[.int .i64 a, .int .i64 b, .int .i64 c, .string x, .slice p q r] 60) = w2 at *
  go_wp2_with fail
  clear hw2
  go_loopw [8] (fun _ wr => LoopW all E g v w w1.heap.size i X (fun e r n => rd E 1 d e r n) wr) (fun _ wr => mzOf all.length g wr)
  case atStart => exact HLL.out
  case round =>
    clear HLL
    obtain ⟨hkp, hzr, ⟨e, j, m, hij, hXr, hv, hst, hm6⟩ | ⟨er, at', j, m, hXe, hne, hst, a, b, c, x, p, q, r, hrow⟩⟩ := hrel
    · replace hXr : rd E 1 d e (all.drop j) m = X := hXr
      rw [rd_1, tail_drop] at hXr
      have cg := good_any hst
      have hmz := hst.mz_ok all.length
      go_wp2_with fail
      refine cg.mono ?_
      rintro e' w2' ⟨rfl, hw2⟩
      subst w2'
      clear cg
      have cW := on_any h0 hst 3 wPlus
      rw [on_sign h0 (x := wPlus) (by decide) j] at cW
      by_cases hs : isT wPlus (all.drop j) = true
      · have hj1 := isT_len (by decide) hs
        rw [if_pos hs] at hXr
        rw [hs] at cW
        clear hs
        go_wp2_with fail
        refine cW.mono ?_
        rintro e' w3 ⟨rfl, hb3⟩
        have h3 := hst.below hb3 h0
        have k1 := (cell_of_row _ _ 1 _ _ _ h3.blk).trans rfl
        have y1 := frozen_of_row _ _ 1 _ _ h3.blk
        have h4 := h3.set h0 hj1
        have hk34 := (Kept.of_below (g := g) hb3).trans (Kept.set w3 g 1 (.int .i64 ((j + 1 : Nat) : Int)))
        have hv4 := hv.kept hk34 (by omega) hgl
        have hz4 := hk34.at hzr (by omega)
        have hk4 := hkp.trans hk34
        have ei : (j : Int) + 1 = ((j + 1 : Nat) : Int) := by omega
        have hj6 : (j : Int) ≤ 6000 := by omega
        clear cW hst h3 hb3 hk34 hkp hzr hv
        generalize hvv : ((j + 1 : Nat) : Int) = vv at *
        generalize hw4 : w3.setCell ⟨g, 1, none⟩ (.int .i64 vv) = w4 at *
        have c5 := hF (j + 1) (by omega) w4 m d h4 hm6 hd41
        have HX : Hid (andThen (rd E 2 d ex0 (all.drop (j + 1)) m) (fun t r n => andThen (endedP E ⟨6, 0, 0, [], [e, t]⟩ r n) fun e r n => rd E 1 d e r n) = X) := hXr
        clear hXr
        go_wp2_with fail
        refine c5.mono ?_
        intro e' w5 ho
        clear c5 hw4
        cases hx : rd E 2 d ex0 (all.drop (j + 1)) m with
        | error q =>
          obtain ⟨er, at'⟩ := q
          have hXX := HX.out
          rw [hx] at ho hXX
          obtain ⟨hne, ⟨a, b, c, x, p, q, r, rfl⟩, ⟨i5, n5, h5⟩, hk5⟩ := ho
          have hb6 : Below w5.heap.size w5 (w5.alloc (.cells #[.int .i64 a, .int .i64 b, .int .i64 c, .string x, .slice p q r] 60)) := (Below.refl _ _).alloc (Nat.le_refl _) _
          have hk46 := hk5.trans (Kept.of_below hb6)
          have h6 := h5.below hb6 h0
          have hv6 := hv4.kept hk46 (by omega) hgl
          have hz6 := hk46.at hz4 (by omega)
          have hk6 := hk4.trans hk46
          have cg := good_any h6
          rw [show (er == 0) = false by simpa using hne] at cg
          have HE : Hid (X = .error (er, at') ∧ er ≠ 0) := ⟨hXX.symm, hne⟩
          clear hx hXX hne h5 hk5 hb6 hk46 HX hv4 hz4 hk4 h4
          generalize hw6 : w5.alloc (.cells #[.int .i64 a, .int .i64 b, .int .i64 c, .string x, .slice p q r] 60) = w6 at *
          go_wp2_with fail
          refine cg.mono ?_
          rintro e' w7 ⟨rfl, hw7⟩
          subst w7
          clear hw6
          go_wp2_with fail
          obtain ⟨pv, cv, dv, he6, hkv⟩ := hv6.ex
          go_roundw
          case rel => exact ⟨hk6, hz6, .inr ⟨er, at', _, _, HE.out.1, HE.out.2, h6, _, _, _, _, _, _, _, he6⟩⟩
          case measure =>
            show mzOf _ _ _ < _
            rw [hmz, h6.mz_bad HE.out.2]
            omega
        | ok q =>
          obtain ⟨f, rr, n5⟩ := q
          have hXX := HX.out
          rw [hx] at ho hXX
          obtain ⟨i5, sl, d5, hr', rfl, hkd5, h5, hn5, hk5⟩ := ho
          subst hr'
          have hp5 := rd_pos (j := j + 1) (by omega) hx h5.le (Nat.le_refl _) h4.le
          obtain ⟨p5, q5, rfl⟩ := hkd5.form
          have hs5 := hk5.size
          have hb6 : Below w5.heap.size w5 (w5.alloc (.cells #[.int .i64 f.kind, .int .i64 f.a, .int .i64 f.b, .string ⟨f.name.toArray⟩, .slice p5 f.kids.length q5] 60)) := (Below.refl _ _).alloc (Nat.le_refl _) _
          have hf6 := heap_alloc_new w5 (.cells #[.int .i64 f.kind, .int .i64 f.a, .int .i64 f.b, .string ⟨f.name.toArray⟩, .slice p5 f.kids.length q5] 60)
          have hk46 := hk5.trans (Kept.of_below hb6)
          have h6 := h5.below hb6 h0
          have hv6 := hv4.kept hk46 (by omega) hgl
          have hz6 := hk46.at hz4 (by omega)
          have hk6 := hk4.trans hk46
          have cg := good_any h6
          obtain ⟨pv, cv, dv, he6, hkv⟩ := hv6.ex
          obtain ⟨_, _, _, he4, _⟩ := hv4.ex
          have hl4 := lt_of_block he4
          have hkf := (Kept.of_below (g := g) hb6).kids (B := fun k => w.heap.size + 1 ≤ k ∧ k ≠ w1.heap.size) (fun k hk => by omega) (hkd5.mono fun k hk => by omega)
          have HX2 : Hid (andThen (endedP E ⟨6, 0, 0, [], [e, f]⟩ (all.drop i5) n5) (fun e r n => rd E 1 d e r n) = X) := hXX
          unfold exV
          clear hx hXX h5 hk5 hb6 hk46 HX hv4 hz4 hk4 h4 hv6 hkd5 he4
          generalize hw6 : w5.alloc (.cells #[.int .i64 f.kind, .int .i64 f.a, .int .i64 f.b, .string ⟨f.name.toArray⟩, .slice p5 f.kids.length q5] 60) = w6 at *
          go_wp2_with fail
          refine cg.mono ?_
          rintro e' w7 ⟨rfl, hw7⟩
          subst w7
          clear hw6
          have hb7 : Below w6.heap.size w6 (w6.alloc (.cells #[.int .i64 e.kind, .int .i64 e.a, .int .i64 e.b, .string ⟨e.name.toArray⟩, .slice pv e.kids.length cv, .int .i64 f.kind, .int .i64 f.a, .int .i64 f.b, .string ⟨f.name.toArray⟩, .slice p5 f.kids.length q5] 60)) := (Below.refl _ _).alloc (Nat.le_refl _) _
          have kk := kids_two (B := fun k => w.heap.size + 1 ≤ k ∧ k ≠ w1.heap.size) (by have := lt_of_block he6; constructor <;> omega) (heap_alloc_new w6 (.cells #[.int .i64 e.kind, .int .i64 e.a, .int .i64 e.b, .string ⟨e.name.toArray⟩, .slice pv e.kids.length cv, .int .i64 f.kind, .int .i64 f.a, .int .i64 f.b, .string ⟨f.name.toArray⟩, .slice p5 f.kids.length q5] 60)) ((Kept.of_below (g := g) hb7).kids (fun k hk => by omega) hkv) ((Kept.of_below (g := g) hb7).kids (fun k hk => by omega) hkf)
          have h7 := h6.below hb7 h0
          have he7 := (hb7.block _ (lt_of_block he6)).trans he6
          have hz7 := (hb7.block _ (lt_of_block hz6)).trans hz6
          have hk7 := hk6.trans (Kept.of_below hb7)
          have c8 := made_any h0 h7 hn5 (fun k => w.heap.size + 1 ≤ k ∧ k ≠ w1.heap.size) (fun k hk => by omega) ⟨6, 0, 0, [], [e, f]⟩ _ _ kk
          unfold exV at c8
          clear kk hkv hkf hb7 h6 hz6 hk6 cg
          generalize hw7 : w6.alloc (.cells #[.int .i64 e.kind, .int .i64 e.a, .int .i64 e.b, .string ⟨e.name.toArray⟩, .slice pv e.kids.length cv, .int .i64 f.kind, .int .i64 f.a, .int .i64 f.b, .string ⟨f.name.toArray⟩, .slice p5 f.kids.length q5] 60) = w7 at *
          go_wp2_with (first
            | (refine wpList_load_row rfl 60 _ rfl _ rfl _ _ _ _ he6 exprType rfl (by kernel_rfl) ?_)
            | (refine wpList_load_row rfl 60 _ rfl _ rfl _ _ _ _ hf6 exprType rfl (by kernel_rfl) ?_))
          refine c8.mono ?_
          intro e' w10 ho
          clear hw7
          cases hx : endedP E ⟨6, 0, 0, [], [e, f]⟩ (all.drop i5) n5 with
          | error q =>
            obtain ⟨er, at'⟩ := q
            have hXX := HX2.out
            rw [hx] at ho hXX
            obtain ⟨hne, ⟨a, b, c, x, p, q, r, rfl⟩, ⟨i10, n10, h10⟩, hk10⟩ := ho
            have he10 := hk10.at he7 (by omega)
            have hz10 := hk10.at hz7 (by omega)
            have hk910 := hk7.trans hk10
            have HR : Hid (∀ cs, WSt all E g v (w10.setRow w1.heap.size cs) i10 n10 er at' ∧ Kept g w (w10.setRow w1.heap.size cs) ∧ (w10.setRow w1.heap.size cs).heap[w.heap.size]? = some (.cells ex0C 60 (0, 0))) := fun cs => ⟨h.row_set h0 h10 hk910 (by omega) cs, hk910.setRow (by omega) cs, (setRow_other _ _ _ _ (by omega)).trans hz10⟩
            have HE : Hid (X = .error (er, at') ∧ er ≠ 0) := ⟨hXX.symm, hne⟩
            clear hx hXX hne h10 hk10 hz10 hk910 c8 he7 hz7 hk7 h7 HX2 he6 hf6
            go_wp2_with (refine wpList_store_row rfl 60 _ _ rfl _ _ rfl rfl _ _ he10 (by kernel_rfl) (by simp) (by simp [Value.oneCell']) ?_)
            obtain ⟨r1, r2, r3⟩ := HR.out #[.int .i64 a, .int .i64 b, .int .i64 c, .string x, .slice p q r]
            go_roundw
            case rel =>
              (repeat apply Exists.intro)
              exact ⟨⟨r2, r3, .inr ⟨er, at', _, _, HE.out.1, HE.out.2, r1, _, _, _, _, _, _, _, setRow_heap _ _ _ _ _ _ he10⟩⟩, rfl⟩
            case measure =>
              show mzOf _ _ _ < _
              rw [hmz, r1.mz_bad HE.out.2]
              omega
          | ok q =>
            obtain ⟨e6, rr, n6⟩ := q
            have hXX := HX2.out
            rw [hx] at ho hXX
            obtain ⟨i10, sl, dd, hr', rfl, hkd, h10, hn10, hk10⟩ := ho
            have er := endedP_ok hx
            cases er
            obtain ⟨p6, q6, rfl⟩ := hkd.form
            have he10 := hk10.at he7 (by omega)
            have hz10 := hk10.at hz7 (by omega)
            have hk910 := hk7.trans hk10
            have i6e : all.drop i5 = all.drop i10 := hr'
            have HR : Hid (∀ cs, WSt all E g v (w10.setRow w1.heap.size cs) i10 (n5 + 1) 0 0 ∧ Kept g w (w10.setRow w1.heap.size cs) ∧ (w10.setRow w1.heap.size cs).heap[w.heap.size]? = some (.cells ex0C 60 (0, 0)) ∧ KidsAt (fun k => w.heap.size + 1 ≤ k ∧ k ≠ w1.heap.size) dd (w10.setRow w1.heap.size cs) (.slice p6 2 q6) [e, f]) := fun cs => ⟨h.row_set h0 h10 hk910 (by omega) cs, hk910.setRow (by omega) cs, (setRow_other _ _ _ _ (by omega)).trans hz10, hkd.kept fun k hk _ => setRow_other _ _ _ _ hk.2⟩
            have HE : Hid (rd E 1 d ⟨6, 0, 0, [], [e, f]⟩ (all.drop i10) (n5 + 1) = X) := by
              show _ = _
              rw [← i6e]; exact hXX
            have hi10 : j < i10 := by
              have l1 := congrArg List.length i6e
              simp only [List.length_drop] at l1
              have := h10.le
              have := h7.le
              omega
            unfold exV
            clear hx hXX h10 hk10 hz10 hk910 c8 he7 hz7 hk7 h7 HX2 hkd i6e hr' he6 hf6
            go_wp2_with (refine wpList_store_row rfl 60 _ _ rfl _ _ rfl rfl _ _ he10 (by kernel_rfl) (by simp) (by simp [Value.oneCell']) ?_)
            obtain ⟨r1, r2, r3, r4⟩ := HR.out #[.int .i64 6, .int .i64 0, .int .i64 0, .string ⟨#[]⟩, .slice p6 2 q6]
            go_roundw
            case rel =>
              (repeat apply Exists.intro)
              exact ⟨⟨r2, r3, .inl ⟨⟨6, 0, 0, [], [e, f]⟩, i10, n5 + 1, by omega, HE.out, ⟨p6, q6, dd, setRow_heap _ _ _ _ _ _ he10, r4⟩, r1, hn10⟩⟩, rfl⟩
            case measure =>
              show mzOf _ _ _ < _
              rw [hmz, r1.mz_ok]
              have := r1.le
              omega
      · have hs' : isT wPlus (all.drop j) = false := by simpa using hs
        rw [if_neg hs] at hXr
        rw [hs'] at cW
        clear hs hs'
        go_wp2_with fail
        refine cW.mono ?_
        rintro e' w3 ⟨rfl, hb3⟩
        have hst3 := hst.below hb3 h0
        have hk3 := Kept.of_below (g := g) hb3
        have hv3 := hv.kept hk3 (by omega) hgl
        have hz3 := hk3.at hzr (by omega)
        have hkw := hkp.trans hk3
        clear cW hst hk3 hkp hv hzr hb3
        have hst := hst3
        have hkp := hkw
        have hv := hv3
        have hzr := hz3
        clear hst3 hkw hv3 hz3
        have cW := on_any h0 hst 3 wMinus
        rw [on_sign h0 (x := wMinus) (by decide) j] at cW
        by_cases hs : isT wMinus (all.drop j) = true
        · have hj1 := isT_len (by decide) hs
          rw [if_pos hs] at hXr
          rw [hs] at cW
          clear hs
          go_wp2_with fail
          refine cW.mono ?_
          rintro e' w3 ⟨rfl, hb3⟩
          have h3 := hst.below hb3 h0
          have k1 := (cell_of_row _ _ 1 _ _ _ h3.blk).trans rfl
          have y1 := frozen_of_row _ _ 1 _ _ h3.blk
          have h4 := h3.set h0 hj1
          have hk34 := (Kept.of_below (g := g) hb3).trans (Kept.set w3 g 1 (.int .i64 ((j + 1 : Nat) : Int)))
          have hv4 := hv.kept hk34 (by omega) hgl
          have hz4 := hk34.at hzr (by omega)
          have hk4 := hkp.trans hk34
          have ei : (j : Int) + 1 = ((j + 1 : Nat) : Int) := by omega
          have hj6 : (j : Int) ≤ 6000 := by omega
          clear cW hst h3 hb3 hk34 hkp hzr hv
          generalize hvv : ((j + 1 : Nat) : Int) = vv at *
          generalize hw4 : w3.setCell ⟨g, 1, none⟩ (.int .i64 vv) = w4 at *
          have c5 := hF (j + 1) (by omega) w4 m d h4 hm6 hd41
          have HX : Hid (andThen (rd E 2 d ex0 (all.drop (j + 1)) m) (fun t r n => andThen (endedP E ⟨7, 0, 0, [], [e, t]⟩ r n) fun e r n => rd E 1 d e r n) = X) := hXr
          clear hXr
          go_wp2_with fail
          refine c5.mono ?_
          intro e' w5 ho
          clear c5 hw4
          cases hx : rd E 2 d ex0 (all.drop (j + 1)) m with
          | error q =>
            obtain ⟨er, at'⟩ := q
            have hXX := HX.out
            rw [hx] at ho hXX
            obtain ⟨hne, ⟨a, b, c, x, p, q, r, rfl⟩, ⟨i5, n5, h5⟩, hk5⟩ := ho
            have hb6 : Below w5.heap.size w5 (w5.alloc (.cells #[.int .i64 a, .int .i64 b, .int .i64 c, .string x, .slice p q r] 60)) := (Below.refl _ _).alloc (Nat.le_refl _) _
            have hk46 := hk5.trans (Kept.of_below hb6)
            have h6 := h5.below hb6 h0
            have hv6 := hv4.kept hk46 (by omega) hgl
            have hz6 := hk46.at hz4 (by omega)
            have hk6 := hk4.trans hk46
            have cg := good_any h6
            rw [show (er == 0) = false by simpa using hne] at cg
            have HE : Hid (X = .error (er, at') ∧ er ≠ 0) := ⟨hXX.symm, hne⟩
            clear hx hXX hne h5 hk5 hb6 hk46 HX hv4 hz4 hk4 h4
            generalize hw6 : w5.alloc (.cells #[.int .i64 a, .int .i64 b, .int .i64 c, .string x, .slice p q r] 60) = w6 at *
            go_wp2_with fail
            refine cg.mono ?_
            rintro e' w7 ⟨rfl, hw7⟩
            subst w7
            clear hw6
            go_wp2_with fail
            obtain ⟨pv, cv, dv, he6, hkv⟩ := hv6.ex
            go_roundw
            case rel => exact ⟨hk6, hz6, .inr ⟨er, at', _, _, HE.out.1, HE.out.2, h6, _, _, _, _, _, _, _, he6⟩⟩
            case measure =>
              show mzOf _ _ _ < _
              rw [hmz, h6.mz_bad HE.out.2]
              omega
          | ok q =>
            obtain ⟨f, rr, n5⟩ := q
            have hXX := HX.out
            rw [hx] at ho hXX
            obtain ⟨i5, sl, d5, hr', rfl, hkd5, h5, hn5, hk5⟩ := ho
            subst hr'
            have hp5 := rd_pos (j := j + 1) (by omega) hx h5.le (Nat.le_refl _) h4.le
            obtain ⟨p5, q5, rfl⟩ := hkd5.form
            have hs5 := hk5.size
            have hb6 : Below w5.heap.size w5 (w5.alloc (.cells #[.int .i64 f.kind, .int .i64 f.a, .int .i64 f.b, .string ⟨f.name.toArray⟩, .slice p5 f.kids.length q5] 60)) := (Below.refl _ _).alloc (Nat.le_refl _) _
            have hf6 := heap_alloc_new w5 (.cells #[.int .i64 f.kind, .int .i64 f.a, .int .i64 f.b, .string ⟨f.name.toArray⟩, .slice p5 f.kids.length q5] 60)
            have hk46 := hk5.trans (Kept.of_below hb6)
            have h6 := h5.below hb6 h0
            have hv6 := hv4.kept hk46 (by omega) hgl
            have hz6 := hk46.at hz4 (by omega)
            have hk6 := hk4.trans hk46
            have cg := good_any h6
            obtain ⟨pv, cv, dv, he6, hkv⟩ := hv6.ex
            obtain ⟨_, _, _, he4, _⟩ := hv4.ex
            have hl4 := lt_of_block he4
            have hkf := (Kept.of_below (g := g) hb6).kids (B := fun k => w.heap.size + 1 ≤ k ∧ k ≠ w1.heap.size) (fun k hk => by omega) (hkd5.mono fun k hk => by omega)
            have HX2 : Hid (andThen (endedP E ⟨7, 0, 0, [], [e, f]⟩ (all.drop i5) n5) (fun e r n => rd E 1 d e r n) = X) := hXX
            unfold exV
            clear hx hXX h5 hk5 hb6 hk46 HX hv4 hz4 hk4 h4 hv6 hkd5 he4
            generalize hw6 : w5.alloc (.cells #[.int .i64 f.kind, .int .i64 f.a, .int .i64 f.b, .string ⟨f.name.toArray⟩, .slice p5 f.kids.length q5] 60) = w6 at *
            go_wp2_with fail
            refine cg.mono ?_
            rintro e' w7 ⟨rfl, hw7⟩
            subst w7
            clear hw6
            have hb7 : Below w6.heap.size w6 (w6.alloc (.cells #[.int .i64 e.kind, .int .i64 e.a, .int .i64 e.b, .string ⟨e.name.toArray⟩, .slice pv e.kids.length cv, .int .i64 f.kind, .int .i64 f.a, .int .i64 f.b, .string ⟨f.name.toArray⟩, .slice p5 f.kids.length q5] 60)) := (Below.refl _ _).alloc (Nat.le_refl _) _
            have kk := kids_two (B := fun k => w.heap.size + 1 ≤ k ∧ k ≠ w1.heap.size) (by have := lt_of_block he6; constructor <;> omega) (heap_alloc_new w6 (.cells #[.int .i64 e.kind, .int .i64 e.a, .int .i64 e.b, .string ⟨e.name.toArray⟩, .slice pv e.kids.length cv, .int .i64 f.kind, .int .i64 f.a, .int .i64 f.b, .string ⟨f.name.toArray⟩, .slice p5 f.kids.length q5] 60)) ((Kept.of_below (g := g) hb7).kids (fun k hk => by omega) hkv) ((Kept.of_below (g := g) hb7).kids (fun k hk => by omega) hkf)
            have h7 := h6.below hb7 h0
            have he7 := (hb7.block _ (lt_of_block he6)).trans he6
            have hz7 := (hb7.block _ (lt_of_block hz6)).trans hz6
            have hk7 := hk6.trans (Kept.of_below hb7)
            have c8 := made_any h0 h7 hn5 (fun k => w.heap.size + 1 ≤ k ∧ k ≠ w1.heap.size) (fun k hk => by omega) ⟨7, 0, 0, [], [e, f]⟩ _ _ kk
            unfold exV at c8
            clear kk hkv hkf hb7 h6 hz6 hk6 cg
            generalize hw7 : w6.alloc (.cells #[.int .i64 e.kind, .int .i64 e.a, .int .i64 e.b, .string ⟨e.name.toArray⟩, .slice pv e.kids.length cv, .int .i64 f.kind, .int .i64 f.a, .int .i64 f.b, .string ⟨f.name.toArray⟩, .slice p5 f.kids.length q5] 60) = w7 at *
            go_wp2_with (first
              | (refine wpList_load_row rfl 60 _ rfl _ rfl _ _ _ _ he6 exprType rfl (by kernel_rfl) ?_)
              | (refine wpList_load_row rfl 60 _ rfl _ rfl _ _ _ _ hf6 exprType rfl (by kernel_rfl) ?_))
            refine c8.mono ?_
            intro e' w10 ho
            clear hw7
            cases hx : endedP E ⟨7, 0, 0, [], [e, f]⟩ (all.drop i5) n5 with
            | error q =>
              obtain ⟨er, at'⟩ := q
              have hXX := HX2.out
              rw [hx] at ho hXX
              obtain ⟨hne, ⟨a, b, c, x, p, q, r, rfl⟩, ⟨i10, n10, h10⟩, hk10⟩ := ho
              have he10 := hk10.at he7 (by omega)
              have hz10 := hk10.at hz7 (by omega)
              have hk910 := hk7.trans hk10
              have HR : Hid (∀ cs, WSt all E g v (w10.setRow w1.heap.size cs) i10 n10 er at' ∧ Kept g w (w10.setRow w1.heap.size cs) ∧ (w10.setRow w1.heap.size cs).heap[w.heap.size]? = some (.cells ex0C 60 (0, 0))) := fun cs => ⟨h.row_set h0 h10 hk910 (by omega) cs, hk910.setRow (by omega) cs, (setRow_other _ _ _ _ (by omega)).trans hz10⟩
              have HE : Hid (X = .error (er, at') ∧ er ≠ 0) := ⟨hXX.symm, hne⟩
              clear hx hXX hne h10 hk10 hz10 hk910 c8 he7 hz7 hk7 h7 HX2 he6 hf6
              go_wp2_with (refine wpList_store_row rfl 60 _ _ rfl _ _ rfl rfl _ _ he10 (by kernel_rfl) (by simp) (by simp [Value.oneCell']) ?_)
              obtain ⟨r1, r2, r3⟩ := HR.out #[.int .i64 a, .int .i64 b, .int .i64 c, .string x, .slice p q r]
              go_roundw
              case rel =>
                (repeat apply Exists.intro)
                exact ⟨⟨r2, r3, .inr ⟨er, at', _, _, HE.out.1, HE.out.2, r1, _, _, _, _, _, _, _, setRow_heap _ _ _ _ _ _ he10⟩⟩, rfl⟩
              case measure =>
                show mzOf _ _ _ < _
                rw [hmz, r1.mz_bad HE.out.2]
                omega
            | ok q =>
              obtain ⟨e6, rr, n6⟩ := q
              have hXX := HX2.out
              rw [hx] at ho hXX
              obtain ⟨i10, sl, dd, hr', rfl, hkd, h10, hn10, hk10⟩ := ho
              have er := endedP_ok hx
              cases er
              obtain ⟨p6, q6, rfl⟩ := hkd.form
              have he10 := hk10.at he7 (by omega)
              have hz10 := hk10.at hz7 (by omega)
              have hk910 := hk7.trans hk10
              have i6e : all.drop i5 = all.drop i10 := hr'
              have HR : Hid (∀ cs, WSt all E g v (w10.setRow w1.heap.size cs) i10 (n5 + 1) 0 0 ∧ Kept g w (w10.setRow w1.heap.size cs) ∧ (w10.setRow w1.heap.size cs).heap[w.heap.size]? = some (.cells ex0C 60 (0, 0)) ∧ KidsAt (fun k => w.heap.size + 1 ≤ k ∧ k ≠ w1.heap.size) dd (w10.setRow w1.heap.size cs) (.slice p6 2 q6) [e, f]) := fun cs => ⟨h.row_set h0 h10 hk910 (by omega) cs, hk910.setRow (by omega) cs, (setRow_other _ _ _ _ (by omega)).trans hz10, hkd.kept fun k hk _ => setRow_other _ _ _ _ hk.2⟩
              have HE : Hid (rd E 1 d ⟨7, 0, 0, [], [e, f]⟩ (all.drop i10) (n5 + 1) = X) := by
                show _ = _
                rw [← i6e]; exact hXX
              have hi10 : j < i10 := by
                have l1 := congrArg List.length i6e
                simp only [List.length_drop] at l1
                have := h10.le
                have := h7.le
                omega
              unfold exV
              clear hx hXX h10 hk10 hz10 hk910 c8 he7 hz7 hk7 h7 HX2 hkd i6e hr' he6 hf6
              go_wp2_with (refine wpList_store_row rfl 60 _ _ rfl _ _ rfl rfl _ _ he10 (by kernel_rfl) (by simp) (by simp [Value.oneCell']) ?_)
              obtain ⟨r1, r2, r3, r4⟩ := HR.out #[.int .i64 7, .int .i64 0, .int .i64 0, .string ⟨#[]⟩, .slice p6 2 q6]
              go_roundw
              case rel =>
                (repeat apply Exists.intro)
                exact ⟨⟨r2, r3, .inl ⟨⟨7, 0, 0, [], [e, f]⟩, i10, n5 + 1, by omega, HE.out, ⟨p6, q6, dd, setRow_heap _ _ _ _ _ _ he10, r4⟩, r1, hn10⟩⟩, rfl⟩
              case measure =>
                show mzOf _ _ _ < _
                rw [hmz, r1.mz_ok]
                have := r1.le
                omega
        · have hs' : isT wMinus (all.drop j) = false := by simpa using hs
          rw [if_neg hs] at hXr
          rw [hs'] at cW
          clear hs hs'
          go_wp2_with fail
          refine cW.mono ?_
          rintro e' w3 ⟨rfl, hb3⟩
          have hst3 := hst.below hb3 h0
          have hk3 := Kept.of_below (g := g) hb3
          have hv3 := hv.kept hk3 (by omega) hgl
          have hz3 := hk3.at hzr (by omega)
          have hkw := hkp.trans hk3
          clear cW hst hk3 hkp hv hzr hb3
          have HXr : Hid (.ok (e, all.drop j, m) = X) := hXr
          obtain ⟨pv, cv, dv, he3, hkv⟩ := hv3.ex
          have HO : Hid (∀ cs, OutW all E g v w (fun k => w.heap.size ≤ k) X (.returned (exV e (.slice pv e.kids.length cv))) (w3.setRow w.heap.size cs)) := fun cs => by
            rw [← HXr.out]
            exact ⟨j, _, dv, rfl, rfl, (hkv.kept fun k hk _ => setRow_other _ _ _ _ (by omega)).mono fun k hk => by omega, h.row_set h0 hst3 hkw (Nat.le_refl _) cs, hm6, hkw.setRow (Nat.le_refl _) cs⟩
          unfold exV at HO
          clear hst3 hkw hkv hv3 HXr hXr
          go_wp2_with (first
            | (refine wpList_load_row rfl 60 _ rfl _ rfl _ _ _ _ he3 exprType rfl (by kernel_rfl) ?_)
            | (refine wpList_store_row rfl 60 _ _ rfl _ _ rfl rfl _ _ hz3 (by kernel_rfl) (by rfl) (by simp [Value.oneCell']) ?_))
          exact ex_ret 6 (by kernel_rfl) w.heap.size _ _ _ _ _ rfl rfl (setRow_heap _ _ _ _ _ _ hz3) (HO.out _)
    · have cg := good_any hst
      rw [show (er == 0) = false by simpa using hne] at cg
      have HO : Hid (∀ cs, OutW all E g v w (fun k => w.heap.size ≤ k) X (.returned (.agg #[.int .i64 a, .int .i64 b, .int .i64 c, .string x, .slice p q r])) (World.setRow _ w.heap.size cs)) := fun cs => by
        rw [hXe]
        exact ⟨hne, ⟨_, _, _, _, _, _, _, rfl⟩, ⟨j, m, h.row_set h0 hst hkp (Nat.le_refl _) cs⟩, hkp.setRow (Nat.le_refl _) cs⟩
      go_wp2_with fail
      refine cg.mono ?_
      rintro e' w3 ⟨rfl, hw3⟩
      subst w3
      clear cg hst hkp hXe hne
      go_wp2_with (first
        | (refine wpList_load_row rfl 60 _ rfl _ rfl _ _ _ _ hrow exprType rfl (by kernel_rfl) ?_)
        | (refine wpList_store_row rfl 60 _ _ rfl _ _ rfl rfl _ _ hzr (by kernel_rfl) (by rfl) (by simp [Value.oneCell']) ?_))
      exact ex_ret 6 (by kernel_rfl) w.heap.size _ _ _ _ _ rfl rfl (setRow_heap _ _ _ _ _ _ hzr) (HO.out _)
end Go.Proofs.YtggcepicghibjacDoor
