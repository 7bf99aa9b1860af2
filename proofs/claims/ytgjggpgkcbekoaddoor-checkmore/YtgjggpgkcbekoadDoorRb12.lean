/- What span, behindColon and dates come to. -/
import Derived.Test.YtgjggpgkcbekoadDoorRb11
namespace Go.Proofs.YtgjggpgkcbekoadDoor
open Go.RowKit Lx
variable {all : List Tk} {E g : Nat} {v : Value} {w : World} {i n : Nat}

/-- The cells of an empty expression. -/
def ex0C : Array Value := #[.int .i64 0, .int .i64 0, .int .i64 0, .string ⟨#[]⟩, .slice none 0 0]
theorem Kept.at {w' : World} {k : Nat} {o : Obj} (h : Kept g w w') (hk : w.heap[k]? = some o) (hne : k ≠ g) : w'.heap[k]? = some o := (h.block k (lt_of_block hk) (fun e => hne (Option.some.inj e))).trans hk
theorem out_split {w4 w5 : World} {X : Res} {e : Ending} (h : PSt all E g v w i n) (h0 : PS0 all E g v) (hk4 : Kept g w w4) (hz4 : w4.heap[w.heap.size]? = some (.cells ex0C 34 (0, 0)))
    (ho : OutE all E g v w4 (fun k => w.heap.size + 1 ≤ k) X e w5) :
    (∃ ch, e = .panicked ch ∧ OutE all E g v w (fun k => w.heap.size ≤ k) X e w5) ∨
    (∃ (a b c : Int) (x : ByteArray) (p : Option Addr) (q r : Nat), e = .returned (.agg #[.int .i64 a, .int .i64 b, .int .i64 c, .string x, .slice p q r]) ∧ w5.heap[w.heap.size]? = some (.cells ex0C 34 (0, 0)) ∧ ∀ cs, OutE all E g v w (fun k => w.heap.size ≤ k) X e (w5.setRow w.heap.size cs)) := by
  have hgl := lt_of_block h.blk
  cases hx : X with
  | error q =>
    obtain ⟨er, at_⟩ := q
    rw [hx] at ho
    obtain ⟨rfl, hk5⟩ := ho
    exact .inl ⟨_, rfl, rfl, hk4.trans hk5⟩
  | ok q =>
    obtain ⟨ex, rr, nn⟩ := q
    rw [hx] at ho
    obtain ⟨i', sl, dd, hr', rfl, hkd, h5, hn5, hk5⟩ := ho
    obtain ⟨p5, c5, rfl⟩ := hkd.form
    have hkw := hk4.trans hk5
    refine .inr ⟨_, _, _, _, p5, ex.kids.length, c5, rfl, hk5.at hz4 (by omega), fun cs => ?_⟩
    refine ⟨i', _, dd, hr', rfl, ?_, h.of_kept h0 (hkw.setRow (Nat.le_refl _) cs) ((setRow_other _ _ _ _ (by omega)).trans h5.blk) h5.le, hn5, hkw.setRow (Nat.le_refl _) cs⟩
    exact (hkd.kept fun k hk _ => setRow_other _ _ _ _ (by omega)).mono fun k hk => by omega
theorem tail_drop (i : Nat) : (all.drop i).tail = all.drop (i + 1) := by rw [List.tail_drop]
/-- What stands behind 'ex0C'. -/
theorem zero_new (w : World) : (w.alloc (.cells #[.int .i64 0, .int .i64 0, .int .i64 0, .string ⟨#[]⟩, .slice none 0 0] 34)).heap[w.heap.size]? = some (.cells ex0C 34 (0, 0)) := heap_alloc_new w _

/-- A span of times. -/
def spanR (E : Nat) (r : List Tk) (n : Nat) : Res :=
  if kindP r ≠ 4 then failP E 2 r
  else if isT wMinus r.tail then
    if kindP r.tail.tail ≠ 4 then failP E 2 r.tail.tail
    else if numP r.tail.tail < numP r + 1 then failP E 3 r.tail.tail
    else endedP E ⟨3, numP r, numP r.tail.tail, [], []⟩ r.tail.tail.tail n
  else failP E 2 r.tail

set_option maxRecDepth 100000 in
set_option maxHeartbeats 1000000 in
theorem span_any (h0 : PS0 all E g v) (h : PSt all E g v w i n) (hn6 : n ≤ 600) :
    Calls Tryd.prog 79 #[.pointer (some ⟨g, 0, none⟩)] w (OutE all E g v w (fun k => w.heap.size ≤ k) (spanR E (all.drop i) n)) := by
  have hgl := lt_of_block h.blk
  have hb0 : Below w.heap.size w (w.alloc (.cells #[.int .i64 0, .int .i64 0, .int .i64 0, .string ⟨#[]⟩, .slice none 0 0] 34)) := (Below.refl _ _).alloc (Nat.le_refl _) _
  have hz := zero_new w
  have hA := h.below hb0 h0
  have hkA := Kept.of_below (g := g) hb0
  have hsz : (w.alloc (.cells #[.int .i64 0, .int .i64 0, .int .i64 0, .string ⟨#[]⟩, .slice none 0 0] 34)).heap.size = w.heap.size + 1 := by simp
  have n1 := num_bd h0 i
  unfold spanR failP
  simp only [tail_drop]
  generalize hwA : w.alloc (.cells #[.int .i64 0, .int .i64 0, .int .i64 0, .string ⟨#[]⟩, .slice none 0 0] 34) = wA at *
  by_cases h4 : kindP (all.drop i) = 4
  · have c1 := take_yes h0 hA 4 (by decide) h4
    rw [if_neg (by simp [h4])]
    unfold tokV at c1
    generalize numP (all.drop i) = N at *
    generalize kindP (all.drop i) = t0 at *
    clear h4
    by_cases hm : isT wMinus (all.drop (i + 1)) = true
    · rw [if_pos hm]
      have c2 := fun (w1 : World) (h1 : PSt all E g v w1 (i + 1) n) => must_yes h0 h1 wMinus (by decide) hm
      clear hm
      by_cases h4 : kindP (all.drop (i + 1 + 1)) = 4
      · rw [if_neg (by simp [h4])]
        by_cases hlt : numP (all.drop (i + 1 + 1)) < N + 1
        · rw [if_pos hlt]
          have c3 := fun (w1 : World) (h1 : PSt all E g v w1 (i + 1 + 1) n) => takeFrom_range h0 h1 4 (N + 1) h4 hlt
          clear h4 hlt
          go_enter Tryd.func79, Tryd.ntmps79
          go_wp2_with fail
          refine c1.mono ?_
          rintro e w1 ⟨rfl, h1, hk1⟩
          go_wp2_with fail
          refine (c2 _ h1).mono ?_
          rintro e w2 ⟨rfl, h2, hk2⟩
          go_wp2_with fail
          refine (c3 _ h2).mono ?_
          rintro e w3 ⟨rfl, hk3⟩
          exact ⟨rfl, rfl, ((hkA.trans hk1).trans hk2).trans hk3⟩
        · rw [if_neg hlt]
          have c3 := fun (w1 : World) (h1 : PSt all E g v w1 (i + 1 + 1) n) => takeFrom_yes h0 h1 4 (N + 1) (by decide) h4 hlt
          unfold tokV at c3
          have n2 := num_bd h0 (i + 1 + 1)
          generalize numP (all.drop (i + 1 + 1)) = M at *
          have c4 := fun (w1 : World) (h1 : PSt all E g v w1 (i + 1 + 1 + 1) n) => ended_any h0 h1 hn6 (fun k => w.heap.size + 1 ≤ k) (fun k hk => by omega) ⟨3, N, M, [], []⟩ (.slice none 0 0) 0 (KidsAt.nil _ _ _ _ _)
          unfold exV at c4
          clear h4 hlt
          go_enter Tryd.func79, Tryd.ntmps79
          go_wp2_with fail
          refine c1.mono ?_
          rintro e w1 ⟨rfl, h1, hk1⟩
          go_wp2_with fail
          refine (c2 _ h1).mono ?_
          rintro e w2 ⟨rfl, h2, hk2⟩
          go_wp2_with fail
          refine (c3 _ h2).mono ?_
          rintro e w3 ⟨rfl, h3, hk3⟩
          have hk4 := ((hkA.trans hk1).trans hk2).trans hk3
          have hz3 := ((hk1.trans hk2).trans hk3).at hz (by omega)
          clear c1 c2 c3
          go_wp2_with fail
          refine (c4 _ h3).mono ?_
          intro e w5 ho
          rcases out_split h h0 hk4 hz3 ho with ⟨ch, rfl, hO⟩ | ⟨a, b, c, x, p, q, r, rfl, hz5, hO⟩
          · exact ⟨rfl, hO⟩
          · clear c4 ho h1 h2 h3 hk1 hk2 hk3 hk4 hz3 hz
            go_wp2_with (refine wpList_store_row rfl 34 _ _ rfl _ _ rfl rfl _ _ hz5 (by kernel_rfl) (by rfl) (by simp [Value.oneCell']) ?_)
            exact ex_ret 2 (by kernel_rfl) w.heap.size _ _ _ _ _ rfl rfl (setRow_heap _ _ _ _ _ _ hz5) (hO _)
      · rw [if_pos h4]
        have c3 := fun (w1 : World) (h1 : PSt all E g v w1 (i + 1 + 1) n) => takeFrom_kind h0 h1 4 (N + 1) h4
        clear h4
        go_enter Tryd.func79, Tryd.ntmps79
        go_wp2_with fail
        refine c1.mono ?_
        rintro e w1 ⟨rfl, h1, hk1⟩
        go_wp2_with fail
        refine (c2 _ h1).mono ?_
        rintro e w2 ⟨rfl, h2, hk2⟩
        go_wp2_with fail
        refine (c3 _ h2).mono ?_
        rintro e w3 ⟨rfl, hk3⟩
        exact ⟨rfl, rfl, ((hkA.trans hk1).trans hk2).trans hk3⟩
    · have hm' : isT wMinus (all.drop (i + 1)) = false := by simpa using hm
      rw [if_neg hm]
      have c2 := fun (w1 : World) (h1 : PSt all E g v w1 (i + 1) n) => must_no h0 h1 wMinus hm'
      clear hm hm'
      go_enter Tryd.func79, Tryd.ntmps79
      go_wp2_with fail
      refine c1.mono ?_
      rintro e w1 ⟨rfl, h1, hk1⟩
      go_wp2_with fail
      refine (c2 _ h1).mono ?_
      rintro e w2 ⟨rfl, hk2⟩
      exact ⟨rfl, rfl, (hkA.trans hk1).trans hk2⟩
  · have c1 := take_no h0 hA 4 h4
    rw [if_pos h4]
    go_enter Tryd.func79, Tryd.ntmps79
    go_wp2_with fail
    refine c1.mono ?_
    rintro e w1 ⟨rfl, hk1⟩
    exact ⟨rfl, rfl, hkA.trans hk1⟩
/-- A contract of the reader, at a place. -/
def RC (all : List Tk) (E g : Nat) (v : Value) (f : FuncId) (m i : Nat) : Prop := ∀ (w : World) (n d : Nat), PSt all E g v w i n → n ≤ 600 → d ≤ 41 →
  Calls Tryd.prog f #[.pointer (some ⟨g, 0, none⟩), .int .i64 (d : Int)] w (OutE all E g v w (fun k => w.heap.size ≤ k) (rd E m d ex0 (all.drop i) n))
/-- What behindColon hands back: a row of one. -/
def OutK (all : List Tk) (E g : Nat) (v : Value) (w : World) (B : Nat → Prop) (x : Res) (e : Ending) (w' : World) : Prop :=
  match x with
  | .error (er, at_) => e = .panicked (thrownV er at_) ∧ Kept g w w'
  | .ok (k, r, n) => ∃ (i b d : Nat), r = all.drop i ∧ e = .returned (.slice (some ⟨b, 0, none⟩) 1 1) ∧ KidsAt B d w' (.slice (some ⟨b, 0, none⟩) 1 1) [k] ∧ PSt all E g v w' i n ∧ n ≤ 600 ∧ Kept g w w'
def colonR (E d : Nat) (r : List Tk) (n : Nat) : Res := if isT wColon r then rd E 4 (d + 1) ex0 r.tail n else failP E 2 r
set_option maxRecDepth 100000 in
set_option maxHeartbeats 1000000 in
theorem colon_any (h0 : PS0 all E g v) (h : PSt all E g v w i n) (hn6 : n ≤ 600) (d : Nat) (hd : d ≤ 40) (hF : RC all E g v 71 4 (i + 1)) :
    Calls Tryd.prog 82 #[.pointer (some ⟨g, 0, none⟩), .int .i64 (d : Int)] w (OutK all E g v w (fun k => w.heap.size ≤ k) (colonR E d (all.drop i) n)) := by
  have hgl := lt_of_block h.blk
  unfold colonR
  rw [tail_drop]
  by_cases hm : isT wColon (all.drop i) = true
  · rw [if_pos hm]
    have c1 := must_yes h0 h wColon (by decide) hm
    have c2 : ∀ (w1 : World), PSt all E g v w1 (i + 1) n → Calls Tryd.prog 71 #[.pointer (some ⟨g, 0, none⟩), .int .i64 ((d : Int) + 1)] w1 (OutE all E g v w1 (fun k => w1.heap.size ≤ k) (rd E 4 (d + 1) ex0 (all.drop (i + 1)) n)) := fun w1 h1 => hF w1 n (d + 1) h1 hn6 (by omega)
    have hd' : (d : Int) ≤ 40 := by omega
    have hd0 : (0 : Int) ≤ (d : Int) := by omega
    clear hm
    go_enter Tryd.func82, Tryd.ntmps82
    go_wp2_with fail
    refine c1.mono ?_
    rintro e w1 ⟨rfl, h1, hk1⟩
    go_wp2_with fail
    refine (c2 _ h1).mono ?_
    intro e w2 ho
    cases hx : rd E 4 (d + 1) ex0 (all.drop (i + 1)) n with
    | error q =>
      obtain ⟨er, at_⟩ := q
      rw [hx] at ho
      obtain ⟨rfl, hk2⟩ := ho
      refine ⟨rfl, ?_⟩
      rw [hx]
      exact ⟨rfl, hk1.trans hk2⟩
    | ok q =>
      obtain ⟨ex, rr, nn⟩ := q
      rw [hx] at ho
      obtain ⟨i', sl, dd, hr', rfl, hkd, h2, hn2, hk2⟩ := ho
      obtain ⟨p5, c5, rfl⟩ := hkd.form
      have hs1 := hk1.size
      have hs2 := hk2.size
      have hkw := (hk1.trans hk2).alloc (.cells #[.int .i64 ex.kind, .int .i64 ex.a, .int .i64 ex.b, .string ⟨ex.name.toArray⟩, .slice p5 ex.kids.length c5] 34)
      have hb3 : Below w2.heap.size w2 (w2.alloc (.cells #[.int .i64 ex.kind, .int .i64 ex.a, .int .i64 ex.b, .string ⟨ex.name.toArray⟩, .slice p5 ex.kids.length c5] 34)) := (Below.refl _ _).alloc (Nat.le_refl _) _
      have hkd3 := (Kept.of_below (g := g) hb3).kids (B := fun k => w.heap.size ≤ k) (fun k hk => by omega) (hkd.mono fun k hk => by omega)
      have kk := kids_one (B := fun k => w.heap.size ≤ k) (by show w.heap.size ≤ w2.heap.size; omega) (heap_alloc_new w2 (.cells #[.int .i64 ex.kind, .int .i64 ex.a, .int .i64 ex.b, .string ⟨ex.name.toArray⟩, .slice p5 ex.kids.length c5] 34)) hkd3
      have h3 := h2.below hb3 h0
      have HO : Hid (OutK all E g v w (fun k => w.heap.size ≤ k) (rd E 4 (d + 1) ex0 (all.drop (i + 1)) n) (.returned (.slice (some ⟨w2.heap.size, 0, none⟩) 1 1)) (w2.alloc (.cells #[.int .i64 ex.kind, .int .i64 ex.a, .int .i64 ex.b, .string ⟨ex.name.toArray⟩, .slice p5 ex.kids.length c5] 34))) := by
        show OutK _ _ _ _ _ _ _ _ _
        rw [hx]
        exact ⟨i', _, _, hr', rfl, kk, h3, hn2, hkw⟩
      unfold exV
      clear c1 c2 h1 h2 h3 hk1 hk2 hkw hb3 hkd hkd3 kk hx
      go_wp2_with fail
      go_ret
      exact HO.out
  · have hm' : isT wColon (all.drop i) = false := by simpa using hm
    rw [if_neg hm]
    have c1 := must_no h0 h wColon hm'
    clear hm hm'
    go_enter Tryd.func82, Tryd.ntmps82
    go_wp2_with fail
    refine c1.mono ?_
    rintro e w1 ⟨rfl, hk1⟩
    exact ⟨rfl, rfl, hk1⟩
/-- What behindColon's callers do with it. -/
theorem rd8_colon (E d : Nat) (e : Ex) (r : List Tk) (n : Nat) : rd E 8 d e r n = andThen (colonR E d r n) fun k r n => endedP E ⟨e.kind, e.a, e.b, [], [k]⟩ r n := by
  rw [rd_8]
  unfold colonR
  split
  · rfl
  · rfl
end Go.Proofs.YtgjggpgkcbekoadDoor

/- What dates and weekly come to. -/
namespace Go.Proofs.YtgjggpgkcbekoadDoor
open Go.RowKit Lx
variable {all : List Tk} {E g : Nat} {v : Value} {w : World} {i n : Nat}

/-- Dates behind their word. -/
def datesR (E d : Nat) (r : List Tk) (n : Nat) : Res :=
  if kindP r ≠ 5 then failP E 2 r
  else if isT wTo r.tail then
    if kindP r.tail.tail ≠ 5 then failP E 2 r.tail.tail
    else if numP r.tail.tail < numP r then failP E 3 r.tail.tail
    else rd E 8 d ⟨5, numP r, numP r.tail.tail, [], []⟩ r.tail.tail.tail n
  else rd E 8 d ⟨5, numP r, numP r, [], []⟩ r.tail n
set_option maxRecDepth 100000 in
set_option maxHeartbeats 1000000 in
theorem dates_any (h0 : PS0 all E g v) (h : PSt all E g v w i n) (hn6 : n ≤ 600) (d : Nat) (hd : d ≤ 40) (hF : ∀ j, i < j → RC all E g v 71 4 j) :
    Calls Tryd.prog 78 #[.pointer (some ⟨g, 0, none⟩), .int .i64 (d : Int)] w (OutE all E g v w (fun k => w.heap.size ≤ k) (datesR E d (all.drop i) n)) := by
  have hgl := lt_of_block h.blk
  have hb0 : Below w.heap.size w (w.alloc (.cells #[.int .i64 0, .int .i64 0, .int .i64 0, .string ⟨#[]⟩, .slice none 0 0] 34)) := (Below.refl _ _).alloc (Nat.le_refl _) _
  have hz := zero_new w
  have hA := h.below hb0 h0
  have hkA := Kept.of_below (g := g) hb0
  unfold datesR failP
  simp only [tail_drop]
  generalize hwA : w.alloc (.cells #[.int .i64 0, .int .i64 0, .int .i64 0, .string ⟨#[]⟩, .slice none 0 0] 34) = wA at *
  by_cases h5 : kindP (all.drop i) = 5
  · have c1 := take_yes h0 hA 5 (by decide) h5
    rw [if_neg (by simp [h5])]
    unfold tokV at c1
    generalize numP (all.drop i) = N at *
    generalize kindP (all.drop i) = t0 at *
    clear h5
    by_cases hm : isT wTo (all.drop (i + 1)) = true
    · rw [if_pos hm]
      have c2 := fun (w1 : World) (h1 : PSt all E g v w1 (i + 1) n) => skip_yes h0 h1 wTo (by decide) hm
      clear hm
      by_cases h5 : kindP (all.drop (i + 1 + 1)) = 5
      · rw [if_neg (by simp [h5])]
        by_cases hlt : numP (all.drop (i + 1 + 1)) < N
        · rw [if_pos hlt]
          have c3 := fun (w1 : World) (h1 : PSt all E g v w1 (i + 1 + 1) n) => takeFrom_range h0 h1 5 N h5 hlt
          clear h5 hlt
          go_enter Tryd.func78, Tryd.ntmps78
          go_wp2_with fail
          refine c1.mono ?_
          rintro e w1 ⟨rfl, h1, hk1⟩
          go_wp2_with fail
          refine (c2 _ h1).mono ?_
          rintro e w2 ⟨rfl, h2, hk2⟩
          go_wp2_with fail
          refine (c3 _ h2).mono ?_
          rintro e w3 ⟨rfl, hk3⟩
          exact ⟨rfl, rfl, ((hkA.trans hk1).trans hk2).trans hk3⟩
        · rw [if_neg hlt]
          have c3 := fun (w1 : World) (h1 : PSt all E g v w1 (i + 1 + 1) n) => takeFrom_yes h0 h1 5 N (by decide) h5 hlt
          unfold tokV at c3
          generalize numP (all.drop (i + 1 + 1)) = M at *
          clear h5 hlt
          generalize hX : rd E 8 d ⟨5, N, M, [], []⟩ (all.drop (i + 1 + 1 + 1)) n = X
          have HX : Hid (rd E 8 d ⟨5, N, M, [], []⟩ (all.drop (i + 1 + 1 + 1)) n = X) := hX
          clear hX
          go_enter Tryd.func78, Tryd.ntmps78
          go_wp2_with fail
          refine c1.mono ?_
          rintro e w1 ⟨rfl, h1, hk1⟩
          go_wp2_with fail
          refine (c2 _ h1).mono ?_
          rintro e w2 ⟨rfl, h2, hk2⟩
          go_wp2_with fail
          refine (c3 _ h2).mono ?_
          rintro e w3 ⟨rfl, h3, hk3'⟩
          have hk3 := ((hkA.trans hk1).trans hk2).trans hk3'
          have hz3 := ((hk1.trans hk2).trans hk3').at hz (by omega)
          clear c1 c2 c3 h1 h2 hk1 hk2 hk3' hz hwA hA hkA hb0
          have hXX := HX.out
          rw [rd8_colon] at hXX
          go_wp2_with fail
          refine (colon_any h0 h3 hn6 d hd (hF (i + 1 + 1 + 1 + 1) (by omega))).mono ?_
          intro e w5 ho
          cases hx : colonR E d (all.drop (i + 1 + 1 + 1)) n with
          | error q =>
            obtain ⟨er, at_⟩ := q
            rw [hx] at ho
            obtain ⟨rfl, hk5⟩ := ho
            rw [hx] at hXX
            refine ⟨rfl, ?_⟩
            rw [← hXX]
            exact ⟨rfl, hk3.trans hk5⟩
          | ok q =>
            obtain ⟨kx, rr, nn⟩ := q
            rw [hx] at ho
            obtain ⟨i', bk, dd, hr', rfl, hkd, h5, hn5, hk5⟩ := ho
            subst hr'
            have hs3 := hk3.size
            have hz5 := hk5.at hz3 (by omega)
            have hl3 := lt_of_block hz3
            have c5 := ended_any h0 h5 hn5 (fun k => w.heap.size + 1 ≤ k) (fun k hk => by omega) ⟨5, N, M, [], [kx]⟩ (.slice (some ⟨bk, 0, none⟩) 1 1) dd (hkd.mono fun k hk => by omega)
            unfold exV at c5
            have hk35 := hk3.trans hk5
            rw [hx] at hXX
            rw [show endedP E ⟨5, N, M, [], [kx]⟩ (all.drop i') nn = X from hXX] at c5
            clear hkd hk5 hx h3 hz3 hk3 hXX
            go_wp2_with fail
            refine c5.mono ?_
            intro e w6 ho
            rcases out_split h h0 hk35 hz5 ho with ⟨ch, rfl, hO⟩ | ⟨a', b', c', x', p', q', r', rfl, hz6, hO⟩
            · exact ⟨rfl, hO⟩
            · clear c5 ho h5 hk35 hz5
              go_wp2_with (refine wpList_store_row rfl 34 _ _ rfl _ _ rfl rfl _ _ hz6 (by kernel_rfl) (by rfl) (by simp [Value.oneCell']) ?_)
              exact ex_ret 4 (by kernel_rfl) w.heap.size _ _ _ _ _ rfl rfl (setRow_heap _ _ _ _ _ _ hz6) (hO _)
      · rw [if_pos h5]
        have c3 := fun (w1 : World) (h1 : PSt all E g v w1 (i + 1 + 1) n) => takeFrom_kind h0 h1 5 N h5
        clear h5
        go_enter Tryd.func78, Tryd.ntmps78
        go_wp2_with fail
        refine c1.mono ?_
        rintro e w1 ⟨rfl, h1, hk1⟩
        go_wp2_with fail
        refine (c2 _ h1).mono ?_
        rintro e w2 ⟨rfl, h2, hk2⟩
        go_wp2_with fail
        refine (c3 _ h2).mono ?_
        rintro e w3 ⟨rfl, hk3⟩
        exact ⟨rfl, rfl, ((hkA.trans hk1).trans hk2).trans hk3⟩
    · have hm' : isT wTo (all.drop (i + 1)) = false := by simpa using hm
      rw [if_neg hm]
      have c2 := fun (w1 : World) (h1 : PSt all E g v w1 (i + 1) n) => skip_no h0 h1 wTo hm'
      clear hm hm'
      generalize hX : rd E 8 d ⟨5, N, N, [], []⟩ (all.drop (i + 1)) n = X
      have HX : Hid (rd E 8 d ⟨5, N, N, [], []⟩ (all.drop (i + 1)) n = X) := hX
      clear hX
      go_enter Tryd.func78, Tryd.ntmps78
      go_wp2_with fail
      refine c1.mono ?_
      rintro e w1 ⟨rfl, h1, hk1⟩
      go_wp2_with fail
      refine (c2 _ h1).mono ?_
      rintro e w3 ⟨rfl, h3, hk2⟩
      have hk3 := (hkA.trans hk1).trans hk2
      have hz3 := (hk1.trans hk2).at hz (by omega)
      clear c1 c2 h1 hk1 hk2 hz hwA hA hkA hb0
      have hXX := HX.out
      rw [rd8_colon] at hXX
      go_wp2_with fail
      refine (colon_any h0 h3 hn6 d hd (hF (i + 1 + 1) (by omega))).mono ?_
      intro e w5 ho
      cases hx : colonR E d (all.drop (i + 1)) n with
      | error q =>
        obtain ⟨er, at_⟩ := q
        rw [hx] at ho
        obtain ⟨rfl, hk5⟩ := ho
        rw [hx] at hXX
        refine ⟨rfl, ?_⟩
        rw [← hXX]
        exact ⟨rfl, hk3.trans hk5⟩
      | ok q =>
        obtain ⟨kx, rr, nn⟩ := q
        rw [hx] at ho
        obtain ⟨i', bk, dd, hr', rfl, hkd, h5, hn5, hk5⟩ := ho
        subst hr'
        have hs3 := hk3.size
        have hz5 := hk5.at hz3 (by omega)
        have hl3 := lt_of_block hz3
        have c5 := ended_any h0 h5 hn5 (fun k => w.heap.size + 1 ≤ k) (fun k hk => by omega) ⟨5, N, N, [], [kx]⟩ (.slice (some ⟨bk, 0, none⟩) 1 1) dd (hkd.mono fun k hk => by omega)
        unfold exV at c5
        have hk35 := hk3.trans hk5
        rw [hx] at hXX
        rw [show endedP E ⟨5, N, N, [], [kx]⟩ (all.drop i') nn = X from hXX] at c5
        clear hkd hk5 hx h3 hz3 hk3 hXX
        go_wp2_with fail
        refine c5.mono ?_
        intro e w6 ho
        rcases out_split h h0 hk35 hz5 ho with ⟨ch, rfl, hO⟩ | ⟨a', b', c', x', p', q', r', rfl, hz6, hO⟩
        · exact ⟨rfl, hO⟩
        · clear c5 ho h5 hk35 hz5
          go_wp2_with (refine wpList_store_row rfl 34 _ _ rfl _ _ rfl rfl _ _ hz6 (by kernel_rfl) (by rfl) (by simp [Value.oneCell']) ?_)
          exact ex_ret 4 (by kernel_rfl) w.heap.size _ _ _ _ _ rfl rfl (setRow_heap _ _ _ _ _ _ hz6) (hO _)
  · have c1 := take_no h0 hA 5 h5
    rw [if_pos h5]
    go_enter Tryd.func78, Tryd.ntmps78
    go_wp2_with fail
    refine c1.mono ?_
    rintro e w1 ⟨rfl, hk1⟩
    exact ⟨rfl, rfl, hkA.trans hk1⟩
/-- Behind a day of the week: more days, or the colon. -/
def weekOn (E d : Nat) (a : Nat) (r : List Tk) (n : Nat) : Res := if isT wComma r then rd E 7 d ⟨0, (a : Int), 0, [], []⟩ r.tail n else rd E 8 d ⟨4, (a : Int), 0, [], []⟩ r n
theorem rd7_no (E d : Nat) (e : Ex) (r : List Tk) (n : Nat) (h : dayBit (textP r) = 0) : rd E 7 d e r n = failP E 2 r := by rw [rd_7, if_pos h]
theorem rd7_yes (E d : Nat) (e : Ex) (r : List Tk) (n : Nat) (h : dayBit (textP r) ≠ 0) : rd E 7 d e r n = weekOn E d (e.a.toNat ||| dayBit (textP r)) r.tail n := by rw [rd_7, if_neg h]; rfl
theorem day_lt (x : List UInt8) : dayBit x < 128 := by
  unfold dayBit
  repeat (split; · omega)
  omega
theorem or128 : ∀ a : Fin 128, ∀ b : Fin 128, bits BinOp.or IntKind.i64 ((a.val : Nat) : Int) ((b.val : Nat) : Int) = ((a.val ||| b.val : Nat) : Int) := by decide +kernel
theorem or_eq {a b : Nat} (ha : a < 128) (hb : b < 128) : bits BinOp.or IntKind.i64 (a : Int) (b : Int) = ((a ||| b : Nat) : Int) := or128 ⟨a, ha⟩ ⟨b, hb⟩
theorem or_lt {a b : Nat} (ha : a < 128) (hb : b < 128) : a ||| b < 128 := Nat.or_lt_two_pow (n := 7) ha hb
set_option maxRecDepth 100000 in
set_option maxHeartbeats 1000000 in
theorem weekly_any (h0 : PS0 all E g v) (h : PSt all E g v w i n) (hn6 : n ≤ 600) (d : Nat) (hd : d ≤ 40) (hF : ∀ j, i < j → RC all E g v 71 4 j) :
    Calls Tryd.prog 77 #[.pointer (some ⟨g, 0, none⟩), .int .i64 (d : Int)] w (OutE all E g v w (fun k => w.heap.size ≤ k) (rd E 7 d ex0 (all.drop i) n)) := by
  have hgl := lt_of_block h.blk
  have hb0 : Below w.heap.size w (w.alloc (.cells #[.int .i64 0, .int .i64 0, .int .i64 0, .string ⟨#[]⟩, .slice none 0 0] 34)) := (Below.refl _ _).alloc (Nat.le_refl _) _
  have hz := zero_new w
  have hA := h.below hb0 h0
  have hkA := Kept.of_below (g := g) hb0
  have hlen := h0.len
  generalize hwA : w.alloc (.cells #[.int .i64 0, .int .i64 0, .int .i64 0, .string ⟨#[]⟩, .slice none 0 0] 34) = wA at *
  have c1 := day_any h0 hA
  unfold dayX at c1
  by_cases hd0 : dayBit (textP (all.drop i)) = 0
  · rw [if_pos hd0] at c1
    rw [rd7_no _ _ _ _ _ hd0]
    go_enter Tryd.func77, Tryd.ntmps77
    go_wp2_with fail
    refine c1.mono ?_
    rintro e w1 ⟨rfl, hk1⟩
    exact ⟨rfl, rfl, hkA.trans hk1⟩
  · rw [if_neg hd0] at c1
    rw [rd7_yes _ _ _ _ _ hd0, tail_drop]
    have ha := day_lt (textP (all.drop i))
    have ez : (ex0.a.toNat ||| dayBit (textP (all.drop i))) = dayBit (textP (all.drop i)) := by show (0 ||| _) = _; exact Nat.zero_or _
    rw [ez]
    clear ez hd0
    generalize dayBit (textP (all.drop i)) = a0 at *
    generalize hX : weekOn E d a0 (all.drop (i + 1)) n = X
    go_enter Tryd.func77, Tryd.ntmps77
    go_wp2_with fail
    refine c1.mono ?_
    rintro e w1 ⟨rfl, h1, hk1⟩
    have hk1' := hkA.trans hk1
    have hz1 := hk1.at hz (by omega)
    clear c1 hk1 hkA hz hwA hA hb0
    go_wp2_with fail
    go_loopw [5] (fun q wr => ∃ (a j : Nat), q = .int .i64 (a : Int) ∧ a < 128 ∧ i < j ∧ PSt all E g v wr j n ∧ Kept g w wr ∧ wr.heap[w.heap.size]? = some (.cells ex0C 34 (0, 0)) ∧ weekOn E d a (all.drop j) n = X ∧ wr.heap[g]? = some (.cells #[v, .int .i64 (j : Int), .int .i64 (E : Int), .int .i64 (n : Int)] 68 (0, 0))) (fun _ wr => all.length - (match wr.heap[g]? with | some (.cells cs _ _) => (intOf (cs.getD 1 undef)).toNat | _ => 0))
    case atStart => exact ⟨a0, i + 1, rfl, ha, by omega, h1, hk1', hz1, hX, h1.blk⟩
    case round =>
      obtain ⟨a, j, rfl, ha, hij, hst, hkp, hzr, hXr, hblk⟩ := hrel
      clear h1 hk1' hz1 hX
      by_cases hc : isT wComma (all.drop j) = true
      · have hj1 := isT_len (by decide) hc
        have c2 := skip_yes h0 hst wComma (by decide) hc
        unfold weekOn at hXr
        rw [if_pos hc, tail_drop] at hXr
        have cd := fun (w1 : World) (h1 : PSt all E g v w1 (j + 1) n) => day_any h0 h1
        unfold dayX at cd
        clear hc
        by_cases hd0 : dayBit (textP (all.drop (j + 1))) = 0
        · rw [rd7_no _ _ _ _ _ hd0] at hXr
          have cd' := cd
          simp only [if_pos hd0] at cd'
          have HX : Hid (X = failP E 2 (all.drop (j + 1))) := hXr.symm
          clear cd hXr hblk
          go_wp2_with fail
          refine c2.mono ?_
          rintro e w2 ⟨rfl, h2, hk2⟩
          go_wp2_with fail
          refine (cd' _ h2).mono ?_
          rintro e w3 ⟨rfl, hk3⟩
          refine ⟨rfl, ?_⟩
          rw [HX.out]
          exact ⟨rfl, (hkp.trans hk2).trans hk3⟩
        · rw [rd7_yes _ _ _ _ _ hd0, tail_drop] at hXr
          have cd' := cd
          simp only [if_neg hd0] at cd'
          have hb := day_lt (textP (all.drop (j + 1)))
          have hor := or_lt ha hb
          have hj2 : j + 1 + 1 ≤ all.length := by
            have := dayBit_cons hd0
            simp at this; omega
          have hta : ((a : Int)).toNat = a := by omega
          dsimp only at hXr
          rw [hta] at hXr
          have HX : Hid (weekOn E d (a ||| dayBit (textP (all.drop (j + 1)))) (all.drop (j + 1 + 1)) n = X) := hXr
          generalize dayBit (textP (all.drop (j + 1))) = b at *
          clear cd hXr hd0 hta
          go_wp2_with fail
          refine c2.mono ?_
          rintro e w2 ⟨rfl, h2, hk2⟩
          go_wp2_with fail
          refine (cd' _ h2).mono ?_
          rintro e w3 ⟨rfl, h3, hk3⟩
          have hz3 := (hk2.trans hk3).at hzr (by omega)
          have hk' := (hkp.trans hk2).trans hk3
          go_wp2_with fail
          go_roundw
          case rel => exact ⟨a ||| b, j + 1 + 1, by rw [or_eq ha hb], hor, by omega, h3, hk', hz3, HX.out, h3.blk⟩
          case measure =>
            rw [h3.blk, hblk]
            simp [intOf]; omega
      · have hc' : isT wComma (all.drop j) = false := by simpa using hc
        have c2 := skip_no h0 hst wComma hc'
        unfold weekOn at hXr
        rw [if_neg hc] at hXr
        have HX : Hid (rd E 8 d ⟨4, (a : Int), 0, [], []⟩ (all.drop j) n = X) := hXr
        clear hc hc' hXr hblk
        go_wp2_with fail
        refine c2.mono ?_
        rintro e w3 ⟨rfl, h3, hk2⟩
        have hk3 := hkp.trans hk2
        have hz3 := hk2.at hzr (by omega)
        clear c2 hst hkp hzr hk2
        have hXX := HX.out
        rw [rd8_colon] at hXX
        go_wp2_with fail
        refine (colon_any h0 h3 hn6 d hd (hF (j + 1) (by omega))).mono ?_
        intro e w5 ho
        cases hx : colonR E d (all.drop (j)) n with
        | error q =>
          obtain ⟨er, at_⟩ := q
          rw [hx] at ho
          obtain ⟨rfl, hk5⟩ := ho
          rw [hx] at hXX
          refine ⟨rfl, ?_⟩
          rw [← hXX]
          exact ⟨rfl, hk3.trans hk5⟩
        | ok q =>
          obtain ⟨kx, rr, nn⟩ := q
          rw [hx] at ho
          obtain ⟨i', bk, dd, hr', rfl, hkd, h5, hn5, hk5⟩ := ho
          subst hr'
          have hs3 := hk3.size
          have hz5 := hk5.at hz3 (by omega)
          have hl3 := lt_of_block hz3
          have c5 := ended_any h0 h5 hn5 (fun k => w.heap.size + 1 ≤ k) (fun k hk => by omega) ⟨4, (a : Int), 0, [], [kx]⟩ (.slice (some ⟨bk, 0, none⟩) 1 1) dd (hkd.mono fun k hk => by omega)
          unfold exV at c5
          have hk35 := hk3.trans hk5
          rw [hx] at hXX
          rw [show endedP E ⟨4, (a : Int), 0, [], [kx]⟩ (all.drop i') nn = X from hXX] at c5
          clear hkd hk5 hx h3 hz3 hk3 hXX
          go_wp2_with fail
          refine c5.mono ?_
          intro e w6 ho
          rcases out_split h h0 hk35 hz5 ho with ⟨ch, rfl, hO⟩ | ⟨a', b', c', x', p', q', r', rfl, hz6, hO⟩
          · exact ⟨rfl, hO⟩
          · clear c5 ho h5 hk35 hz5
            go_wp2_with (refine wpList_store_row rfl 34 _ _ rfl _ _ rfl rfl _ _ hz6 (by kernel_rfl) (by rfl) (by simp [Value.oneCell']) ?_)
            exact ex_ret 4 (by kernel_rfl) w.heap.size _ _ _ _ _ rfl rfl (setRow_heap _ _ _ _ _ _ hz6) (hO _)
end Go.Proofs.YtgjggpgkcbekoadDoor
