/- What span, behindColon and dates come to. -/
import Derived.Test.YtfibbmdkpgageaaDoorPq14
import Derived.Test.YtfibbmdkpgageaaDoorPq07
import Derived.Test.YtfibbmdkpgageaaDoorPq10
import Derived.Deep.QuietTactic
import Derived.BigQuiet
namespace Go.Proofs.YtfibbmdkpgageaaDoor
open Go.RowKit Lx
variable {all : List Tk} {E g : Nat} {v : Value} {w : World} {i n : Nat}

/-- The cells of an empty expression. -/
def ex0C : Array Value := #[.int .i64 0, .int .i64 0, .int .i64 0, .string ⟨#[]⟩, .slice none 0 0]
theorem Kept.at {w' : World} {k : Nat} {o : Obj} (h : Kept g w w') (hk : w.heap[k]? = some o) (hne : k ≠ g) : w'.heap[k]? = some o := (h.block k (lt_of_block hk) (fun e => hne (Option.some.inj e))).trans hk
theorem out_split {w4 w5 : World} {X : Res} {e : Ending} (h : PSt all E g v w i n) (h0 : PS0 all E g v) (hk4 : Kept g w w4) (hz4 : w4.heap[w.heap.size]? = some (.cells ex0C 60 (0, 0)))
    (ho : OutE all E g v w4 (fun k => w.heap.size + 1 ≤ k) X e w5) :
    (∃ ch, e = .panicked ch ∧ OutE all E g v w (fun k => w.heap.size ≤ k) X e w5) ∨
    (∃ (a b c : Int) (x : ByteArray) (p : Option Addr) (q r : Nat), e = .returned (.agg #[.int .i64 a, .int .i64 b, .int .i64 c, .string x, .slice p q r]) ∧ w5.heap[w.heap.size]? = some (.cells ex0C 60 (0, 0)) ∧ ∀ cs, OutE all E g v w (fun k => w.heap.size ≤ k) X e (w5.setRow w.heap.size cs)) := by
  have hgl := lt_of_block h.blk
  cases hx : X with
  | error q =>
    obtain ⟨er, at_⟩ := q
    rw [hx] at ho
    obtain ⟨rfl, hk5⟩ := ho
    exact .inl ⟨_, rfl, rfl, hk4.trans hk5⟩
  | ok q =>
    obtain ⟨ex, rr, nn⟩ := q
    rw [hx] at ho
    obtain ⟨i', sl, dd, hr', rfl, hkd, h5, hn5, hk5⟩ := ho
    obtain ⟨p5, c5, rfl⟩ := hkd.form
    have hkw := hk4.trans hk5
    refine .inr ⟨_, _, _, _, p5, ex.kids.length, c5, rfl, hk5.at hz4 (by omega), fun cs => ?_⟩
    refine ⟨i', _, dd, hr', rfl, ?_, h.of_kept h0 (hkw.setRow (Nat.le_refl _) cs) ((setRow_other _ _ _ _ (by omega)).trans h5.blk) h5.le, hn5, hkw.setRow (Nat.le_refl _) cs⟩
    exact (hkd.kept fun k hk _ => setRow_other _ _ _ _ (by omega)).mono fun k hk => by omega
theorem tail_drop (i : Nat) : (all.drop i).tail = all.drop (i + 1) := by rw [List.tail_drop]
/-- What stands behind 'ex0C'. -/
theorem zero_new (w : World) : (w.alloc (.cells #[.int .i64 0, .int .i64 0, .int .i64 0, .string ⟨#[]⟩, .slice none 0 0] 60)).heap[w.heap.size]? = some (.cells ex0C 60 (0, 0)) := heap_alloc_new w _

/-- A span of times. -/
def spanR (E : Nat) (r : List Tk) (n : Nat) : Res :=
  if kindP r ≠ 4 then failP E 2 r
  else if isT wMinus r.tail then
    if kindP r.tail.tail ≠ 4 then failP E 2 r.tail.tail
    else if numP r.tail.tail < numP r + 1 then failP E 3 r.tail.tail
    else endedP E ⟨3, numP r, numP r.tail.tail, [], []⟩ r.tail.tail.tail n
  else failP E 2 r.tail

set_option maxRecDepth 100000 in
set_option maxHeartbeats 1000000 in
theorem span_any (h0 : PS0 all E g v) (h : PSt all E g v w i n) (hn6 : n ≤ 600) :
    Calls Tryd.prog 136 #[.pointer (some ⟨g, 0, none⟩)] w (OutE all E g v w (fun k => w.heap.size ≤ k) (spanR E (all.drop i) n)) := by
  have hgl := lt_of_block h.blk
  have hb0 : Below w.heap.size w (w.alloc (.cells #[.int .i64 0, .int .i64 0, .int .i64 0, .string ⟨#[]⟩, .slice none 0 0] 60)) := (Below.refl _ _).alloc (Nat.le_refl _) _
  have hz := zero_new w
  have hA := h.below hb0 h0
  have hkA := Kept.of_below (g := g) hb0
  have hsz : (w.alloc (.cells #[.int .i64 0, .int .i64 0, .int .i64 0, .string ⟨#[]⟩, .slice none 0 0] 60)).heap.size = w.heap.size + 1 := by simp
  have n1 := num_bd h0 i
  unfold spanR failP
  simp only [tail_drop]
  generalize hwA : w.alloc (.cells #[.int .i64 0, .int .i64 0, .int .i64 0, .string ⟨#[]⟩, .slice none 0 0] 60) = wA at *
  by_cases h4 : kindP (all.drop i) = 4
  · have c1 := take_yes h0 hA 4 (by decide) h4
    rw [if_neg (by simp [h4])]
    unfold tokV at c1
    generalize numP (all.drop i) = N at *
    generalize kindP (all.drop i) = t0 at *
    clear h4
    by_cases hm : isT wMinus (all.drop (i + 1)) = true
    · rw [if_pos hm]
      have c2 := fun (w1 : World) (h1 : PSt all E g v w1 (i + 1) n) => must_yes h0 h1 wMinus (by decide) hm
      clear hm
      by_cases h4 : kindP (all.drop (i + 1 + 1)) = 4
      · rw [if_neg (by simp [h4])]
        by_cases hlt : numP (all.drop (i + 1 + 1)) < N + 1
        · rw [if_pos hlt]
          have c3 := fun (w1 : World) (h1 : PSt all E g v w1 (i + 1 + 1) n) => takeFrom_range h0 h1 4 (N + 1) h4 hlt
          clear h4 hlt
          go_enter Tryd.func136, Tryd.ntmps136
          go_wp2_with fail
          refine c1.mono ?_
          rintro e w1 ⟨rfl, h1, hk1⟩
          go_wp2_with fail
          refine (c2 _ h1).mono ?_
          rintro e w2 ⟨rfl, h2, hk2⟩
          go_wp2_with fail
          refine (c3 _ h2).mono ?_
          rintro e w3 ⟨rfl, hk3⟩
          exact ⟨rfl, rfl, ((hkA.trans hk1).trans hk2).trans hk3⟩
        · rw [if_neg hlt]
          have c3 := fun (w1 : World) (h1 : PSt all E g v w1 (i + 1 + 1) n) => takeFrom_yes h0 h1 4 (N + 1) (by decide) h4 hlt
          unfold tokV at c3
          have n2 := num_bd h0 (i + 1 + 1)
          generalize numP (all.drop (i + 1 + 1)) = M at *
          have c4 := fun (w1 : World) (h1 : PSt all E g v w1 (i + 1 + 1 + 1) n) => ended_any h0 h1 hn6 (fun k => w.heap.size + 1 ≤ k) (fun k hk => by omega) ⟨3, N, M, [], []⟩ (.slice none 0 0) 0 (KidsAt.nil _ _ _ _ _)
          unfold exV at c4
          clear h4 hlt
          go_enter Tryd.func136, Tryd.ntmps136
          go_wp2_with fail
          refine c1.mono ?_
          rintro e w1 ⟨rfl, h1, hk1⟩
          go_wp2_with fail
          refine (c2 _ h1).mono ?_
          rintro e w2 ⟨rfl, h2, hk2⟩
          go_wp2_with fail
          refine (c3 _ h2).mono ?_
          rintro e w3 ⟨rfl, h3, hk3⟩
          have hk4 := ((hkA.trans hk1).trans hk2).trans hk3
          have hz3 := ((hk1.trans hk2).trans hk3).at hz (by omega)
          clear c1 c2 c3
          go_wp2_with fail
          refine (c4 _ h3).mono ?_
          intro e w5 ho
          rcases out_split h h0 hk4 hz3 ho with ⟨ch, rfl, hO⟩ | ⟨a, b, c, x, p, q, r, rfl, hz5, hO⟩
          · exact ⟨rfl, hO⟩
          · clear c4 ho h1 h2 h3 hk1 hk2 hk3 hk4 hz3 hz
            go_wp2_with (refine wpList_store_row rfl 60 _ _ rfl _ _ rfl rfl _ _ hz5 (by kernel_rfl) (by rfl) (by simp [Value.oneCell']) ?_)
            exact ex_ret 2 (by kernel_rfl) w.heap.size _ _ _ _ _ rfl rfl (setRow_heap _ _ _ _ _ _ hz5) (hO _)
      · rw [if_pos h4]
        have c3 := fun (w1 : World) (h1 : PSt all E g v w1 (i + 1 + 1) n) => takeFrom_kind h0 h1 4 (N + 1) h4
        clear h4
        go_enter Tryd.func136, Tryd.ntmps136
        go_wp2_with fail
        refine c1.mono ?_
        rintro e w1 ⟨rfl, h1, hk1⟩
        go_wp2_with fail
        refine (c2 _ h1).mono ?_
        rintro e w2 ⟨rfl, h2, hk2⟩
        go_wp2_with fail
        refine (c3 _ h2).mono ?_
        rintro e w3 ⟨rfl, hk3⟩
        exact ⟨rfl, rfl, ((hkA.trans hk1).trans hk2).trans hk3⟩
    · have hm' : isT wMinus (all.drop (i + 1)) = false := by simpa using hm
      rw [if_neg hm]
      have c2 := fun (w1 : World) (h1 : PSt all E g v w1 (i + 1) n) => must_no h0 h1 wMinus hm'
      clear hm hm'
      go_enter Tryd.func136, Tryd.ntmps136
      go_wp2_with fail
      refine c1.mono ?_
      rintro e w1 ⟨rfl, h1, hk1⟩
      go_wp2_with fail
      refine (c2 _ h1).mono ?_
      rintro e w2 ⟨rfl, hk2⟩
      exact ⟨rfl, rfl, (hkA.trans hk1).trans hk2⟩
  · have c1 := take_no h0 hA 4 h4
    rw [if_pos h4]
    go_enter Tryd.func136, Tryd.ntmps136
    go_wp2_with fail
    refine c1.mono ?_
    rintro e w1 ⟨rfl, hk1⟩
    exact ⟨rfl, rfl, hkA.trans hk1⟩
/-- A contract of the reader, at a place. -/
def RC (all : List Tk) (E g : Nat) (v : Value) (f : FuncId) (m i : Nat) : Prop := ∀ (w : World) (n d : Nat), PSt all E g v w i n → n ≤ 600 → d ≤ 41 →
  Calls Tryd.prog f #[.pointer (some ⟨g, 0, none⟩), .int .i64 (d : Int)] w (OutE all E g v w (fun k => w.heap.size ≤ k) (rd E m d ex0 (all.drop i) n))
/-- What behindColon hands back: a row of one. -/
def OutK (all : List Tk) (E g : Nat) (v : Value) (w : World) (B : Nat → Prop) (x : Res) (e : Ending) (w' : World) : Prop :=
  match x with
  | .error (er, at_) => e = .panicked (thrownV er at_) ∧ Kept g w w'
  | .ok (k, r, n) => ∃ (i b d : Nat), r = all.drop i ∧ e = .returned (.slice (some ⟨b, 0, none⟩) 1 1) ∧ KidsAt B d w' (.slice (some ⟨b, 0, none⟩) 1 1) [k] ∧ PSt all E g v w' i n ∧ n ≤ 600 ∧ Kept g w w'
def colonR (E d : Nat) (r : List Tk) (n : Nat) : Res := if isT wColon r then rd E 4 (d + 1) ex0 r.tail n else failP E 2 r
set_option maxRecDepth 100000 in
set_option maxHeartbeats 1000000 in
theorem colon_any (h0 : PS0 all E g v) (h : PSt all E g v w i n) (hn6 : n ≤ 600) (d : Nat) (hd : d ≤ 40) (hF : RC all E g v 112 4 (i + 1)) :
    Calls Tryd.prog 144 #[.pointer (some ⟨g, 0, none⟩), .int .i64 (d : Int)] w (OutK all E g v w (fun k => w.heap.size ≤ k) (colonR E d (all.drop i) n)) := by
  have hgl := lt_of_block h.blk
  unfold colonR
  rw [tail_drop]
  by_cases hm : isT wColon (all.drop i) = true
  · rw [if_pos hm]
    have c1 := must_yes h0 h wColon (by decide) hm
    have c2 : ∀ (w1 : World), PSt all E g v w1 (i + 1) n → Calls Tryd.prog 112 #[.pointer (some ⟨g, 0, none⟩), .int .i64 ((d : Int) + 1)] w1 (OutE all E g v w1 (fun k => w1.heap.size ≤ k) (rd E 4 (d + 1) ex0 (all.drop (i + 1)) n)) := fun w1 h1 => hF w1 n (d + 1) h1 hn6 (by omega)
    have hd' : (d : Int) ≤ 40 := by omega
    have hd0 : (0 : Int) ≤ (d : Int) := by omega
    clear hm
    go_enter Tryd.func144, Tryd.ntmps144
    go_wp2_with fail
    refine c1.mono ?_
    rintro e w1 ⟨rfl, h1, hk1⟩
    go_wp2_with fail
    refine (c2 _ h1).mono ?_
    intro e w2 ho
    cases hx : rd E 4 (d + 1) ex0 (all.drop (i + 1)) n with
    | error q =>
      obtain ⟨er, at_⟩ := q
      rw [hx] at ho
      obtain ⟨rfl, hk2⟩ := ho
      refine ⟨rfl, ?_⟩
      rw [hx]
      exact ⟨rfl, hk1.trans hk2⟩
    | ok q =>
      obtain ⟨ex, rr, nn⟩ := q
      rw [hx] at ho
      obtain ⟨i', sl, dd, hr', rfl, hkd, h2, hn2, hk2⟩ := ho
      obtain ⟨p5, c5, rfl⟩ := hkd.form
      have hs1 := hk1.size
      have hs2 := hk2.size
      have hkw := (hk1.trans hk2).alloc (.cells #[.int .i64 ex.kind, .int .i64 ex.a, .int .i64 ex.b, .string ⟨ex.name.toArray⟩, .slice p5 ex.kids.length c5] 60)
      have hb3 : Below w2.heap.size w2 (w2.alloc (.cells #[.int .i64 ex.kind, .int .i64 ex.a, .int .i64 ex.b, .string ⟨ex.name.toArray⟩, .slice p5 ex.kids.length c5] 60)) := (Below.refl _ _).alloc (Nat.le_refl _) _
      have hkd3 := (Kept.of_below (g := g) hb3).kids (B := fun k => w.heap.size ≤ k) (fun k hk => by omega) (hkd.mono fun k hk => by omega)
      have kk := kids_one (B := fun k => w.heap.size ≤ k) (by show w.heap.size ≤ w2.heap.size; omega) (heap_alloc_new w2 (.cells #[.int .i64 ex.kind, .int .i64 ex.a, .int .i64 ex.b, .string ⟨ex.name.toArray⟩, .slice p5 ex.kids.length c5] 60)) hkd3
      have h3 := h2.below hb3 h0
      have HO : Hid (OutK all E g v w (fun k => w.heap.size ≤ k) (rd E 4 (d + 1) ex0 (all.drop (i + 1)) n) (.returned (.slice (some ⟨w2.heap.size, 0, none⟩) 1 1)) (w2.alloc (.cells #[.int .i64 ex.kind, .int .i64 ex.a, .int .i64 ex.b, .string ⟨ex.name.toArray⟩, .slice p5 ex.kids.length c5] 60))) := by
        show OutK _ _ _ _ _ _ _ _ _
        rw [hx]
        exact ⟨i', _, _, hr', rfl, kk, h3, hn2, hkw⟩
      unfold exV
      clear c1 c2 h1 h2 h3 hk1 hk2 hkw hb3 hkd hkd3 kk hx
      go_wp2_with fail
      go_ret
      exact HO.out
  · have hm' : isT wColon (all.drop i) = false := by simpa using hm
    rw [if_neg hm]
    have c1 := must_no h0 h wColon hm'
    clear hm hm'
    go_enter Tryd.func144, Tryd.ntmps144
    go_wp2_with fail
    refine c1.mono ?_
    rintro e w1 ⟨rfl, hk1⟩
    exact ⟨rfl, rfl, hk1⟩
/-- What behindColon's callers do with it. -/
theorem rd8_colon (E d : Nat) (e : Ex) (r : List Tk) (n : Nat) : rd E 8 d e r n = andThen (colonR E d r n) fun k r n => endedP E ⟨e.kind, e.a, e.b, [], [k]⟩ r n := by
  rw [rd_8]
  unfold colonR
  split
  · rfl
  · rfl
end Go.Proofs.YtfibbmdkpgageaaDoor

/- What kidsOf, inRange and wrongAlone come to. -/
namespace Go.Proofs.YtfibbmdkpgageaaDoor
open Go.RowKit Lx

theorem kidsOf_any (k : Int) (w : World) : Calls Tryd.prog 108 #[.int .i64 k] w fun e w' => e = .returned (.int .i64 (kidsP k : Int)) ∧ w' = w := by
  have walk : ∀ (b4 b5 b9 b6 b7 b8 : Bool), (k == 4) = b4 → (k == 5) = b5 → (k == 9) = b9 → (k == 6) = b6 → (k == 7) = b7 → (k == 8) = b8 →
      Calls Tryd.prog 108 #[.int .i64 k] w fun e w' => e = .returned (.int .i64 (if b4 || (b5 || b9) then 1 else if b6 || (b7 || b8) then 2 else 0)) ∧ w' = w := by
    intro b4 b5 b9 b6 b7 b8 h4 h5 h9 h6 h7 h8
    cases b4 <;> cases b5 <;> cases b9 <;> cases b6 <;> cases b7 <;> cases b8 <;> (go_enter Tryd.func108, Tryd.ntmps108; go_wp2; go_ret; exact ⟨rfl, rfl⟩)
  refine (walk _ _ _ _ _ _ rfl rfl rfl rfl rfl rfl).mono ?_
  rintro e w' ⟨rfl, rfl⟩
  refine ⟨?_, rfl⟩
  unfold kidsP
  simp only [Bool.or_eq_true, beq_iff_eq]
  by_cases c1 : k = 4 ∨ k = 5 ∨ k = 9
  · rw [if_pos c1, if_pos c1]; rfl
  · rw [if_neg c1, if_neg c1]
    by_cases c2 : k = 6 ∨ k = 7 ∨ k = 8
    · rw [if_pos c2, if_pos c2]; rfl
    · rw [if_neg c2, if_neg c2]; rfl
end Go.Proofs.YtfibbmdkpgageaaDoor

/- What inRange comes to. -/
namespace Go.Proofs.YtfibbmdkpgageaaDoor
open Go.RowKit Lx

set_option maxRecDepth 100000 in
theorem inRange_any (k a b : Int) (nm : ByteArray) (p : Option Addr) (n c : Nat) (w : World) : Calls Tryd.prog 109 #[.agg #[.int .i64 k, .int .i64 a, .int .i64 b, .string nm, .slice p n c]] w fun e w' => e = .returned (.bool (rangeP k a b)) ∧ Below w.heap.size w w' := by
  have hb : Below w.heap.size w (w.alloc (.cells #[.int .i64 k, .int .i64 a, .int .i64 b, .string nm, .slice p n c] 60)) := (Below.refl _ _).alloc (Nat.le_refl _) _
  unfold rangeP
  by_cases h3 : k = 3
  · subst h3
    rw [if_pos rfl]
    by_cases c1 : 0 ≤ a
    · by_cases c2 : a < b
      · by_cases c3 : b ≤ 1440
        · go_enter Tryd.func109, Tryd.ntmps109
          go_wp2
          go_ret
          exact ⟨by first | (simp; done) | (simp; omega), hb⟩
        · go_enter Tryd.func109, Tryd.ntmps109
          go_wp2
          go_ret
          exact ⟨by first | (simp; done) | (simp; omega), hb⟩
      · go_enter Tryd.func109, Tryd.ntmps109
        go_wp2
        go_ret
        exact ⟨by first | (simp; done) | (simp; omega), hb⟩
    · go_enter Tryd.func109, Tryd.ntmps109
      go_wp2
      go_ret
      exact ⟨by first | (simp; done) | (simp; omega), hb⟩
  rw [if_neg h3]
  have i3 : (k == 3) = false := beq_eq_false_iff_ne.2 h3
  by_cases h4 : k = 4
  · subst h4
    rw [if_pos rfl]
    by_cases c1 : 1 ≤ a
    · by_cases c2 : a < 128
      · go_enter Tryd.func109, Tryd.ntmps109
        go_wp2
        go_ret
        exact ⟨by first | (simp; done) | (simp; omega), hb⟩
      · go_enter Tryd.func109, Tryd.ntmps109
        go_wp2
        go_ret
        exact ⟨by first | (simp; done) | (simp; omega), hb⟩
    · go_enter Tryd.func109, Tryd.ntmps109
      go_wp2
      go_ret
      exact ⟨by first | (simp; done) | (simp; omega), hb⟩
  rw [if_neg h4]
  have i4 : (k == 4) = false := beq_eq_false_iff_ne.2 h4
  by_cases h5 : k = 5
  · subst h5
    rw [if_pos rfl]
    by_cases c1 : 0 ≤ a
    · by_cases c2 : a ≤ b
      · by_cases c3 : b < 146097
        · go_enter Tryd.func109, Tryd.ntmps109
          go_wp2
          go_ret
          exact ⟨by first | (simp; done) | (simp; omega), hb⟩
        · go_enter Tryd.func109, Tryd.ntmps109
          go_wp2
          go_ret
          exact ⟨by first | (simp; done) | (simp; omega), hb⟩
      · go_enter Tryd.func109, Tryd.ntmps109
        go_wp2
        go_ret
        exact ⟨by first | (simp; done) | (simp; omega), hb⟩
    · go_enter Tryd.func109, Tryd.ntmps109
      go_wp2
      go_ret
      exact ⟨by first | (simp; done) | (simp; omega), hb⟩
  rw [if_neg h5]
  have i5 : (k == 5) = false := beq_eq_false_iff_ne.2 h5
  by_cases h9 : k = 9
  · subst h9
    rw [if_pos rfl]
    by_cases c1 : a = 0
    · subst c1
      go_enter Tryd.func109, Tryd.ntmps109
      go_wp2
      go_ret
      exact ⟨by first | (simp; done) | (simp; omega), hb⟩
    · have n1 : (a != 0) = true := by simpa using c1
      by_cases c2 : -1440 < a
      · by_cases c3 : a < 1440
        · go_enter Tryd.func109, Tryd.ntmps109
          go_wp2
          go_ret
          exact ⟨by first | (simp; done) | (simp; omega), hb⟩
        · go_enter Tryd.func109, Tryd.ntmps109
          go_wp2
          go_ret
          exact ⟨by first | (simp; done) | (simp; omega), hb⟩
      · go_enter Tryd.func109, Tryd.ntmps109
        go_wp2
        go_ret
        exact ⟨by first | (simp; done) | (simp; omega), hb⟩
  rw [if_neg h9]
  have i9 : (k == 9) = false := beq_eq_false_iff_ne.2 h9
  go_enter Tryd.func109, Tryd.ntmps109
  go_wp2
  go_ret
  exact ⟨rfl, hb⟩
end Go.Proofs.YtfibbmdkpgageaaDoor

/- What slotref3.digit, low, sign and Word come to. -/
namespace Go.Proofs.YtfibbmdkpgageaaDoor
open Go.RowKit Lx

theorem rdigit_any (c : UInt8) (w : World) : Calls Tryd.prog 64 #[.int .u8 (c.toNat : Int)] w fun e w' => e = .returned (.bool (isD c)) ∧ w' = w := by
  unfold isD
  by_cases h1 : 48 ≤ c.toNat
  · by_cases h2 : c.toNat ≤ 57
    · have i1 : (48 : Int) ≤ (c.toNat : Int) := by omega
      have i2 : (c.toNat : Int) ≤ 57 := by omega
      rw [decide_eq_true h1, decide_eq_true h2]
      go_enter Tryd.func64, Tryd.ntmps64
      go_wp2
      go_ret
      exact ⟨rfl, rfl⟩
    · have i1 : (48 : Int) ≤ (c.toNat : Int) := by omega
      have i2 : ¬ (c.toNat : Int) ≤ 57 := by omega
      rw [decide_eq_true h1, decide_eq_false h2]
      go_enter Tryd.func64, Tryd.ntmps64
      go_wp2
      go_ret
      exact ⟨rfl, rfl⟩
  · have i1 : ¬ (48 : Int) ≤ (c.toNat : Int) := by omega
    rw [decide_eq_false h1]
    go_enter Tryd.func64, Tryd.ntmps64
    go_wp2
    go_ret
    exact ⟨rfl, rfl⟩
theorem rlow_any (c : UInt8) (w : World) : Calls Tryd.prog 63 #[.int .u8 (c.toNat : Int)] w fun e w' => e = .returned (.bool (isL c)) ∧ w' = w := by
  unfold isL
  by_cases h1 : 97 ≤ c.toNat
  · by_cases h2 : c.toNat ≤ 122
    · have i1 : (97 : Int) ≤ (c.toNat : Int) := by omega
      have i2 : (c.toNat : Int) ≤ 122 := by omega
      rw [decide_eq_true h1, decide_eq_true h2]
      go_enter Tryd.func63, Tryd.ntmps63
      go_wp2
      go_ret
      exact ⟨rfl, rfl⟩
    · have i1 : (97 : Int) ≤ (c.toNat : Int) := by omega
      have i2 : ¬ (c.toNat : Int) ≤ 122 := by omega
      rw [decide_eq_true h1, decide_eq_false h2]
      go_enter Tryd.func63, Tryd.ntmps63
      go_wp2
      go_ret
      exact ⟨rfl, rfl⟩
  · have i1 : ¬ (97 : Int) ≤ (c.toNat : Int) := by omega
    rw [decide_eq_false h1]
    go_enter Tryd.func63, Tryd.ntmps63
    go_wp2
    go_ret
    exact ⟨rfl, rfl⟩


/-- Does that byte stand at that place? -/
def atB (l : List UInt8) (k c : Nat) : Bool := decide (k < l.length) && decide ((l.getD k 0).toNat = c)
set_option maxHeartbeats 400000 in
theorem rsign_any (s : ByteArray) (l : List UInt8) (hs : s.data.toList = l) (k c : Nat) (w : World) :
    Calls Tryd.prog 79 #[.string s, .int .i64 (k : Int), .int .u8 (c : Int)] w fun e w' => e = .returned (.bool (atB l k c)) ∧ w' = w := by
  have hz : s.size = l.length := by rw [← hs, Lib.size_eq]
  unfold atB
  by_cases hk : k < l.length
  · have hk' : (k : Int) < (l.length : Int) := by omega
    have hk0 : (0 : Int) ≤ (k : Int) := by omega
    have g1 : ∀ h : k < s.size, s[k] = l.getD k 0 := fun h => byte_at hs k h
    rw [decide_eq_true hk, Bool.true_and]
    generalize hb : l.getD k 0 = b at *
    by_cases hc : b.toNat = c
    · have i1 : ((b.toNat : Int) == (c : Int)) = true := by simp; omega
      rw [decide_eq_true hc]
      clear hc
      go_enter Tryd.func79, Tryd.ntmps79
      go_wp2
      go_ret
      exact ⟨by simp only [i1] at *; rfl, rfl⟩
    · have i1 : ((b.toNat : Int) == (c : Int)) = false := by simp; omega
      rw [decide_eq_false hc]
      clear hc
      go_enter Tryd.func79, Tryd.ntmps79
      go_wp2
      go_ret
      exact ⟨by simp only [i1] at *; rfl, rfl⟩
  · have hk' : ¬ (k : Int) < (l.length : Int) := by omega
    rw [decide_eq_false hk]
    go_enter Tryd.func79, Tryd.ntmps79
    go_wp2
    go_ret
    exact ⟨rfl, rfl⟩

/-- The words as the document's answer lists them. -/
def rwordsL : List (List UInt8) := [[114, 117, 108, 101], [110, 101, 118, 101, 114], [97, 108, 119, 97, 121, 115], [119, 101, 101, 107, 108, 121], [100, 97, 116, 101, 115], [115, 104, 105, 102, 116], [109, 111, 110], [116, 117, 101], [119, 101, 100], [116, 104, 117], [102, 114, 105], [115, 97, 116], [115, 117, 110]]
def rwordCells : Array Value := (rwordsL.map fun l => Value.string ⟨l.toArray⟩).toArray
theorem rwordCell (j : Nat) (hj : j < 13) : rwordCells[j]? = some (.string ⟨(rwordsL.getD j []).toArray⟩) := by
  have h : j < rwordsL.length := hj
  unfold rwordCells
  simp only [List.getElem?_toArray, List.getElem?_map, List.getD_eq_getElem?_getD, List.getElem?_eq_getElem h]
  rfl
theorem rword_mem (x : List UInt8) : x ∈ rwordsL ↔ x ∈ wordsL := by
  unfold rwordsL wordsL
  simp only [List.mem_cons, List.not_mem_nil, or_false]
  constructor
  · rintro (h | h | h | h | h | h | h | h | h | h | h | h | h) <;> subst h <;> simp
  · rintro (h | h | h | h | h | h | h | h | h | h | h | h | h) <;> subst h <;> simp
theorem rword_no {x : List UInt8} (h : ∀ j, j < 13 → rwordsL.getD j [] ≠ x) : isWordL x = false := by
  cases e : isWordL x with
  | false => rfl
  | true =>
    unfold isWordL at e
    rw [List.any_eq_true] at e
    obtain ⟨y, hy, hx⟩ := e
    have hyx : y = x := by simpa using hx
    subst hyx
    obtain ⟨j, hj, hjx⟩ := List.getElem_of_mem ((rword_mem y).2 hy)
    have hj' : j < 13 := hj
    exact absurd (by simpa [List.getD, hj] using hjx) (h j hj')
theorem rword_yes {x : List UInt8} (j : Nat) (hj : j < 13) (h : rwordsL.getD j [] = x) : isWordL x = true := by
  have hj' : j < rwordsL.length := hj
  have hm : x ∈ rwordsL := by rw [← h]; simp [List.getD, hj']
  unfold isWordL
  rw [List.any_eq_true]
  exact ⟨x, (rword_mem x).1 hm, beq_self_eq_true x⟩
set_option maxRecDepth 10000 in
set_option maxHeartbeats 400000 in
theorem rword_any (x : ByteArray) (l : List UInt8) (hx : x.data.toList = l) (w : World) :
    Calls Tryd.prog 65 #[.string x] w fun e w' => e = .returned (.bool (isWordL l)) ∧ Below w.heap.size w w' := by
  have hg : (w.alloc (.cells rwordCells 9)).heap[w.heap.size]? = some (.cells rwordCells 9 (0, 0)) := heap_alloc_new w _
  have hb : Below w.heap.size w (w.alloc (.cells rwordCells 9)) := (Below.refl _ _).alloc (Nat.le_refl _) _
  have HC : Hid (∀ j, j < 13 → (w.alloc (.cells rwordCells 9)).cell? ⟨w.heap.size, j, none⟩ = some (.string ⟨(rwordsL.getD j []).toArray⟩)) := fun j hj => by rw [cell_of_row _ _ _ _ _ _ hg, rwordCell j hj]
  have hW : (w.alloc (.cells #[.string ⟨#[114, 117, 108, 101]⟩, .string ⟨#[110, 101, 118, 101, 114]⟩, .string ⟨#[97, 108, 119, 97, 121, 115]⟩, .string ⟨#[119, 101, 101, 107, 108, 121]⟩, .string ⟨#[100, 97, 116, 101, 115]⟩, .string ⟨#[115, 104, 105, 102, 116]⟩, .string ⟨#[109, 111, 110]⟩, .string ⟨#[116, 117, 101]⟩, .string ⟨#[119, 101, 100]⟩, .string ⟨#[116, 104, 117]⟩, .string ⟨#[102, 114, 105]⟩, .string ⟨#[115, 97, 116]⟩, .string ⟨#[115, 117, 110]⟩] 9)) = w.alloc (.cells rwordCells 9) := rfl
  generalize w.alloc (.cells rwordCells 9) = w1 at *
  clear hg
  go_enter Tryd.func65, Tryd.ntmps65
  go_wp2
  go_loop [7] (fun i => ∃ k : Nat, k ≤ 13 ∧ i = .int .i64 k ∧ ∀ j, j < k → rwordsL.getD j [] ≠ l) (fun i => 13 - (intOf i).toNat)
  case atStart => exact ⟨0, by omega, rfl, fun i h => by omega⟩
  case round =>
    obtain ⟨k, hk, rfl, hall⟩ := hrel
    have HA : Hid (∀ j, j < k → rwordsL.getD j [] ≠ l) := hall
    clear hall
    by_cases hlt : k < 13
    · have hlt' : (k : Int) < 13 := by omega
      have hk0 : (0 : Int) ≤ (k : Int) := by omega
      have ck := HC.out k hlt
      generalize hy : (⟨(rwordsL.getD k []).toArray⟩ : ByteArray) = y at ck
      have hyl : y.data.toList = rwordsL.getD k [] := by rw [← hy]
      by_cases he : rwordsL.getD k [] = l
      · have hq : (y.toList == x.toList) = true := by rw [Lib.toList_data, Lib.toList_data, hyl, hx, he]; simp
        have hWd : Hid (isWordL l = true) := rword_yes k hlt he
        clear he hyl hy hW
        go_wp2
        go_ret
        exact ⟨by rw [hWd.out]; rfl, hb⟩
      · have hq : (y.toList == x.toList) = false := by
          rw [Lib.toList_data, Lib.toList_data, hyl, hx]
          rw [beq_eq_false_iff_ne]
          exact he
        have HE : Hid (rwordsL.getD k [] ≠ l) := he
        clear he hyl hy hW
        go_wp2
        go_round
        case rel =>
          refine ⟨k + 1, by omega, by go_num, fun j hj => ?_⟩
          by_cases e : j = k
          · subst e; exact HE.out
          · exact HA.out j (by omega)
        case measure => simp [intOf]; omega
    · have hkl : k = 13 := by omega
      subst hkl
      have hWd : Hid (isWordL l = false) := rword_no HA.out
      clear hW
      go_wp2
      go_ret
      exact ⟨by rw [hWd.out]; rfl, hb⟩
end Go.Proofs.YtfibbmdkpgageaaDoor
