/- What span, behindColon and dates come to. -/
import Derived.Test.YteheahhifihmjaaGreatDoorQa19
import Derived.Test.YteheahhifihmjaaGreatDoorQa08
import Derived.Test.YteheahhifihmjaaGreatDoorQa14
import Derived.Deep.QuietTactic
import Derived.BigQuiet
namespace Go.Proofs.YteheahhifihmjaaGreatDoor
open Go.RowKit Lx
variable {all : List Tk} {E g : Nat} {v : Value} {w : World} {i n : Nat}

/-- The cells of an empty expression. -/
def ex0C : Array Value := #[.int .i64 0, .int .i64 0, .int .i64 0, .string ⟨#[]⟩, .slice none 0 0]
theorem Kept.at {w' : World} {k : Nat} {o : Obj} (h : Kept g w w') (hk : w.heap[k]? = some o) (hne : k ≠ g) : w'.heap[k]? = some o := (h.block k (lt_of_block hk) (fun e => hne (Option.some.inj e))).trans hk
theorem out_split {w4 w5 : World} {X : Res} {e : Ending} (h : PSt all E g v w i n) (h0 : PS0 all E g v) (hk4 : Kept g w w4) (hz4 : w4.heap[w.heap.size]? = some (.cells ex0C 38 (0, 0)))
    (ho : OutE all E g v w4 (fun k => w.heap.size + 1 ≤ k) X e w5) :
    (∃ ch, e = .panicked ch ∧ OutE all E g v w (fun k => w.heap.size ≤ k) X e w5) ∨
    (∃ (a b c : Int) (x : ByteArray) (p : Option Addr) (q r : Nat), e = .returned (.agg #[.int .i64 a, .int .i64 b, .int .i64 c, .string x, .slice p q r]) ∧ w5.heap[w.heap.size]? = some (.cells ex0C 38 (0, 0)) ∧ ∀ cs, OutE all E g v w (fun k => w.heap.size ≤ k) X e (w5.setRow w.heap.size cs)) := by
  have hgl := lt_of_block h.blk
  cases hx : X with
  | error q =>
    obtain ⟨er, at_⟩ := q
    rw [hx] at ho
    obtain ⟨rfl, hk5⟩ := ho
    exact .inl ⟨_, rfl, rfl, hk4.trans hk5⟩
  | ok q =>
    obtain ⟨ex, rr, nn⟩ := q
    rw [hx] at ho
    obtain ⟨i', sl, dd, hr', rfl, hkd, h5, hn5, hk5⟩ := ho
    obtain ⟨p5, c5, rfl⟩ := hkd.form
    have hkw := hk4.trans hk5
    refine .inr ⟨_, _, _, _, p5, ex.kids.length, c5, rfl, hk5.at hz4 (by omega), fun cs => ?_⟩
    refine ⟨i', _, dd, hr', rfl, ?_, h.of_kept h0 (hkw.setRow (Nat.le_refl _) cs) ((setRow_other _ _ _ _ (by omega)).trans h5.blk) h5.le, hn5, hkw.setRow (Nat.le_refl _) cs⟩
    exact (hkd.kept fun k hk _ => setRow_other _ _ _ _ (by omega)).mono fun k hk => by omega
theorem tail_drop (i : Nat) : (all.drop i).tail = all.drop (i + 1) := by rw [List.tail_drop]
/-- What stands behind 'ex0C'. -/
theorem zero_new (w : World) : (w.alloc (.cells #[.int .i64 0, .int .i64 0, .int .i64 0, .string ⟨#[]⟩, .slice none 0 0] 38)).heap[w.heap.size]? = some (.cells ex0C 38 (0, 0)) := heap_alloc_new w _

/-- A span of times. -/
def spanR (E : Nat) (r : List Tk) (n : Nat) : Res :=
  if kindP r ≠ 4 then failP E 2 r
  else if isT wMinus r.tail then
    if kindP r.tail.tail ≠ 4 then failP E 2 r.tail.tail
    else if numP r.tail.tail < numP r + 1 then failP E 3 r.tail.tail
    else endedP E ⟨3, numP r, numP r.tail.tail, [], []⟩ r.tail.tail.tail n
  else failP E 2 r.tail

set_option maxRecDepth 100000 in
set_option maxHeartbeats 1000000 in
theorem span_any (h0 : PS0 all E g v) (h : PSt all E g v w i n) (hn6 : n ≤ 600) :
    Calls Tryz.prog 107 #[.pointer (some ⟨g, 0, none⟩)] w (OutE all E g v w (fun k => w.heap.size ≤ k) (spanR E (all.drop i) n)) := by
  have hgl := lt_of_block h.blk
  have hb0 : Below w.heap.size w (w.alloc (.cells #[.int .i64 0, .int .i64 0, .int .i64 0, .string ⟨#[]⟩, .slice none 0 0] 38)) := (Below.refl _ _).alloc (Nat.le_refl _) _
  have hz := zero_new w
  have hA := h.below hb0 h0
  have hkA := Kept.of_below (g := g) hb0
  have hsz : (w.alloc (.cells #[.int .i64 0, .int .i64 0, .int .i64 0, .string ⟨#[]⟩, .slice none 0 0] 38)).heap.size = w.heap.size + 1 := by simp
  have n1 := num_bd h0 i
  unfold spanR failP
  simp only [tail_drop]
  generalize hwA : w.alloc (.cells #[.int .i64 0, .int .i64 0, .int .i64 0, .string ⟨#[]⟩, .slice none 0 0] 38) = wA at *
  by_cases h4 : kindP (all.drop i) = 4
  · have c1 := take_yes h0 hA 4 (by decide) h4
    rw [if_neg (by simp [h4])]
    unfold tokV at c1
    generalize numP (all.drop i) = N at *
    generalize kindP (all.drop i) = t0 at *
    clear h4
    by_cases hm : isT wMinus (all.drop (i + 1)) = true
    · rw [if_pos hm]
      have c2 := fun (w1 : World) (h1 : PSt all E g v w1 (i + 1) n) => must_yes h0 h1 wMinus (by decide) hm
      clear hm
      by_cases h4 : kindP (all.drop (i + 1 + 1)) = 4
      · rw [if_neg (by simp [h4])]
        by_cases hlt : numP (all.drop (i + 1 + 1)) < N + 1
        · rw [if_pos hlt]
          have c3 := fun (w1 : World) (h1 : PSt all E g v w1 (i + 1 + 1) n) => takeFrom_range h0 h1 4 (N + 1) h4 hlt
          clear h4 hlt
          go_enter Tryz.func107, Tryz.ntmps107
          go_wp2_with fail
          refine c1.mono ?_
          rintro e w1 ⟨rfl, h1, hk1⟩
          go_wp2_with fail
          refine (c2 _ h1).mono ?_
          rintro e w2 ⟨rfl, h2, hk2⟩
          go_wp2_with fail
          refine (c3 _ h2).mono ?_
          rintro e w3 ⟨rfl, hk3⟩
          exact ⟨rfl, rfl, ((hkA.trans hk1).trans hk2).trans hk3⟩
        · rw [if_neg hlt]
          have c3 := fun (w1 : World) (h1 : PSt all E g v w1 (i + 1 + 1) n) => takeFrom_yes h0 h1 4 (N + 1) (by decide) h4 hlt
          unfold tokV at c3
          have n2 := num_bd h0 (i + 1 + 1)
          generalize numP (all.drop (i + 1 + 1)) = M at *
          have c4 := fun (w1 : World) (h1 : PSt all E g v w1 (i + 1 + 1 + 1) n) => ended_any h0 h1 hn6 (fun k => w.heap.size + 1 ≤ k) (fun k hk => by omega) ⟨3, N, M, [], []⟩ (.slice none 0 0) 0 (KidsAt.nil _ _ _ _ _)
          unfold exV at c4
          clear h4 hlt
          go_enter Tryz.func107, Tryz.ntmps107
          go_wp2_with fail
          refine c1.mono ?_
          rintro e w1 ⟨rfl, h1, hk1⟩
          go_wp2_with fail
          refine (c2 _ h1).mono ?_
          rintro e w2 ⟨rfl, h2, hk2⟩
          go_wp2_with fail
          refine (c3 _ h2).mono ?_
          rintro e w3 ⟨rfl, h3, hk3⟩
          have hk4 := ((hkA.trans hk1).trans hk2).trans hk3
          have hz3 := ((hk1.trans hk2).trans hk3).at hz (by omega)
          clear c1 c2 c3
          go_wp2_with fail
          refine (c4 _ h3).mono ?_
          intro e w5 ho
          rcases out_split h h0 hk4 hz3 ho with ⟨ch, rfl, hO⟩ | ⟨a, b, c, x, p, q, r, rfl, hz5, hO⟩
          · exact ⟨rfl, hO⟩
          · clear c4 ho h1 h2 h3 hk1 hk2 hk3 hk4 hz3 hz
            go_wp2_with (refine wpList_store_row rfl 38 _ _ rfl _ _ rfl rfl _ _ hz5 (by kernel_rfl) (by rfl) (by simp [Value.oneCell']) ?_)
            exact ex_ret 2 (by kernel_rfl) w.heap.size _ _ _ _ _ rfl rfl (setRow_heap _ _ _ _ _ _ hz5) (hO _)
      · rw [if_pos h4]
        have c3 := fun (w1 : World) (h1 : PSt all E g v w1 (i + 1 + 1) n) => takeFrom_kind h0 h1 4 (N + 1) h4
        clear h4
        go_enter Tryz.func107, Tryz.ntmps107
        go_wp2_with fail
        refine c1.mono ?_
        rintro e w1 ⟨rfl, h1, hk1⟩
        go_wp2_with fail
        refine (c2 _ h1).mono ?_
        rintro e w2 ⟨rfl, h2, hk2⟩
        go_wp2_with fail
        refine (c3 _ h2).mono ?_
        rintro e w3 ⟨rfl, hk3⟩
        exact ⟨rfl, rfl, ((hkA.trans hk1).trans hk2).trans hk3⟩
    · have hm' : isT wMinus (all.drop (i + 1)) = false := by simpa using hm
      rw [if_neg hm]
      have c2 := fun (w1 : World) (h1 : PSt all E g v w1 (i + 1) n) => must_no h0 h1 wMinus hm'
      clear hm hm'
      go_enter Tryz.func107, Tryz.ntmps107
      go_wp2_with fail
      refine c1.mono ?_
      rintro e w1 ⟨rfl, h1, hk1⟩
      go_wp2_with fail
      refine (c2 _ h1).mono ?_
      rintro e w2 ⟨rfl, hk2⟩
      exact ⟨rfl, rfl, (hkA.trans hk1).trans hk2⟩
  · have c1 := take_no h0 hA 4 h4
    rw [if_pos h4]
    go_enter Tryz.func107, Tryz.ntmps107
    go_wp2_with fail
    refine c1.mono ?_
    rintro e w1 ⟨rfl, hk1⟩
    exact ⟨rfl, rfl, hkA.trans hk1⟩
/-- A contract of the reader, at a place. -/
def RC (all : List Tk) (E g : Nat) (v : Value) (f : FuncId) (m i : Nat) : Prop := ∀ (w : World) (n d : Nat), PSt all E g v w i n → n ≤ 600 → d ≤ 41 →
  Calls Tryz.prog f #[.pointer (some ⟨g, 0, none⟩), .int .i64 (d : Int)] w (OutE all E g v w (fun k => w.heap.size ≤ k) (rd E m d ex0 (all.drop i) n))
/-- What behindColon hands back: a row of one. -/
def OutK (all : List Tk) (E g : Nat) (v : Value) (w : World) (B : Nat → Prop) (x : Res) (e : Ending) (w' : World) : Prop :=
  match x with
  | .error (er, at_) => e = .panicked (thrownV er at_) ∧ Kept g w w'
  | .ok (k, r, n) => ∃ (i b d : Nat), r = all.drop i ∧ e = .returned (.slice (some ⟨b, 0, none⟩) 1 1) ∧ KidsAt B d w' (.slice (some ⟨b, 0, none⟩) 1 1) [k] ∧ PSt all E g v w' i n ∧ n ≤ 600 ∧ Kept g w w'
def colonR (E d : Nat) (r : List Tk) (n : Nat) : Res := if isT wColon r then rd E 4 (d + 1) ex0 r.tail n else failP E 2 r
set_option maxRecDepth 100000 in
set_option maxHeartbeats 1000000 in
theorem colon_any (h0 : PS0 all E g v) (h : PSt all E g v w i n) (hn6 : n ≤ 600) (d : Nat) (hd : d ≤ 40) (hF : RC all E g v 81 4 (i + 1)) :
    Calls Tryz.prog 112 #[.pointer (some ⟨g, 0, none⟩), .int .i64 (d : Int)] w (OutK all E g v w (fun k => w.heap.size ≤ k) (colonR E d (all.drop i) n)) := by
  have hgl := lt_of_block h.blk
  unfold colonR
  rw [tail_drop]
  by_cases hm : isT wColon (all.drop i) = true
  · rw [if_pos hm]
    have c1 := must_yes h0 h wColon (by decide) hm
    have c2 : ∀ (w1 : World), PSt all E g v w1 (i + 1) n → Calls Tryz.prog 81 #[.pointer (some ⟨g, 0, none⟩), .int .i64 ((d : Int) + 1)] w1 (OutE all E g v w1 (fun k => w1.heap.size ≤ k) (rd E 4 (d + 1) ex0 (all.drop (i + 1)) n)) := fun w1 h1 => hF w1 n (d + 1) h1 hn6 (by omega)
    have hd' : (d : Int) ≤ 40 := by omega
    have hd0 : (0 : Int) ≤ (d : Int) := by omega
    clear hm
    go_enter Tryz.func112, Tryz.ntmps112
    go_wp2_with fail
    refine c1.mono ?_
    rintro e w1 ⟨rfl, h1, hk1⟩
    go_wp2_with fail
    refine (c2 _ h1).mono ?_
    intro e w2 ho
    cases hx : rd E 4 (d + 1) ex0 (all.drop (i + 1)) n with
    | error q =>
      obtain ⟨er, at_⟩ := q
      rw [hx] at ho
      obtain ⟨rfl, hk2⟩ := ho
      refine ⟨rfl, ?_⟩
      rw [hx]
      exact ⟨rfl, hk1.trans hk2⟩
    | ok q =>
      obtain ⟨ex, rr, nn⟩ := q
      rw [hx] at ho
      obtain ⟨i', sl, dd, hr', rfl, hkd, h2, hn2, hk2⟩ := ho
      obtain ⟨p5, c5, rfl⟩ := hkd.form
      have hs1 := hk1.size
      have hs2 := hk2.size
      have hkw := (hk1.trans hk2).alloc (.cells #[.int .i64 ex.kind, .int .i64 ex.a, .int .i64 ex.b, .string ⟨ex.name.toArray⟩, .slice p5 ex.kids.length c5] 38)
      have hb3 : Below w2.heap.size w2 (w2.alloc (.cells #[.int .i64 ex.kind, .int .i64 ex.a, .int .i64 ex.b, .string ⟨ex.name.toArray⟩, .slice p5 ex.kids.length c5] 38)) := (Below.refl _ _).alloc (Nat.le_refl _) _
      have hkd3 := (Kept.of_below (g := g) hb3).kids (B := fun k => w.heap.size ≤ k) (fun k hk => by omega) (hkd.mono fun k hk => by omega)
      have kk := kids_one (B := fun k => w.heap.size ≤ k) (by show w.heap.size ≤ w2.heap.size; omega) (heap_alloc_new w2 (.cells #[.int .i64 ex.kind, .int .i64 ex.a, .int .i64 ex.b, .string ⟨ex.name.toArray⟩, .slice p5 ex.kids.length c5] 38)) hkd3
      have h3 := h2.below hb3 h0
      have HO : Hid (OutK all E g v w (fun k => w.heap.size ≤ k) (rd E 4 (d + 1) ex0 (all.drop (i + 1)) n) (.returned (.slice (some ⟨w2.heap.size, 0, none⟩) 1 1)) (w2.alloc (.cells #[.int .i64 ex.kind, .int .i64 ex.a, .int .i64 ex.b, .string ⟨ex.name.toArray⟩, .slice p5 ex.kids.length c5] 38))) := by
        show OutK _ _ _ _ _ _ _ _ _
        rw [hx]
        exact ⟨i', _, _, hr', rfl, kk, h3, hn2, hkw⟩
      unfold exV
      clear c1 c2 h1 h2 h3 hk1 hk2 hkw hb3 hkd hkd3 kk hx
      go_wp2_with fail
      go_ret
      exact HO.out
  · have hm' : isT wColon (all.drop i) = false := by simpa using hm
    rw [if_neg hm]
    have c1 := must_no h0 h wColon hm'
    clear hm hm'
    go_enter Tryz.func112, Tryz.ntmps112
    go_wp2_with fail
    refine c1.mono ?_
    rintro e w1 ⟨rfl, hk1⟩
    exact ⟨rfl, rfl, hk1⟩
/-- What behindColon's callers do with it. -/
theorem rd8_colon (E d : Nat) (e : Ex) (r : List Tk) (n : Nat) : rd E 8 d e r n = andThen (colonR E d r n) fun k r n => endedP E ⟨e.kind, e.a, e.b, [], [k]⟩ r n := by
  rw [rd_8]
  unfold colonR
  split
  · rfl
  · rfl
end Go.Proofs.YteheahhifihmjaaGreatDoor

/- What kidsOf, inRange and wrongAlone come to. -/
namespace Go.Proofs.YteheahhifihmjaaGreatDoor
open Go.RowKit Lx

theorem kidsOf_any (k : Int) (w : World) : Calls Tryz.prog 69 #[.int .i64 k] w fun e w' => e = .returned (.int .i64 (kidsP k : Int)) ∧ w' = w := by
  have walk : ∀ (b4 b5 b9 b6 b7 b8 : Bool), (k == 4) = b4 → (k == 5) = b5 → (k == 9) = b9 → (k == 6) = b6 → (k == 7) = b7 → (k == 8) = b8 →
      Calls Tryz.prog 69 #[.int .i64 k] w fun e w' => e = .returned (.int .i64 (if b4 || (b5 || b9) then 1 else if b6 || (b7 || b8) then 2 else 0)) ∧ w' = w := by
    intro b4 b5 b9 b6 b7 b8 h4 h5 h9 h6 h7 h8
    cases b4 <;> cases b5 <;> cases b9 <;> cases b6 <;> cases b7 <;> cases b8 <;> (go_enter Tryz.func69, Tryz.ntmps69; go_wp2; go_ret; exact ⟨rfl, rfl⟩)
  refine (walk _ _ _ _ _ _ rfl rfl rfl rfl rfl rfl).mono ?_
  rintro e w' ⟨rfl, rfl⟩
  refine ⟨?_, rfl⟩
  unfold kidsP
  simp only [Bool.or_eq_true, beq_iff_eq]
  by_cases c1 : k = 4 ∨ k = 5 ∨ k = 9
  · rw [if_pos c1, if_pos c1]; rfl
  · rw [if_neg c1, if_neg c1]
    by_cases c2 : k = 6 ∨ k = 7 ∨ k = 8
    · rw [if_pos c2, if_pos c2]; rfl
    · rw [if_neg c2, if_neg c2]; rfl
end Go.Proofs.YteheahhifihmjaaGreatDoor

/- What inRange comes to. -/
namespace Go.Proofs.YteheahhifihmjaaGreatDoor
open Go.RowKit Lx

set_option maxRecDepth 100000 in
theorem inRange_any (k a b : Int) (nm : ByteArray) (p : Option Addr) (n c : Nat) (w : World) : Calls Tryz.prog 70 #[.agg #[.int .i64 k, .int .i64 a, .int .i64 b, .string nm, .slice p n c]] w fun e w' => e = .returned (.bool (rangeP k a b)) ∧ Below w.heap.size w w' := by
  have hb : Below w.heap.size w (w.alloc (.cells #[.int .i64 k, .int .i64 a, .int .i64 b, .string nm, .slice p n c] 38)) := (Below.refl _ _).alloc (Nat.le_refl _) _
  unfold rangeP
  by_cases h3 : k = 3
  · subst h3
    rw [if_pos rfl]
    by_cases c1 : 0 ≤ a
    · by_cases c2 : a < b
      · by_cases c3 : b ≤ 1440
        · go_enter Tryz.func70, Tryz.ntmps70
          go_wp2
          go_ret
          exact ⟨by first | (simp; done) | (simp; omega), hb⟩
        · go_enter Tryz.func70, Tryz.ntmps70
          go_wp2
          go_ret
          exact ⟨by first | (simp; done) | (simp; omega), hb⟩
      · go_enter Tryz.func70, Tryz.ntmps70
        go_wp2
        go_ret
        exact ⟨by first | (simp; done) | (simp; omega), hb⟩
    · go_enter Tryz.func70, Tryz.ntmps70
      go_wp2
      go_ret
      exact ⟨by first | (simp; done) | (simp; omega), hb⟩
  rw [if_neg h3]
  have i3 : (k == 3) = false := beq_eq_false_iff_ne.2 h3
  by_cases h4 : k = 4
  · subst h4
    rw [if_pos rfl]
    by_cases c1 : 1 ≤ a
    · by_cases c2 : a < 128
      · go_enter Tryz.func70, Tryz.ntmps70
        go_wp2
        go_ret
        exact ⟨by first | (simp; done) | (simp; omega), hb⟩
      · go_enter Tryz.func70, Tryz.ntmps70
        go_wp2
        go_ret
        exact ⟨by first | (simp; done) | (simp; omega), hb⟩
    · go_enter Tryz.func70, Tryz.ntmps70
      go_wp2
      go_ret
      exact ⟨by first | (simp; done) | (simp; omega), hb⟩
  rw [if_neg h4]
  have i4 : (k == 4) = false := beq_eq_false_iff_ne.2 h4
  by_cases h5 : k = 5
  · subst h5
    rw [if_pos rfl]
    by_cases c1 : 0 ≤ a
    · by_cases c2 : a ≤ b
      · by_cases c3 : b < 146097
        · go_enter Tryz.func70, Tryz.ntmps70
          go_wp2
          go_ret
          exact ⟨by first | (simp; done) | (simp; omega), hb⟩
        · go_enter Tryz.func70, Tryz.ntmps70
          go_wp2
          go_ret
          exact ⟨by first | (simp; done) | (simp; omega), hb⟩
      · go_enter Tryz.func70, Tryz.ntmps70
        go_wp2
        go_ret
        exact ⟨by first | (simp; done) | (simp; omega), hb⟩
    · go_enter Tryz.func70, Tryz.ntmps70
      go_wp2
      go_ret
      exact ⟨by first | (simp; done) | (simp; omega), hb⟩
  rw [if_neg h5]
  have i5 : (k == 5) = false := beq_eq_false_iff_ne.2 h5
  by_cases h9 : k = 9
  · subst h9
    rw [if_pos rfl]
    by_cases c1 : a = 0
    · subst c1
      go_enter Tryz.func70, Tryz.ntmps70
      go_wp2
      go_ret
      exact ⟨by first | (simp; done) | (simp; omega), hb⟩
    · have n1 : (a != 0) = true := by simpa using c1
      by_cases c2 : -1440 < a
      · by_cases c3 : a < 1440
        · go_enter Tryz.func70, Tryz.ntmps70
          go_wp2
          go_ret
          exact ⟨by first | (simp; done) | (simp; omega), hb⟩
        · go_enter Tryz.func70, Tryz.ntmps70
          go_wp2
          go_ret
          exact ⟨by first | (simp; done) | (simp; omega), hb⟩
      · go_enter Tryz.func70, Tryz.ntmps70
        go_wp2
        go_ret
        exact ⟨by first | (simp; done) | (simp; omega), hb⟩
  rw [if_neg h9]
  have i9 : (k == 9) = false := beq_eq_false_iff_ne.2 h9
  go_enter Tryz.func70, Tryz.ntmps70
  go_wp2
  go_ret
  exact ⟨rfl, hb⟩
end Go.Proofs.YteheahhifihmjaaGreatDoor

/- What can be a name, of whatever length: the program's. -/
namespace Go.Proofs.YteheahhifihmjaaGreatDoor
open Go.RowKit Lx

set_option maxRecDepth 10000 in
theorem named_big (s : ByteArray) (l : List UInt8) (hs : s.data.toList = l) (hl : l.length ≤ 9223372036854775807) (w : World) :
    Calls Tryz.prog 30 #[.string s] w fun e w' => e = .returned (.bool (namedL l)) ∧ Below w.heap.size w w' := by
  by_cases h20 : l.length ≤ 20
  · exact named_any s l hs (by omega) w
  · have hz : s.size = l.length := by rw [← hs, Lib.size_eq]
    have hq : s.toList.isEmpty = false := by rw [Lib.toList_data, hs]; cases l <;> simp at h20 ⊢
    have i20 : ¬ (l.length : Int) ≤ 20 := by omega
    have HN : Hid (namedL l = false) := by show namedL l = false; simp [namedL, h20]
    clear h20
    go_enter Tryz.func30, Tryz.ntmps30
    go_wp2_with fail
    go_ret
    exact ⟨by rw [HN.out]; rfl, Below.refl _ _⟩
end Go.Proofs.YteheahhifihmjaaGreatDoor

/- What wrongAlone comes to. -/
namespace Go.Proofs.YteheahhifihmjaaGreatDoor
open Go.RowKit Lx

set_option maxRecDepth 100000 in
set_option maxHeartbeats 1000000 in
theorem alone_any (e : Ex) (p : Option Addr) (c : Nat) (hnm : e.name.length ≤ 9223372036854775807) (w : World) : Calls Tryz.prog 54 #[exV e (.slice p e.kids.length c)] w fun r w' => r = .returned (.int .i64 (aloneP e)) ∧ Below w.heap.size w w' := by
  have hb : Below w.heap.size w (w.alloc (.cells #[.int .i64 e.kind, .int .i64 e.a, .int .i64 e.b, .string ⟨e.name.toArray⟩, .slice p e.kids.length c] 38)) := (Below.refl _ _).alloc (Nat.le_refl _) _
  have hx := heap_alloc_new w (.cells #[.int .i64 e.kind, .int .i64 e.a, .int .i64 e.b, .string ⟨e.name.toArray⟩, .slice p e.kids.length c] 38)
  have cK := fun w => kidsOf_any e.kind w
  have cR := fun w => inRange_any e.kind e.a e.b ⟨e.name.toArray⟩ p e.kids.length c w
  have cN := fun w => named_big ⟨e.name.toArray⟩ e.name rfl hnm w
  unfold aloneP exV
  generalize kidsP e.kind = kp at *
  generalize rangeP e.kind e.a e.b = rp at *
  generalize namedL e.name = nb at *
  generalize e.kind = k at *
  generalize e.a = a at *
  generalize e.b = b at *
  generalize (⟨e.name.toArray⟩ : ByteArray) = nm at *
  generalize e.kids.length = n at *
  clear hnm
  generalize hA : (if k < 1 ∨ 10 < k then (1 : Int) else if n ≠ kp then 5 else if rp = false then 3 else if k = 10 ∧ nb = false then 7 else 0) = A
  have HA : Hid ((if k < 1 ∨ 10 < k then (1 : Int) else if n ≠ kp then 5 else if rp = false then 3 else if k = 10 ∧ nb = false then 7 else 0) = A) := hA
  clear hA
  by_cases c1 : k < 1
  · have HE : Hid (A = 1) := by show _ = _; rw [← HA.out, if_pos (.inl c1)]
    go_enter Tryz.func54, Tryz.ntmps54
    go_wp2_with fail
    go_ret
    exact ⟨by rw [HE.out]; rfl, hb⟩
  by_cases c2 : 10 < k
  · have HE : Hid (A = 1) := by show _ = _; rw [← HA.out, if_pos (.inr c2)]
    go_enter Tryz.func54, Tryz.ntmps54
    go_wp2_with fail
    go_ret
    exact ⟨by rw [HE.out]; rfl, hb⟩
  have hk : ¬ (k < 1 ∨ 10 < k) := by omega
  have HK : Hid (¬ (k < 1 ∨ 10 < k)) := hk
  clear hk
  have k0 := (cell_of_row _ _ 0 _ _ _ hx).trans rfl
  have k3 := (cell_of_row _ _ 3 _ _ _ hx).trans rfl
  have k4 := (cell_of_row _ _ 4 _ _ _ hx).trans rfl
  generalize hw1 : w.alloc (.cells #[.int .i64 k, .int .i64 a, .int .i64 b, .string nm, .slice p n c] 38) = w1 at *
  by_cases c3 : n = kp
  · have n3 : ((n : Int) != (kp : Int)) = false := by simp; omega
    have HN : Hid (¬ n ≠ kp) := fun h => h c3
    clear c3
    go_enter Tryz.func54, Tryz.ntmps54
    go_wp2_with fail
    go_quiet ((go_at_call 69; exact Calls.quiet_of_same (cK _)))
    have hx2 : (w1.drewN nq).heap[w.heap.size]? = some (.cells #[.int .i64 k, .int .i64 a, .int .i64 b, .string nm, .slice p n c] 38 (0, 0)) := hx
    have k02 : (w1.drewN nq).cell? ⟨w.heap.size, 0, none⟩ = some (.int .i64 k) := k0
    have k32 : (w1.drewN nq).cell? ⟨w.heap.size, 3, none⟩ = some (.string nm) := k3
    have hb2 := below_drewN hb nq
    clear hx k0 k3 k4 hw1 hb cK
    generalize w1.drewN nq = w2 at *
    cases rp with
    | false =>
      have HE : Hid (A = 3) := by show _ = _; rw [← HA.out, if_neg HK.out, if_neg HN.out, if_pos rfl]
      go_wp2_with (refine wpList_load_row rfl 38 _ rfl _ rfl _ _ _ _ hx2 exprType rfl (by kernel_rfl) ?_)
      refine (cR _).mono ?_
      rintro r w3 ⟨rfl, hb3⟩
      have hb3w := hb2.trans (hb3.mono hb2.size)
      go_wp2_with fail
      go_ret
      exact ⟨by rw [HE.out]; rfl, hb3w⟩
    | true =>
      go_wp2_with (refine wpList_load_row rfl 38 _ rfl _ rfl _ _ _ _ hx2 exprType rfl (by kernel_rfl) ?_)
      refine (cR _).mono ?_
      rintro r w3 ⟨rfl, hb3⟩
      have hb3w := hb2.trans (hb3.mono hb2.size)
      have q0 := (hb3.cell (block_lt_of_cell k02)).trans k02
      have q3 := (hb3.cell (block_lt_of_cell k32)).trans k32
      clear cR hx2 k02 k32 hb3
      by_cases c5 : k = 10
      · have i5 : (k == 10) = true := by simpa using c5
        cases nb with
        | false =>
          have HE : Hid (A = 7) := by show _ = _; rw [← HA.out, if_neg HK.out, if_neg HN.out, if_neg (by decide), if_pos ⟨c5, rfl⟩]
          go_wp2_with fail
          refine (cN _).mono ?_
          rintro r w4 ⟨rfl, hb4⟩
          have hb4w := hb3w.trans (hb4.mono hb3w.size)
          go_wp2_with fail
          go_ret
          exact ⟨by rw [HE.out]; rfl, hb4w⟩
        | true =>
          have HE : Hid (A = 0) := by show _ = _; rw [← HA.out, if_neg HK.out, if_neg HN.out, if_neg (by decide), if_neg (by simp)]
          go_wp2_with fail
          refine (cN _).mono ?_
          rintro r w4 ⟨rfl, hb4⟩
          have hb4w := hb3w.trans (hb4.mono hb3w.size)
          go_wp2_with fail
          go_ret
          exact ⟨by rw [HE.out]; rfl, hb4w⟩
      · have i5 : (k == 10) = false := by simpa using c5
        have HE : Hid (A = 0) := by show _ = _; rw [← HA.out, if_neg HK.out, if_neg HN.out, if_neg (by decide), if_neg (fun h => c5 h.1)]
        go_wp2_with fail
        go_ret
        exact ⟨by rw [HE.out]; rfl, hb3w⟩
  · have n3 : ((n : Int) != (kp : Int)) = true := by simp; omega
    have HE : Hid (A = 5) := by show _ = _; rw [← HA.out, if_neg HK.out, if_pos c3]
    go_enter Tryz.func54, Tryz.ntmps54
    go_wp2_with fail
    go_quiet ((go_at_call 69; exact Calls.quiet_of_same (cK _)))
    have hb2 := below_drewN hb nq
    go_wp2_with fail
    go_ret
    exact ⟨by rw [HE.out]; rfl, hb2⟩
end Go.Proofs.YteheahhifihmjaaGreatDoor
