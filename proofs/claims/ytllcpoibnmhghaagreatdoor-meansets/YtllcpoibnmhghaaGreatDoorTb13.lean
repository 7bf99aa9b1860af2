/- The reader whole; how deep an expression is. -/
import Derived.Test.YtllcpoibnmhghaaGreatDoorTb12
import Derived.Test.YtllcpoibnmhghaaGreatDoorTb02
import Derived.Deep.QuietTactic
import Derived.BigQuiet
import Derived.Defers
import Derived.Recover
namespace Go.Proofs.YtllcpoibnmhghaaGreatDoor
open Go.RowKit Lx
variable {all : List Tk} {E g : Nat} {v : Value} {w : World} {i n : Nat}

theorem reader_all (h0 : PS0 all E g v) : ∀ (k i : Nat), all.length + 1 - i ≤ k →
    RC all E g v 105 6 i ∧ RC all E g v 100 4 i ∧ RC all E g v 88 2 i ∧ RC all E g v 77 0 i
  | 0, i, hk => ⟨fun _ _ _ h _ _ => absurd h.le (by omega), fun _ _ _ h _ _ => absurd h.le (by omega), fun _ _ _ h _ _ => absurd h.le (by omega), fun _ _ _ h _ _ => absurd h.le (by omega)⟩
  | k + 1, i, hk => by
    have ih := fun j (hj : i < j) => reader_all h0 k j (by omega)
    have t := thing_step h0 (fun j hj => (ih j hj).2.2.2) (fun j hj => (ih j hj).2.1)
    have f := factor_step h0 t
    have m := term_step h0 f (fun j hj => (ih j hj).2.1)
    exact ⟨t, f, m, sum_step h0 m (fun j hj => (ih j hj).2.2.1)⟩
theorem sum_all (h0 : PS0 all E g v) (i : Nat) : RC all E g v 77 0 i := (reader_all h0 _ i (Nat.le_refl _)).2.2.2
end Go.Proofs.YtllcpoibnmhghaaGreatDoor

/- What height comes to. -/
namespace Go.Proofs.YtllcpoibnmhghaaGreatDoor
open Go.RowKit Lx

set_option maxRecDepth 100000 in
set_option maxHeartbeats 1000000 in
theorem height_any (B : Nat → Prop) : ∀ (d : Nat) (e : Ex) (sl : Value) (w : World), KidsAt B d w sl e.kids → hgt e ≤ 1000000 →
    Calls Tryz.prog 78 #[exV e sl] w fun r w' => r = .returned (.int .i64 (hgt e : Int)) ∧ Below w.heap.size w w' := by
  intro d
  induction d with
  | zero =>
    intro e sl w hk hh
    obtain ⟨hks, p, c, rfl⟩ := hk
    have he : hgt e = 1 := by rw [hgt_eq, hks]; rfl
    rw [he]
    unfold exV
    go_enter Tryz.func78, Tryz.ntmps78
    go_wp2_with fail
    refine wp_loop_rounds 1 ?_
    rw [rounds_succ]
    go_wp2_with fail
    go_ret
    exact ⟨rfl, (Below.refl _ _).alloc (Nat.le_refl _) _⟩
  | succ d ih =>
    intro e sl w hk hh
    rcases hk with ⟨hks, p, c, rfl⟩ | ⟨g, o, c, hB, rfl, hlen, hkid⟩
    · have he : hgt e = 1 := by rw [hgt_eq, hks]; rfl
      rw [he]
      unfold exV
      go_enter Tryz.func78, Tryz.ntmps78
      go_wp2_with fail
      refine wp_loop_rounds 1 ?_
      rw [rounds_succ]
      go_wp2_with fail
      go_ret
      exact ⟨rfl, (Below.refl _ _).alloc (Nat.le_refl _) _⟩
    · have HK : Hid (∀ (j : Nat) (k : Ex), e.kids[j]? = some k → ∃ sk : Value,
        w.cell? ⟨g, o + j * 5, none⟩ = some (.int .i64 k.kind) ∧ w.cell? ⟨g, o + j * 5 + 1, none⟩ = some (.int .i64 k.a) ∧ w.cell? ⟨g, o + j * 5 + 2, none⟩ = some (.int .i64 k.b) ∧
        w.cell? ⟨g, o + j * 5 + 3, none⟩ = some (.string ⟨k.name.toArray⟩) ∧ w.cell? ⟨g, o + j * 5 + 4, none⟩ = some sk ∧ KidsAt B d w sk k.kids) := hkid
      have HE : Hid (hgt e = hgtL e.kids + 1) := hgt_eq e
      have HM : Hid (∀ k ∈ e.kids, hgt k < hgt e) := fun k h => hgt_kid h
      have hb0 : Below w.heap.size w (w.alloc (.cells #[.int .i64 e.kind, .int .i64 e.a, .int .i64 e.b, .string ⟨e.name.toArray⟩, .slice (some ⟨g, o, none⟩) e.kids.length c] 25)) := (Below.refl _ _).alloc (Nat.le_refl _) _
      unfold exV
      clear hkid
      go_enter Tryz.func78, Tryz.ntmps78
      go_wp2_with fail
      go_loopw [3, 9] (fun q t wr => ∃ j : Nat, t = .int .i64 (j : Int) ∧ j ≤ e.kids.length ∧ q = .int .i64 (hgtL (e.kids.take j) : Int) ∧ hgtL (e.kids.take j) ≤ 1000000 ∧ Below w.heap.size w wr) (fun _ t _ => e.kids.length - (intOf t).toNat)
      case atStart => exact ⟨0, rfl, by omega, rfl, by simp [hgtL], hb0⟩
      case round =>
        obtain ⟨j, rfl, hj, rfl, hm, hbel⟩ := hrel
        have hj0 : (0 : Int) ≤ (j : Int) := by omega
        by_cases hlt : j < e.kids.length
        · have hlt' : (j : Int) < (e.kids.length : Int) := by omega
          obtain ⟨k, hjk⟩ : ∃ k, e.kids[j]? = some k := ⟨e.kids[j], List.getElem?_eq_getElem hlt⟩
          obtain ⟨sk, c0, c1, c2, c3, c4, hkk⟩ := HK.out j k hjk
          have hkm := HM.out k (List.mem_of_getElem? hjk)
          have ht : e.kids.take (j + 1) = e.kids.take j ++ [k] := by
            obtain ⟨h1, h2⟩ := List.getElem?_eq_some_iff.1 hjk
            rw [List.take_succ_eq_append_getElem h1, h2]
          have hn : hgtL (e.kids.take (j + 1)) = max (hgtL (e.kids.take j)) (hgt k) := by rw [ht, hgtL_snoc]
          obtain ⟨ps, cs, rfl⟩ := hkk.form
          have d0 := (hbel.cell (block_lt_of_cell c0)).trans c0
          have d1 := (hbel.cell (block_lt_of_cell c1)).trans c1
          have d2 := (hbel.cell (block_lt_of_cell c2)).trans c2
          have d3 := (hbel.cell (block_lt_of_cell c3)).trans c3
          have d4 := (hbel.cell (block_lt_of_cell c4)).trans c4
          have hbA := hbel.alloc hbel.size (.cells #[.int .i64 k.kind, .int .i64 k.a, .int .i64 k.b, .string ⟨k.name.toArray⟩, .slice ps k.kids.length cs] 25)
          have cR := ih k (.slice ps k.kids.length cs) (wr.alloc (.cells #[.int .i64 k.kind, .int .i64 k.a, .int .i64 k.b, .string ⟨k.name.toArray⟩, .slice ps k.kids.length cs] 25)) (hkk.kept fun q _ hq => hbA.block q hq) (by omega)
          have hxB := heap_alloc_new wr (.cells #[.int .i64 k.kind, .int .i64 k.a, .int .i64 k.b, .string ⟨k.name.toArray⟩, .slice ps k.kids.length cs] 25)
          unfold exV at cR
          have HN : Hid (hgtL (e.kids.take (j + 1)) = max (hgtL (e.kids.take j)) (hgt k)) := hn
          have hk6 : (hgt k : Int) ≤ 1000000 := by omega
          have hm6 : (hgtL (e.kids.take j) : Int) ≤ 1000000 := by omega
          generalize hgt k = H at *
          generalize hgtL (e.kids.take j) = M at *
          clear hn ht hkk c0 c1 c2 c3 c4 hjk hkm
          generalize hwB : wr.alloc (.cells #[.int .i64 k.kind, .int .i64 k.a, .int .i64 k.b, .string ⟨k.name.toArray⟩, .slice ps k.kids.length cs] 25) = wB at *
          go_wp2_with (refine wpList_load_row rfl 25 _ rfl _ rfl _ _ _ _ hxB exprType rfl (by kernel_rfl) ?_)
          refine cR.mono ?_
          rintro e' w2 ⟨rfl, hb2⟩
          have hbw2 := hbA.trans (hb2.mono hbA.size)
          clear cR hb2 hbA hwB hxB
          go_wp2_with fail
          go_roundw
          case rel => exact ⟨j + 1, by go_num, by omega, by rw [HN.out]; exact i64_eq (by omega), by rw [HN.out]; omega, hbw2⟩
          case measure => simp [intOf]; omega
        · have ej : j = e.kids.length := by omega
          have hlt' : ¬ (j : Int) < (e.kids.length : Int) := by omega
          have HR : Hid (hgt e = hgtL (e.kids.take j) + 1) := by
            show _ = _
            rw [HE.out, ej, List.take_length]
          have hm6 : (hgtL (e.kids.take j) : Int) ≤ 1000000 := by omega
          generalize hgtL (e.kids.take j) = M at *
          clear HE HK HM ej
          go_wp2_with fail
          go_ret
          exact ⟨by rw [HR.out]; rfl, hbel⟩
end Go.Proofs.YtllcpoibnmhghaaGreatDoor

/- What rule comes to. -/
namespace Go.Proofs.YtllcpoibnmhghaaGreatDoor
open Go.RowKit Lx
variable {all : List Tk} {E g : Nat} {v : Value} {w : World} {i n : Nat}

/-- A rule as it is handed on. -/
def ruV (u : Ru) (sl : Value) : Value := .agg #[.string ⟨u.1.toArray⟩, .int .i64 u.2.kind, .int .i64 u.2.a, .int .i64 u.2.b, .string ⟨u.2.name.toArray⟩, sl]
def OutR (all : List Tk) (E g : Nat) (v : Value) (w : World) (B : Nat → Prop) (x : Except (Int × Nat) (Ru × List Tk)) (e : Ending) (w' : World) : Prop :=
  match x with
  | .error (er, at_) => e = .panicked (thrownV er at_) ∧ Kept g w w'
  | .ok (u, r) => ∃ (i m : Nat) (sl : Value) (d : Nat), r = all.drop i ∧ e = .returned (ruV u sl) ∧ KidsAt B d w' sl u.2.kids ∧ PSt all E g v w' i m ∧ m ≤ 600 ∧ Kept g w w'
def ru0C : Array Value := #[.string ⟨#[]⟩, .int .i64 0, .int .i64 0, .int .i64 0, .string ⟨#[]⟩, .slice none 0 0]
theorem ruleType : Tryz.prog.underlying 38 = some (.struct (Tryz.prog.fieldsOf 38)) := by kernel_rfl
theorem ru_ret {fn : Func} (s : Nat) (h : fn.results = #[ResultVar.cell s 38]) {R : Ending → World → Prop} {a : Act} {w : World} (g : Nat) (c0 c1 c2 c3 c4 c5 : Value) (hd : a.defers = []) (h2 : a.tmps.getD s undef = .pointer (some ⟨g, 0, none⟩))
    (hg : w.heap[g]? = some (.cells #[c0, c1, c2, c3, c4, c5] 38 (0, 0))) (hR : R (.returned (.agg #[c0, c1, c2, c3, c4, c5])) w) : bodyPost Tryz.prog fn R .ret a w := by
  refine bodyPost_ret (v := .agg #[c0, c1, c2, c3, c4, c5]) ?_ hd hR
  have h2' : a.tmps[s]?.getD undef = .pointer (some ⟨g, 0, none⟩) := by simpa using h2
  have hv := run_loadVar_row (P := Tryz.prog) w g 38 38 _ _ _ hg ruleType rfl (by kernel_rfl)
  simp [results, h, h2', asAddr, hv]

set_option maxRecDepth 100000 in
set_option maxHeartbeats 2000000 in
theorem rule_any (h0 : PS0 all E g v) (h : PSt all E g v w i n) :
    Calls Tryz.prog 58 #[.pointer (some ⟨g, 0, none⟩)] w (OutR all E g v w (fun k => w.heap.size ≤ k) (ruleR E (all.drop i))) := by
  have hgl := lt_of_block h.blk
  have hb0 : Below w.heap.size w (w.alloc (.cells #[.string ⟨#[]⟩, .int .i64 0, .int .i64 0, .int .i64 0, .string ⟨#[]⟩, .slice none 0 0] 38)) := (Below.refl _ _).alloc (Nat.le_refl _) _
  have hz : (w.alloc (.cells #[.string ⟨#[]⟩, .int .i64 0, .int .i64 0, .int .i64 0, .string ⟨#[]⟩, .slice none 0 0] 38)).heap[w.heap.size]? = some (.cells ru0C 38 (0, 0)) := heap_alloc_new w _
  have hA := h.below hb0 h0
  have hkA := Kept.of_below (g := g) hb0
  generalize hX : ruleR E (all.drop i) = X
  unfold ruleR at hX
  simp only [tail_drop] at hX
  generalize hwA : w.alloc (.cells #[.string ⟨#[]⟩, .int .i64 0, .int .i64 0, .int .i64 0, .string ⟨#[]⟩, .slice none 0 0] 38) = wA at *
  by_cases h1k : kindP (all.drop i) = 1
  · rw [if_neg (by simp [h1k])] at hX
    have c1 := take_yes h0 hA 1 (by decide) h1k
    unfold tokV at c1
    by_cases hm : isT wIs (all.drop (i + 1)) = true
    · rw [if_pos hm] at hX
      have c2 := fun (w1 : World) (h1 : PSt all E g v w1 (i + 1) n) => must_yes h0 h1 wIs (by decide) hm
      have c3 : ∀ (w1 : World), PSt all E g v w1 (i + 1 + 1) 0 → Calls Tryz.prog 77 #[.pointer (some ⟨g, 0, none⟩), .int .i64 1] w1 (OutE all E g v w1 (fun k => w1.heap.size ≤ k) (rd E 0 1 ex0 (all.drop (i + 1 + 1)) 0)) := fun w1 h1 => sum_all h0 (i + 1 + 1) w1 0 1 h1 (by omega) (by omega)
      have HX : Hid ((match rd E 0 1 ex0 (all.drop (i + 1 + 1)) 0 with
        | .error q => Except.error q
        | .ok (e, q, _) => if 40 < hgt e then .error (4, atP E q) else if isT wSemi q then .ok ((textP (all.drop i), e), q.tail) else .error (2, atP E q)) = X) := hX
      generalize kindP (all.drop i) = t0 at *
      generalize numP (all.drop i) = t1 at *
      generalize (atP E (all.drop i) : Int) = t2 at *
      generalize textP (all.drop i) = nm at *
      clear hm h1k hX
      go_enter Tryz.func58, Tryz.ntmps58
      go_wp2_with fail
      refine c1.mono ?_
      rintro e w1 ⟨rfl, h1, hk1⟩
      go_wp2_with fail
      refine (c2 _ h1).mono ?_
      rintro e w2 ⟨rfl, h2, hk2⟩
      have k3 := (cell_of_row _ _ 3 _ _ _ h2.blk).trans rfl
      have y3 := frozen_of_row _ _ 3 _ _ h2.blk
      have h3 : PSt all E g v (w2.setCell ⟨g, 3, none⟩ (.int .i64 0)) (i + 1 + 1) 0 := h2.setN h0 0
      have hk3 := (hk1.trans hk2).trans (Kept.set w2 g 3 (.int .i64 0))
      have hz3 := hk3.at hz (by omega)
      have hkw3 := hkA.trans hk3
      have hl3 := lt_of_block hz3
      clear c1 c2 h1 hk1 hk2 hk3 hA hkA hb0 hwA hz
      go_wp2_with fail
      refine (c3 _ h3).mono ?_
      intro e w4 ho
      clear c3 k3 y3
      cases hx : rd E 0 1 ex0 (all.drop (i + 1 + 1)) 0 with
      | error q =>
        obtain ⟨er, at_⟩ := q
        have hXX := HX.out
        rw [hx] at ho hXX
        obtain ⟨rfl, hk4⟩ := ho
        refine ⟨rfl, ?_⟩
        rw [← hXX]
        exact ⟨rfl, hkw3.trans hk4⟩
      | ok q =>
        obtain ⟨ex, rr, nn⟩ := q
        have hh := rd_hgt hx
        have hXX := HX.out
        rw [hx] at ho hXX
        obtain ⟨i4, sl, dd, hr4, rfl, hkd, h4, hn4, hk4⟩ := ho
        subst hr4
        obtain ⟨p5, c5, rfl⟩ := hkd.form
        dsimp only at hXX
        have hs4 := hk4.size
        have hz4 := hk4.at hz3 (by omega)
        have hb5 : Below w4.heap.size w4 (w4.alloc (.cells #[.int .i64 ex.kind, .int .i64 ex.a, .int .i64 ex.b, .string ⟨ex.name.toArray⟩, .slice p5 ex.kids.length c5] 25)) := (Below.refl _ _).alloc (Nat.le_refl _) _
        have h5 := h4.below hb5 h0
        have he5 := heap_alloc_new w4 (.cells #[.int .i64 ex.kind, .int .i64 ex.a, .int .i64 ex.b, .string ⟨ex.name.toArray⟩, .slice p5 ex.kids.length c5] 25)
        have hz5 := (hb5.block _ (lt_of_block hz4)).trans hz4
        have hkw5 := (hkw3.trans hk4).trans (Kept.of_below hb5)
        have hkd5 : KidsAt (fun k => w.heap.size + 1 ≤ k) dd (w4.alloc (.cells #[.int .i64 ex.kind, .int .i64 ex.a, .int .i64 ex.b, .string ⟨ex.name.toArray⟩, .slice p5 ex.kids.length c5] 25)) (.slice p5 ex.kids.length c5) ex.kids := (Kept.of_below (g := g) hb5).kids (fun k hk => by omega) (hkd.mono fun k hk => by omega)
        have c6 := height_any _ dd ex _ _ hkd5 (by omega)
        unfold exV at c6 ⊢
        have HXX : Hid ((if 40 < hgt ex then Except.error (4, atP E (all.drop i4)) else if isT wSemi (all.drop i4) then .ok ((nm, ex), (all.drop i4).tail) else .error (2, atP E (all.drop i4))) = X) := hXX
        clear hkd h3 h4 hk4 hb5 hx hXX HX hz3 hz4 hkw3
        generalize hw5 : w4.alloc (.cells #[.int .i64 ex.kind, .int .i64 ex.a, .int .i64 ex.b, .string ⟨ex.name.toArray⟩, .slice p5 ex.kids.length c5] 25) = w5 at *
        go_wp2_with (refine wpList_load_row rfl 25 _ rfl _ rfl _ _ _ _ he5 exprType rfl (by kernel_rfl) ?_)
        refine c6.mono ?_
        rintro e w6 ⟨rfl, hb6⟩
        have h6 := h5.below hb6 h0
        have he6 := (hb6.block _ (lt_of_block he5)).trans he5
        have hz6 := (hb6.block _ (lt_of_block hz5)).trans hz5
        have hkw6 := hkw5.trans (Kept.of_below hb6)
        have hkd6 := (Kept.of_below (g := g) hb6).kids (fun k hk => by omega) hkd5
        clear c6 hb6 h5 he5 hz5 hkw5 hkd5 hw5
        by_cases h40 : 40 < hgt ex
        · have h40' : (40 : Int) < (hgt ex : Int) := by omega
          have hXX := HXX.out
          rw [if_pos h40] at hXX
          have HE : Hid (X = .error (4, atP E (all.drop i4))) := hXX.symm
          generalize hgt ex = H at *
          clear hXX HXX
          go_wp2_with fail
          refine (fail_any h0 h6 4).mono ?_
          rintro e w7 ⟨rfl, hb7⟩
          refine ⟨rfl, ?_⟩
          rw [HE.out]
          exact ⟨rfl, hkw6.trans (Kept.of_below hb7)⟩
        · have h40' : ¬ (40 : Int) < (hgt ex : Int) := by omega
          have hXX := HXX.out
          rw [if_neg h40] at hXX
          generalize hgt ex = H at *
          clear HXX
          by_cases hs : isT wSemi (all.drop i4) = true
          · rw [if_pos hs, tail_drop] at hXX
            have c7 := must_yes h0 h6 wSemi (by decide) hs
            have HE : Hid (X = .ok ((nm, ex), all.drop (i4 + 1))) := hXX.symm
            clear hXX hs
            go_wp2_with fail
            refine c7.mono ?_
            rintro e w7 ⟨rfl, h7, hk7⟩
            have he7 := hk7.at he6 (by omega)
            have hz7 := hk7.at hz6 (by omega)
            have hkw7 := hkw6.trans hk7
            have hkd7 := hk7.kids (fun k hk => by omega) hkd6
            have HO : Hid (∀ cs, OutR all E g v w (fun k => w.heap.size ≤ k) X (.returned (ruV (nm, ex) (.slice p5 ex.kids.length c5))) (w7.setRow w.heap.size cs)) := fun cs => by
              rw [HE.out]
              exact ⟨i4 + 1, nn, _, dd, rfl, rfl, (hkd7.kept fun k hk _ => setRow_other _ _ _ _ (by omega)).mono fun k hk => by omega, h.of_kept h0 (hkw7.setRow (Nat.le_refl _) cs) ((setRow_other _ _ _ _ (by omega)).trans h7.blk) h7.le, hn4, hkw7.setRow (Nat.le_refl _) cs⟩
            unfold ruV at HO
            clear c7 h6 h7 hk7 hkw6 hkw7 hkd6 hkd7 he6 hz6 HE
            go_wp2_with (first
              | (refine wpList_load_row rfl 25 _ rfl _ rfl _ _ _ _ he7 exprType rfl (by kernel_rfl) ?_)
              | (refine wpList_store_row rfl 38 _ _ rfl _ _ rfl rfl _ _ hz7 (by kernel_rfl) (by rfl) (by simp [Value.oneCell']) ?_))
            exact ru_ret 2 (by kernel_rfl) w.heap.size _ _ _ _ _ _ rfl rfl (setRow_heap _ _ _ _ _ _ hz7) (HO.out _)
          · have hs' : isT wSemi (all.drop i4) = false := by simpa using hs
            rw [if_neg hs] at hXX
            have c7 := must_no h0 h6 wSemi hs'
            have HE : Hid (X = .error (2, atP E (all.drop i4))) := hXX.symm
            clear hXX hs hs'
            go_wp2_with fail
            refine c7.mono ?_
            rintro e w7 ⟨rfl, hk7⟩
            refine ⟨rfl, ?_⟩
            rw [HE.out]
            exact ⟨rfl, hkw6.trans hk7⟩
    · have hm' : isT wIs (all.drop (i + 1)) = false := by simpa using hm
      rw [if_neg hm] at hX
      have c2 := fun (w1 : World) (h1 : PSt all E g v w1 (i + 1) n) => must_no h0 h1 wIs hm'
      subst hX
      clear hm hm' h1k
      go_enter Tryz.func58, Tryz.ntmps58
      go_wp2_with fail
      refine c1.mono ?_
      rintro e w1 ⟨rfl, h1, hk1⟩
      go_wp2_with fail
      refine (c2 _ h1).mono ?_
      rintro e w2 ⟨rfl, hk2⟩
      exact ⟨rfl, rfl, (hkA.trans hk1).trans hk2⟩
  · rw [if_pos h1k] at hX
    have c1 := take_no h0 hA 1 h1k
    subst hX
    go_enter Tryz.func58, Tryz.ntmps58
    go_wp2_with fail
    refine c1.mono ?_
    rintro e w1 ⟨rfl, hk1⟩
    exact ⟨rfl, rfl, hkA.trans hk1⟩
end Go.Proofs.YtllcpoibnmhghaaGreatDoor

/- What rules comes to. -/
namespace Go.Proofs.YtllcpoibnmhghaaGreatDoor
open Go.RowKit Lx
variable {all : List Tk} {E g : Nat} {v : Value} {w : World} {i n : Nat}

/-- The cells of a row of rules, each with its kids' row. -/
def flatR : List (Ru × Value) → List Value
  | [] => []
  | p :: l => .string ⟨p.1.1.toArray⟩ :: .int .i64 p.1.2.kind :: .int .i64 p.1.2.a :: .int .i64 p.1.2.b :: .string ⟨p.1.2.name.toArray⟩ :: p.2 :: flatR l
theorem flatR_snoc (p : Ru × Value) : ∀ l : List (Ru × Value), flatR (l ++ [p]) = flatR l ++ [.string ⟨p.1.1.toArray⟩, .int .i64 p.1.2.kind, .int .i64 p.1.2.a, .int .i64 p.1.2.b, .string ⟨p.1.2.name.toArray⟩, p.2]
  | [] => rfl
  | q :: l => by simp [flatR, flatR_snoc p l]
theorem ruleInfo : (Tryz.prog.info? 38).map (fun i => (i.zero, i.size, i.bytes)) = some (some (.agg #[.string ⟨#[]⟩, .int .i64 0, .int .i64 0, .int .i64 0, .string ⟨#[]⟩, .slice none 0 0]), 6, 80) := by kernel_rfl
theorem rulesType : Tryz.prog.underlying 22 = some (.slice 38) := by kernel_rfl
theorem row_form {w : World} {base : Nat} {e : TypeId} {size : Nat} {v : Value} {n : Nat} {xs : List Value} (h : w.ownsRow base e size v n xs) : ∃ p c, v = .slice p n c := by
  obtain ⟨_, h2⟩ := h
  rcases h2 with ⟨h2, h3⟩ | ⟨g, cap, _, h2, _⟩
  · exact ⟨none, 0, by rw [h2, h3]⟩
  · exact ⟨_, cap, h2⟩
/-- A row of rules of the call's own. -/
structure RowR (w0 w : World) (v : Value) (us : List (Ru × Value)) : Prop where
  own : w.ownsRow w0.heap.size 38 6 v us.length (flatR us)
  kids : ∀ p ∈ us, ∃ d, KidsAt (fun k => w0.heap.size ≤ k) d w p.2 p.1.2.kids
def OutL (g : Nat) (w : World) (x : Except (Int × Nat) (List Ru)) (e : Ending) (w' : World) : Prop :=
  match x with
  | .error (er, at_) => e = .panicked (thrownV er at_) ∧ Kept g w w'
  | .ok rs => ∃ (vr : Value) (us : List (Ru × Value)), e = .returned vr ∧ us.map (·.1) = rs ∧ RowR w w' vr us ∧ us.length ≤ 40 ∧ Kept g w w'
theorem ruleR_len {E : Nat} {r q : List Tk} {u : Ru} (h : ruleR E r = .ok (u, q)) : q.length < r.length := by
  unfold ruleR at h
  split at h
  · cases h
  · rename_i h1
    have h1' := kindP_cons (r := r) (by omega)
    split at h
    · split at h
      · cases h
      · rename_i e q' n' hx
        have hl := rd_len (by omega) hx
        split at h
        · cases h
        · split at h
          · cases h
            simp only [List.length_tail] at hl ⊢
            omega
          · cases h
    · cases h
theorem RowR.kept {w0 w w' : World} {vr : Value} {us : List (Ru × Value)} (h : RowR w0 w vr us) (hk : Kept g w w') (hg : g < w0.heap.size) : RowR w0 w' vr us := by
  refine ⟨h.own.kept hk (.inr fun e => ?_), fun p hp => ?_⟩
  · have := (h.own.lt g e).1
    omega
  · obtain ⟨d, hd⟩ := h.kids p hp
    exact ⟨d, hk.kids (fun k hk => by omega) hd⟩
theorem kids_grown {w0 w w' : World} {vr : Value} {xs : List Value} {m : Nat} {ks : List Ex} {sl : Value} {d : Nat} (ho : w.ownsRow w0.heap.size 38 6 vr m xs) (hg : w.grownBy w' vr.ownBlock) (h : KidsAt (fun k => w0.heap.size ≤ k) d w sl ks) : KidsAt (fun k => w0.heap.size ≤ k) d w' sl ks := by
  obtain ⟨_, h2⟩ := ho
  rcases h2 with ⟨rfl, _⟩ | ⟨b, cap, cur, rfl, _, hh, _⟩
  · exact h.kept fun k _ hl => hg.block k hl (fun e => by cases e)
  · refine ((h.other hh (by decide)).kept fun k hk hl => hg.block k hl (fun e => hk.2 (Option.some.inj e))).mono fun k hk => hk.1
theorem rulesR_step {E f : Nat} {acc : List Ru} {r : List Tk} (h : r.length ≠ 0) : rulesR E (f + 1) acc r = if isT wRule r then (if acc.length = 40 then .error (5, atP E r.tail) else match ruleR E r.tail with | .error q => .error q | .ok (u, q) => rulesR E f (acc ++ [u]) q) else .error (2, atP E r) := by
  rw [rulesR, if_neg h]
  rfl
theorem rulesR_end {E f : Nat} {acc : List Ru} {r : List Tk} (h : r.length = 0) : rulesR E f acc r = .ok acc := by
  cases f with
  | zero => rfl
  | succ f => rw [rulesR, if_pos h]
set_option maxRecDepth 100000 in
set_option maxHeartbeats 4000000 in
theorem rules_any (h0 : PS0 all E g v) (h : PSt all E g v w i n) :
    Calls Tryz.prog 44 #[.pointer (some ⟨g, 0, none⟩)] w (OutL g w (rulesR E ((all.drop i).length + 1) [] (all.drop i))) := by
  have hgl := lt_of_block h.blk
  obtain ⟨i0, hi, hz0, hz1, hz2⟩ := info_parts ruleInfo
  have hlen := h0.len
  generalize hX : rulesR E ((all.drop i).length + 1) [] (all.drop i) = X
  have HX : Hid (rulesR E ((all.drop i).length + 1) [] (all.drop i) = X) := hX
  clear hX
  go_enter Tryz.func44, Tryz.ntmps44
  go_wp2_with fail
  go_loopw [3] (fun q wr => ∃ (us : List (Ru × Value)) (f j m : Nat), rulesR E f (us.map (·.1)) (all.drop j) = X ∧ (all.drop j).length < f ∧ us.length ≤ 40 ∧ RowR w wr q us ∧ PSt all E g v wr j m ∧ Kept g w wr) (fun _ wr => all.length - posOf g wr)
  case atStart => exact ⟨[], _, i, n, HX.out, by omega, by simp, ⟨World.ownsRow_nil _ _ _ _, fun p hp => by cases hp⟩, h, Kept.refl _ _⟩
  case round =>
    obtain ⟨us, f, j, m, hXr, hf, h40, hrow, hst, hkp⟩ := hrel
    clear HX
    have hp := hst.pos
    have k0 := (cell_of_row _ _ 0 _ _ _ hst.blk).trans rfl
    have k1 := (cell_of_row _ _ 1 _ _ _ hst.blk).trans rfl
    obtain ⟨pv, cv, ev⟩ := TRow.form hst.row
    have hjl := hst.le
    have HXr : Hid (rulesR E f (us.map (·.1)) (all.drop j) = X) := hXr
    have HV : Hid (v = .slice pv all.length cv) := ev
    rw [ev] at k0
    clear hXr ev
    by_cases hlt : j < all.length
    · have hlt' : (j : Int) < (all.length : Int) := by omega
      go_wp2_with fail
      go_quiet (fail)
      have hbq : Below wr.heap.size wr (wr.drewN nq) := below_drewN (Below.refl _ _) nq
      have hst1 := hst.below hbq h0
      have hkp1 := hkp.trans (Kept.of_below hbq)
      have hrow1 := hrow.kept (Kept.of_below (g := g) hbq) hgl
      clear hst hkp hrow hbq k0 k1
      generalize wr.drewN nq = w1 at *
      obtain ⟨f, rfl⟩ : ∃ f', f = f' + 1 := ⟨f - 1, by omega⟩
      have hXX := HXr.out
      rw [rulesR_step (by simp; omega), tail_drop] at hXX
      clear HXr
      by_cases hR : isT wRule (all.drop j) = true
      · rw [if_pos hR] at hXX
        have c2 := must_yes h0 hst1 wRule (by decide) hR
        by_cases hm : us.length = 40
        · rw [if_pos (by simpa using hm)] at hXX
          have HE : Hid (X = .error (5, atP E (all.drop (j + 1)))) := hXX.symm
          obtain ⟨pq, cq, rfl⟩ := row_form hrow1.own
          have hm' : ((us.length : Int) == 40) = true := by rw [hm]; rfl
          clear hXX hR hm
          go_wp2_with fail
          refine c2.mono ?_
          rintro e w2 ⟨rfl, h2, hk2⟩
          go_wp2_with fail
          refine (fail_any h0 h2 5).mono ?_
          rintro e w3 ⟨rfl, hb3⟩
          refine ⟨rfl, ?_⟩
          rw [HE.out]
          exact ⟨rfl, (hkp1.trans hk2).trans (Kept.of_below hb3)⟩
        · rw [if_neg (by simpa using hm)] at hXX
          have hm' : ((us.length : Int) == 40) = false := beq_eq_false_iff_ne.2 (by omega)
          have hj1 := isT_len (by decide) hR
          have HXX : Hid ((match ruleR E (all.drop (j + 1)) with | .error q => .error q | .ok (u, q) => rulesR E f (us.map (·.1) ++ [u]) q) = X) := hXX
          have cR := fun (W : World) (hW : PSt all E g v W (j + 1) m) => rule_any h0 hW
          have hown1 := hrow1.own
          obtain ⟨pq, cq, eq⟩ := row_form hown1
          have HQ : Hid (u3 = .slice pq us.length cq) := eq
          subst eq
          clear hXX hR hown1
          go_wp2_with fail
          refine c2.mono ?_
          rintro e w2 ⟨rfl, h2, hk2⟩
          have hkp2 := hkp1.trans hk2
          have hrow2 := hrow1.kept hk2 hgl
          clear hrow1 hst1 hkp1 c2
          go_wp2_with fail
          refine (cR _ h2).mono ?_
          intro e w3 ho
          clear cR
          cases hx : ruleR E (all.drop (j + 1)) with
          | error q =>
            obtain ⟨er, at_⟩ := q
            have hXX := HXX.out
            rw [hx] at ho hXX
            obtain ⟨rfl, hk3⟩ := ho
            refine ⟨rfl, ?_⟩
            rw [← hXX]
            exact ⟨rfl, hkp2.trans hk3⟩
          | ok q =>
            obtain ⟨u, rr⟩ := q
            have hql := ruleR_len hx
            have hXX := HXX.out
            rw [hx] at ho hXX
            obtain ⟨i3, m3, sl, d3, hr3, rfl, hkd, h3, hm3, hk3⟩ := ho
            subst hr3
            obtain ⟨p3, c3, rfl⟩ := hkd.form
            have hrow3 := hrow2.kept hk3 hgl
            have hkp3 := hkp2.trans hk3
            have hs2 := hkp2.size
            have hs3 := hkp3.size
            have HN : Hid (rulesR E f ((us ++ [(u, Value.slice p3 u.2.kids.length c3)]).map (fun p => p.1)) (all.drop i3) = X) := by
              show _ = _
              rw [List.map_append]; exact hXX
            have hb4 : Below w3.heap.size w3 (w3.alloc (.cells #[.string ⟨u.1.toArray⟩, .int .i64 u.2.kind, .int .i64 u.2.a, .int .i64 u.2.b, .string ⟨u.2.name.toArray⟩, .slice p3 u.2.kids.length c3] 38)) := (Below.refl _ _).alloc (Nat.le_refl _) _
            have hrow4 := hrow3.kept (Kept.of_below (g := g) hb4) hgl
            have h4 := h3.below hb4 h0
            have hkp4 := hkp3.trans (Kept.of_below hb4)
            have hkd4 : KidsAt (fun k => w.heap.size ≤ k) d3 (w3.alloc (.cells #[.string ⟨u.1.toArray⟩, .int .i64 u.2.kind, .int .i64 u.2.a, .int .i64 u.2.b, .string ⟨u.2.name.toArray⟩, .slice p3 u.2.kids.length c3] 38)) (.slice p3 u.2.kids.length c3) u.2.kids := (Kept.of_below (g := g) hb4).kids (fun k hk => by omega) (hkd.mono fun k hk => by omega)
            have hx4 := heap_alloc_new w3 (.cells #[.string ⟨u.1.toArray⟩, .int .i64 u.2.kind, .int .i64 u.2.a, .int .i64 u.2.b, .string ⟨u.2.name.toArray⟩, .slice p3 u.2.kids.length c3] 38)
            have hs4 := hkp4.size
            unfold ruV
            clear hrow2 hrow3 h2 h3 hk2 hk3 hkd hkp2 hkp3 hb4 hx hXX HXX
            generalize hw4 : w3.alloc (.cells #[.string ⟨u.1.toArray⟩, .int .i64 u.2.kind, .int .i64 u.2.a, .int .i64 u.2.b, .string ⟨u.2.name.toArray⟩, .slice p3 u.2.kids.length c3] 38) = w4 at *
            go_wp2_with (at_builtin; refine wpList_append_own _ rfl _ _ 22 rfl w.heap.size 38 i0 (.agg #[.string ⟨#[]⟩, .int .i64 0, .int .i64 0, .int .i64 0, .string ⟨#[]⟩, .slice none 0 0]) 6 80 rulesType hi hz0 hz1 hz2 rfl (by decide) (.slice pq us.length cq) us.length (flatR us) rfl hrow4.own ⟨w3.heap.size, 0, none⟩ 1 1 [.string ⟨u.1.toArray⟩, .int .i64 u.2.kind, .int .i64 u.2.a, .int .i64 u.2.b, .string ⟨u.2.name.toArray⟩, .slice p3 u.2.kids.length c3] rfl rfl ?c1 ?c2 ?c3 ?c4 ?c5 ?_)
            case c1 =>
              intro j u' hj
              match j, hj with
              | 0, hj => simp at hj; subst hj; exact (cell_of_row _ _ _ _ _ _ hx4).trans rfl
              | 1, hj => simp at hj; subst hj; exact (cell_of_row _ _ _ _ _ _ hx4).trans rfl
              | 2, hj => simp at hj; subst hj; exact (cell_of_row _ _ _ _ _ _ hx4).trans rfl
              | 3, hj => simp at hj; subst hj; exact (cell_of_row _ _ _ _ _ _ hx4).trans rfl
              | 4, hj => simp at hj; subst hj; exact (cell_of_row _ _ _ _ _ _ hx4).trans rfl
              | 5, hj => simp at hj; subst hj; exact (cell_of_row _ _ _ _ _ _ hx4).trans rfl
            case c2 => intro u hu; simp at hu; rcases hu with rfl | rfl | rfl | rfl | rfl | rfl <;> rfl
            case c3 => unfold maxLen; omega
            case c4 => omega
            case c5 => exact hs4
            intro v' w5 hown' hgrow _
            have hlo := hrow4.own.lt
            have hgne : ∀ b, (Value.slice pq us.length cq).ownBlock = some b → b ≠ g := fun b hb => by have := (hlo b hb).1; omega
            have hkp5 : Kept g w w5 := ⟨hgrow.os.trans hkp4.os, hgrow.tape.trans hkp4.tape, hgrow.output.trans hkp4.output, Nat.le_trans hkp4.size hgrow.size, fun k hk hne => (hgrow.block k (by omega) (fun e => by have := (hlo k e.symm).1; omega)).trans (hkp4.block k hk hne)⟩
            have h5 : PSt all E g v w5 i3 m3 := h.of_kept h0 hkp5 ((hgrow.block g (lt_of_block h4.blk) (fun e => hgne g e.symm rfl)).trans h4.blk) h4.le
            have hrow5 : RowR w w5 v' (us ++ [(u, .slice p3 u.2.kids.length c3)]) := by
              refine ⟨?_, fun p hp => ?_⟩
              · rw [flatR_snoc]
                simp only [List.length_append, List.length_cons, List.length_nil, Nat.zero_add]
                exact hown'
              · rcases List.mem_append.1 hp with hp | hp
                · obtain ⟨d, hd⟩ := hrow4.kids p hp
                  exact ⟨d, kids_grown hrow4.own hgrow hd⟩
                · have e : p = (u, .slice p3 u.2.kids.length c3) := by simpa using hp
                  subst e
                  exact ⟨d3, kids_grown hrow4.own hgrow hkd4⟩
            have hn5 : (us ++ [(u, Value.slice p3 u.2.kids.length c3)]).length ≤ 40 := by simp; omega
            have hfl : (all.drop i3).length < f := by
              simp only [List.length_drop] at hql hf ⊢
              omega
            clear hown' hgrow hrow4 h4 hkp4 hkd4 hx4 hw4
            go_wp2_with fail
            go_roundw
            case rel => exact ⟨_, f, i3, m3, HN.out, hfl, hn5, hrow5, h5, hkp5⟩
            case measure =>
              rw [hp]
              have := h5.pos
              have := h5.le
              show all.length - posOf g _ < _
              simp only [List.length_drop] at hql
              omega
      · have hR' : isT wRule (all.drop j) = false := by simpa using hR
        rw [if_neg hR] at hXX
        have HE : Hid (X = .error (2, atP E (all.drop j))) := hXX.symm
        have c2 := must_no h0 hst1 wRule hR'
        clear hXX hR hR'
        go_wp2_with fail
        refine c2.mono ?_
        rintro e w2 ⟨rfl, hk2⟩
        refine ⟨rfl, ?_⟩
        rw [HE.out]
        exact ⟨rfl, hkp1.trans hk2⟩
    · have hlt' : ¬ (j : Int) < (all.length : Int) := by omega
      have hXX := HXr.out
      rw [rulesR_end (by simp; omega)] at hXX
      have HE : Hid (X = .ok (us.map (·.1))) := hXX.symm
      clear hXX HXr
      go_wp2_with fail
      go_quiet (fail)
      have hbq : Below wr.heap.size wr (wr.drewN nq) := below_drewN (Below.refl _ _) nq
      have hkp1 := hkp.trans (Kept.of_below hbq)
      have hrow1 := hrow.kept (Kept.of_below (g := g) hbq) hgl
      go_wp2_with fail
      go_ret
      rw [HE.out]
      exact ⟨_, us, rfl, rfl, hrow1, h40, hkp1⟩
end Go.Proofs.YtllcpoibnmhghaaGreatDoor

/- What parse.Parse comes to: the deferred call. -/
namespace Go.Proofs.YtllcpoibnmhghaaGreatDoor
open Go.RowKit Lx

set_option maxRecDepth 100000 in
theorem catch_idle (p q : Option Addr) (w : World) :
    CallsD Tryz.prog 43 #[.pointer p, .pointer q] .returning w fun e u' w' => e = .returned (.tuple #[]) ∧ u' = .returning ∧ w' = w := by
  refine callsD_of_wpS Tryz.func43 rfl fun c₀ cs hu => ?_
  apply wpS_seq
  apply wpS_region
  simp [wpOpsS, go_sem, recoverD, hu, Tryz.ntmps43, Exit.thenS]
  refine wpS_of_wp ?_
  change Code.wp _ _ _ { tmps := #[.pointer p, .pointer q, .nilIface, .nilIface, undef, undef, undef, undef, undef], defers := [] } w
  go_wp2_with fail
  cases c₀
  simp_all [bodyPostS, results, Tryz.results43]
theorem assertThrown (c0 c1 : Value) (w : World) : (Instr.typeAssert (.iface 86 (.agg #[c0, c1])) 20 86 false).run Tryz.prog w = .ok (.agg #[c0, c1]) w := by
  unfold Instr.typeAssert
  simp [go_sem]
theorem fieldThrown (c0 c1 : Value) (w : World) : (Instr.field 86 (.agg #[c0, c1]) 0).run Tryz.prog w = .ok (.agg #[c0, c1]) w := by
  unfold Instr.field
  simp [go_sem, asAgg]
attribute [local go_sem] assertThrown fieldThrown
/-- The results of Parse, where a fault has been thrown. -/
def caught (p q : Nat) (er at_ : Int) (w : World) : World := ((w.setCell ⟨p, 0, none⟩ (.slice none 0 0)).setCell ⟨q, 0, none⟩ (.int .i64 er)).setCell ⟨q, 1, none⟩ (.int .i64 at_)
set_option maxRecDepth 100000 in
set_option maxHeartbeats 1000000 in
theorem catch_thrown (p q : Nat) (hpq : p ≠ q) (c0 c1 c2 : Value) (er at_ : Int) (w : World) (hp : w.heap[p]? = some (.cells #[c0] 22 (0, 0))) (hq : w.heap[q]? = some (.cells #[c1, c2] 43 (0, 0))) :
    CallsD Tryz.prog 43 #[.pointer (some ⟨p, 0, none⟩), .pointer (some ⟨q, 0, none⟩)] (.panicking [{ v := .iface 86 (.agg #[.int .i64 er, .int .i64 at_]), recovered := false }]) w fun e u' w' =>
      e = .returned (.tuple #[]) ∧ u' = .panicking [{ v := .iface 86 (.agg #[.int .i64 er, .int .i64 at_]), recovered := true }] ∧ ∃ k, w' = (caught p q er at_ w).drewN k := by
  have kp := (cell_of_row _ _ 0 _ _ _ hp).trans rfl
  have kq0 := (cell_of_row _ _ 0 _ _ _ hq).trans rfl
  have kq1 := (cell_of_row _ _ 1 _ _ _ hq).trans rfl
  have yp := frozen_of_row _ _ 0 _ _ hp
  have yq0 := frozen_of_row _ _ 0 _ _ hq
  have yq1 := frozen_of_row _ _ 1 _ _ hq
  refine callsD_of_wpS Tryz.func43 rfl fun c₀ cs hu => ?_
  apply wpS_seq
  apply wpS_region
  simp [wpOpsS, go_sem, recoverD, hu, Tryz.ntmps43, Exit.thenS]
  refine wpS_of_wp ?_
  change Code.wp _ _ _ { tmps := #[.pointer (some ⟨p, 0, none⟩), .pointer (some ⟨q, 0, none⟩), .iface 86 (.agg #[.int .i64 er, .int .i64 at_]), .iface 86 (.agg #[.int .i64 er, .int .i64 at_]), undef, undef, undef, undef, undef], defers := [] } w
  go_wp2_with fail
  go_region
  show bodyPostS _ _ _ _ _ _ _ _ _
  simp [bodyPostS, results, Tryz.results43]
  exact ⟨1, rfl⟩
end Go.Proofs.YtllcpoibnmhghaaGreatDoor
