/- The reader whole; how deep an expression is. -/
import Derived.Test.YtgjggpgkcbekoadDoorRb15
import Derived.Test.YtgjggpgkcbekoadDoorRb03
namespace Go.Proofs.YtgjggpgkcbekoadDoor
open Go.RowKit Lx
variable {all : List Tk} {E g : Nat} {v : Value} {w : World} {i n : Nat}

theorem reader_all (h0 : PS0 all E g v) : ∀ (k i : Nat), all.length + 1 - i ≤ k →
    RC all E g v 75 6 i ∧ RC all E g v 71 4 i ∧ RC all E g v 63 2 i ∧ RC all E g v 54 0 i
  | 0, i, hk => ⟨fun _ _ _ h _ _ => absurd h.le (by omega), fun _ _ _ h _ _ => absurd h.le (by omega), fun _ _ _ h _ _ => absurd h.le (by omega), fun _ _ _ h _ _ => absurd h.le (by omega)⟩
  | k + 1, i, hk => by
    have ih := fun j (hj : i < j) => reader_all h0 k j (by omega)
    have t := thing_step h0 (fun j hj => (ih j hj).2.2.2) (fun j hj => (ih j hj).2.1)
    have f := factor_step h0 t
    have m := term_step h0 f (fun j hj => (ih j hj).2.1)
    exact ⟨t, f, m, sum_step h0 m (fun j hj => (ih j hj).2.2.1)⟩
theorem sum_all (h0 : PS0 all E g v) (i : Nat) : RC all E g v 54 0 i := (reader_all h0 _ i (Nat.le_refl _)).2.2.2
end Go.Proofs.YtgjggpgkcbekoadDoor

/- What height comes to. -/
namespace Go.Proofs.YtgjggpgkcbekoadDoor
open Go.RowKit Lx

set_option maxRecDepth 100000 in
set_option maxHeartbeats 1000000 in
theorem height_any (B : Nat → Prop) : ∀ (d : Nat) (e : Ex) (sl : Value) (w : World), KidsAt B d w sl e.kids → hgt e ≤ 1000000 →
    Calls Tryd.prog 55 #[exV e sl] w fun r w' => r = .returned (.int .i64 (hgt e : Int)) ∧ Below w.heap.size w w' := by
  intro d
  induction d with
  | zero =>
    intro e sl w hk hh
    obtain ⟨hks, p, c, rfl⟩ := hk
    have he : hgt e = 1 := by rw [hgt_eq, hks]; rfl
    rw [he]
    unfold exV
    go_enter Tryd.func55, Tryd.ntmps55
    go_wp2_with fail
    refine wp_loop_rounds 1 ?_
    rw [rounds_succ]
    go_wp2_with fail
    go_ret
    exact ⟨rfl, (Below.refl _ _).alloc (Nat.le_refl _) _⟩
  | succ d ih =>
    intro e sl w hk hh
    rcases hk with ⟨hks, p, c, rfl⟩ | ⟨g, o, c, hB, rfl, hlen, hkid⟩
    · have he : hgt e = 1 := by rw [hgt_eq, hks]; rfl
      rw [he]
      unfold exV
      go_enter Tryd.func55, Tryd.ntmps55
      go_wp2_with fail
      refine wp_loop_rounds 1 ?_
      rw [rounds_succ]
      go_wp2_with fail
      go_ret
      exact ⟨rfl, (Below.refl _ _).alloc (Nat.le_refl _) _⟩
    · have HK : Hid (∀ (j : Nat) (k : Ex), e.kids[j]? = some k → ∃ sk : Value,
        w.cell? ⟨g, o + j * 5, none⟩ = some (.int .i64 k.kind) ∧ w.cell? ⟨g, o + j * 5 + 1, none⟩ = some (.int .i64 k.a) ∧ w.cell? ⟨g, o + j * 5 + 2, none⟩ = some (.int .i64 k.b) ∧
        w.cell? ⟨g, o + j * 5 + 3, none⟩ = some (.string ⟨k.name.toArray⟩) ∧ w.cell? ⟨g, o + j * 5 + 4, none⟩ = some sk ∧ KidsAt B d w sk k.kids) := hkid
      have HE : Hid (hgt e = hgtL e.kids + 1) := hgt_eq e
      have HM : Hid (∀ k ∈ e.kids, hgt k < hgt e) := fun k h => hgt_kid h
      have hb0 : Below w.heap.size w (w.alloc (.cells #[.int .i64 e.kind, .int .i64 e.a, .int .i64 e.b, .string ⟨e.name.toArray⟩, .slice (some ⟨g, o, none⟩) e.kids.length c] 34)) := (Below.refl _ _).alloc (Nat.le_refl _) _
      unfold exV
      clear hkid
      go_enter Tryd.func55, Tryd.ntmps55
      go_wp2_with fail
      go_loopw [3, 9] (fun q t wr => ∃ j : Nat, t = .int .i64 (j : Int) ∧ j ≤ e.kids.length ∧ q = .int .i64 (hgtL (e.kids.take j) : Int) ∧ hgtL (e.kids.take j) ≤ 1000000 ∧ Below w.heap.size w wr) (fun _ t _ => e.kids.length - (intOf t).toNat)
      case atStart => exact ⟨0, rfl, by omega, rfl, by simp [hgtL], hb0⟩
      case round =>
        obtain ⟨j, rfl, hj, rfl, hm, hbel⟩ := hrel
        have hj0 : (0 : Int) ≤ (j : Int) := by omega
        by_cases hlt : j < e.kids.length
        · have hlt' : (j : Int) < (e.kids.length : Int) := by omega
          obtain ⟨k, hjk⟩ : ∃ k, e.kids[j]? = some k := ⟨e.kids[j], List.getElem?_eq_getElem hlt⟩
          obtain ⟨sk, c0, c1, c2, c3, c4, hkk⟩ := HK.out j k hjk
          have hkm := HM.out k (List.mem_of_getElem? hjk)
          have ht : e.kids.take (j + 1) = e.kids.take j ++ [k] := by
            obtain ⟨h1, h2⟩ := List.getElem?_eq_some_iff.1 hjk
            rw [List.take_succ_eq_append_getElem h1, h2]
          have hn : hgtL (e.kids.take (j + 1)) = max (hgtL (e.kids.take j)) (hgt k) := by rw [ht, hgtL_snoc]
          obtain ⟨ps, cs, rfl⟩ := hkk.form
          have d0 := (hbel.cell (block_lt_of_cell c0)).trans c0
          have d1 := (hbel.cell (block_lt_of_cell c1)).trans c1
          have d2 := (hbel.cell (block_lt_of_cell c2)).trans c2
          have d3 := (hbel.cell (block_lt_of_cell c3)).trans c3
          have d4 := (hbel.cell (block_lt_of_cell c4)).trans c4
          have hbA := hbel.alloc hbel.size (.cells #[.int .i64 k.kind, .int .i64 k.a, .int .i64 k.b, .string ⟨k.name.toArray⟩, .slice ps k.kids.length cs] 34)
          have cR := ih k (.slice ps k.kids.length cs) (wr.alloc (.cells #[.int .i64 k.kind, .int .i64 k.a, .int .i64 k.b, .string ⟨k.name.toArray⟩, .slice ps k.kids.length cs] 34)) (hkk.kept fun q _ hq => hbA.block q hq) (by omega)
          have hxB := heap_alloc_new wr (.cells #[.int .i64 k.kind, .int .i64 k.a, .int .i64 k.b, .string ⟨k.name.toArray⟩, .slice ps k.kids.length cs] 34)
          unfold exV at cR
          have HN : Hid (hgtL (e.kids.take (j + 1)) = max (hgtL (e.kids.take j)) (hgt k)) := hn
          have hk6 : (hgt k : Int) ≤ 1000000 := by omega
          have hm6 : (hgtL (e.kids.take j) : Int) ≤ 1000000 := by omega
          generalize hgt k = H at *
          generalize hgtL (e.kids.take j) = M at *
          clear hn ht hkk c0 c1 c2 c3 c4 hjk hkm
          generalize hwB : wr.alloc (.cells #[.int .i64 k.kind, .int .i64 k.a, .int .i64 k.b, .string ⟨k.name.toArray⟩, .slice ps k.kids.length cs] 34) = wB at *
          go_wp2_with (refine wpList_load_row rfl 34 _ rfl _ rfl _ _ _ _ hxB exprType rfl (by kernel_rfl) ?_)
          refine cR.mono ?_
          rintro e' w2 ⟨rfl, hb2⟩
          have hbw2 := hbA.trans (hb2.mono hbA.size)
          clear cR hb2 hbA hwB hxB
          go_wp2_with fail
          go_roundw
          case rel => exact ⟨j + 1, by go_num, by omega, by rw [HN.out]; exact i64_eq (by omega), by rw [HN.out]; omega, hbw2⟩
          case measure => simp [intOf]; omega
        · have ej : j = e.kids.length := by omega
          have hlt' : ¬ (j : Int) < (e.kids.length : Int) := by omega
          have HR : Hid (hgt e = hgtL (e.kids.take j) + 1) := by
            show _ = _
            rw [HE.out, ej, List.take_length]
          have hm6 : (hgtL (e.kids.take j) : Int) ≤ 1000000 := by omega
          generalize hgtL (e.kids.take j) = M at *
          clear HE HK HM ej
          go_wp2_with fail
          go_ret
          exact ⟨by rw [HR.out]; rfl, hbel⟩
end Go.Proofs.YtgjggpgkcbekoadDoor

/- What rule comes to. -/
namespace Go.Proofs.YtgjggpgkcbekoadDoor
open Go.RowKit Lx
variable {all : List Tk} {E g : Nat} {v : Value} {w : World} {i n : Nat}

/-- A rule as it is handed on. -/
def ruV (u : Ru) (sl : Value) : Value := .agg #[.string ⟨u.1.toArray⟩, .int .i64 u.2.kind, .int .i64 u.2.a, .int .i64 u.2.b, .string ⟨u.2.name.toArray⟩, sl]
def OutR (all : List Tk) (E g : Nat) (v : Value) (w : World) (B : Nat → Prop) (x : Except (Int × Nat) (Ru × List Tk)) (e : Ending) (w' : World) : Prop :=
  match x with
  | .error (er, at_) => e = .panicked (thrownV er at_) ∧ Kept g w w'
  | .ok (u, r) => ∃ (i m : Nat) (sl : Value) (d : Nat), r = all.drop i ∧ e = .returned (ruV u sl) ∧ KidsAt B d w' sl u.2.kids ∧ PSt all E g v w' i m ∧ m ≤ 600 ∧ Kept g w w'
def ru0C : Array Value := #[.string ⟨#[]⟩, .int .i64 0, .int .i64 0, .int .i64 0, .string ⟨#[]⟩, .slice none 0 0]
theorem ruleType : Tryd.prog.underlying 36 = some (.struct (Tryd.prog.fieldsOf 36)) := by kernel_rfl
theorem ru_ret {fn : Func} (s : Nat) (h : fn.results = #[ResultVar.cell s 36]) {R : Ending → World → Prop} {a : Act} {w : World} (g : Nat) (c0 c1 c2 c3 c4 c5 : Value) (hd : a.defers = []) (h2 : a.tmps.getD s undef = .pointer (some ⟨g, 0, none⟩))
    (hg : w.heap[g]? = some (.cells #[c0, c1, c2, c3, c4, c5] 36 (0, 0))) (hR : R (.returned (.agg #[c0, c1, c2, c3, c4, c5])) w) : bodyPost Tryd.prog fn R .ret a w := by
  refine bodyPost_ret (v := .agg #[c0, c1, c2, c3, c4, c5]) ?_ hd hR
  have h2' : a.tmps[s]?.getD undef = .pointer (some ⟨g, 0, none⟩) := by simpa using h2
  have hv := run_loadVar_row (P := Tryd.prog) w g 36 36 _ _ _ hg ruleType rfl (by kernel_rfl)
  simp [results, h, h2', asAddr, hv]

set_option maxRecDepth 100000 in
set_option maxHeartbeats 2000000 in
theorem rule_any (h0 : PS0 all E g v) (h : PSt all E g v w i n) :
    Calls Tryd.prog 37 #[.pointer (some ⟨g, 0, none⟩)] w (OutR all E g v w (fun k => w.heap.size ≤ k) (ruleR E (all.drop i))) := by
  have hgl := lt_of_block h.blk
  have hb0 : Below w.heap.size w (w.alloc (.cells #[.string ⟨#[]⟩, .int .i64 0, .int .i64 0, .int .i64 0, .string ⟨#[]⟩, .slice none 0 0] 36)) := (Below.refl _ _).alloc (Nat.le_refl _) _
  have hz : (w.alloc (.cells #[.string ⟨#[]⟩, .int .i64 0, .int .i64 0, .int .i64 0, .string ⟨#[]⟩, .slice none 0 0] 36)).heap[w.heap.size]? = some (.cells ru0C 36 (0, 0)) := heap_alloc_new w _
  have hA := h.below hb0 h0
  have hkA := Kept.of_below (g := g) hb0
  generalize hX : ruleR E (all.drop i) = X
  unfold ruleR at hX
  simp only [tail_drop] at hX
  generalize hwA : w.alloc (.cells #[.string ⟨#[]⟩, .int .i64 0, .int .i64 0, .int .i64 0, .string ⟨#[]⟩, .slice none 0 0] 36) = wA at *
  by_cases h1k : kindP (all.drop i) = 1
  · rw [if_neg (by simp [h1k])] at hX
    have c1 := take_yes h0 hA 1 (by decide) h1k
    unfold tokV at c1
    by_cases hm : isT wIs (all.drop (i + 1)) = true
    · rw [if_pos hm] at hX
      have c2 := fun (w1 : World) (h1 : PSt all E g v w1 (i + 1) n) => must_yes h0 h1 wIs (by decide) hm
      have c3 : ∀ (w1 : World), PSt all E g v w1 (i + 1 + 1) 0 → Calls Tryd.prog 54 #[.pointer (some ⟨g, 0, none⟩), .int .i64 1] w1 (OutE all E g v w1 (fun k => w1.heap.size ≤ k) (rd E 0 1 ex0 (all.drop (i + 1 + 1)) 0)) := fun w1 h1 => sum_all h0 (i + 1 + 1) w1 0 1 h1 (by omega) (by omega)
      have HX : Hid ((match rd E 0 1 ex0 (all.drop (i + 1 + 1)) 0 with
        | .error q => Except.error q
        | .ok (e, q, _) => if 40 < hgt e then .error (4, atP E q) else if isT wSemi q then .ok ((textP (all.drop i), e), q.tail) else .error (2, atP E q)) = X) := hX
      generalize kindP (all.drop i) = t0 at *
      generalize numP (all.drop i) = t1 at *
      generalize (atP E (all.drop i) : Int) = t2 at *
      generalize textP (all.drop i) = nm at *
      clear hm h1k hX
      go_enter Tryd.func37, Tryd.ntmps37
      go_wp2_with fail
      refine c1.mono ?_
      rintro e w1 ⟨rfl, h1, hk1⟩
      go_wp2_with fail
      refine (c2 _ h1).mono ?_
      rintro e w2 ⟨rfl, h2, hk2⟩
      have k3 := (cell_of_row _ _ 3 _ _ _ h2.blk).trans rfl
      have y3 := frozen_of_row _ _ 3 _ _ h2.blk
      have h3 : PSt all E g v (w2.setCell ⟨g, 3, none⟩ (.int .i64 0)) (i + 1 + 1) 0 := h2.setN h0 0
      have hk3 := (hk1.trans hk2).trans (Kept.set w2 g 3 (.int .i64 0))
      have hz3 := hk3.at hz (by omega)
      have hkw3 := hkA.trans hk3
      have hl3 := lt_of_block hz3
      clear c1 c2 h1 hk1 hk2 hk3 hA hkA hb0 hwA hz
      go_wp2_with fail
      refine (c3 _ h3).mono ?_
      intro e w4 ho
      clear c3 k3 y3
      cases hx : rd E 0 1 ex0 (all.drop (i + 1 + 1)) 0 with
      | error q =>
        obtain ⟨er, at_⟩ := q
        have hXX := HX.out
        rw [hx] at ho hXX
        obtain ⟨rfl, hk4⟩ := ho
        refine ⟨rfl, ?_⟩
        rw [← hXX]
        exact ⟨rfl, hkw3.trans hk4⟩
      | ok q =>
        obtain ⟨ex, rr, nn⟩ := q
        have hh := rd_hgt hx
        have hXX := HX.out
        rw [hx] at ho hXX
        obtain ⟨i4, sl, dd, hr4, rfl, hkd, h4, hn4, hk4⟩ := ho
        subst hr4
        obtain ⟨p5, c5, rfl⟩ := hkd.form
        dsimp only at hXX
        have hs4 := hk4.size
        have hz4 := hk4.at hz3 (by omega)
        have hb5 : Below w4.heap.size w4 (w4.alloc (.cells #[.int .i64 ex.kind, .int .i64 ex.a, .int .i64 ex.b, .string ⟨ex.name.toArray⟩, .slice p5 ex.kids.length c5] 34)) := (Below.refl _ _).alloc (Nat.le_refl _) _
        have h5 := h4.below hb5 h0
        have he5 := heap_alloc_new w4 (.cells #[.int .i64 ex.kind, .int .i64 ex.a, .int .i64 ex.b, .string ⟨ex.name.toArray⟩, .slice p5 ex.kids.length c5] 34)
        have hz5 := (hb5.block _ (lt_of_block hz4)).trans hz4
        have hkw5 := (hkw3.trans hk4).trans (Kept.of_below hb5)
        have hkd5 : KidsAt (fun k => w.heap.size + 1 ≤ k) dd (w4.alloc (.cells #[.int .i64 ex.kind, .int .i64 ex.a, .int .i64 ex.b, .string ⟨ex.name.toArray⟩, .slice p5 ex.kids.length c5] 34)) (.slice p5 ex.kids.length c5) ex.kids := (Kept.of_below (g := g) hb5).kids (fun k hk => by omega) (hkd.mono fun k hk => by omega)
        have c6 := height_any _ dd ex _ _ hkd5 (by omega)
        unfold exV at c6 ⊢
        have HXX : Hid ((if 40 < hgt ex then Except.error (4, atP E (all.drop i4)) else if isT wSemi (all.drop i4) then .ok ((nm, ex), (all.drop i4).tail) else .error (2, atP E (all.drop i4))) = X) := hXX
        clear hkd h3 h4 hk4 hb5 hx hXX HX hz3 hz4 hkw3
        generalize hw5 : w4.alloc (.cells #[.int .i64 ex.kind, .int .i64 ex.a, .int .i64 ex.b, .string ⟨ex.name.toArray⟩, .slice p5 ex.kids.length c5] 34) = w5 at *
        go_wp2_with (refine wpList_load_row rfl 34 _ rfl _ rfl _ _ _ _ he5 exprType rfl (by kernel_rfl) ?_)
        refine c6.mono ?_
        rintro e w6 ⟨rfl, hb6⟩
        have h6 := h5.below hb6 h0
        have he6 := (hb6.block _ (lt_of_block he5)).trans he5
        have hz6 := (hb6.block _ (lt_of_block hz5)).trans hz5
        have hkw6 := hkw5.trans (Kept.of_below hb6)
        have hkd6 := (Kept.of_below (g := g) hb6).kids (fun k hk => by omega) hkd5
        clear c6 hb6 h5 he5 hz5 hkw5 hkd5 hw5
        by_cases h40 : 40 < hgt ex
        · have h40' : (40 : Int) < (hgt ex : Int) := by omega
          have hXX := HXX.out
          rw [if_pos h40] at hXX
          have HE : Hid (X = .error (4, atP E (all.drop i4))) := hXX.symm
          generalize hgt ex = H at *
          clear hXX HXX
          go_wp2_with fail
          refine (fail_any h0 h6 4).mono ?_
          rintro e w7 ⟨rfl, hb7⟩
          refine ⟨rfl, ?_⟩
          rw [HE.out]
          exact ⟨rfl, hkw6.trans (Kept.of_below hb7)⟩
        · have h40' : ¬ (40 : Int) < (hgt ex : Int) := by omega
          have hXX := HXX.out
          rw [if_neg h40] at hXX
          generalize hgt ex = H at *
          clear HXX
          by_cases hs : isT wSemi (all.drop i4) = true
          · rw [if_pos hs, tail_drop] at hXX
            have c7 := must_yes h0 h6 wSemi (by decide) hs
            have HE : Hid (X = .ok ((nm, ex), all.drop (i4 + 1))) := hXX.symm
            clear hXX hs
            go_wp2_with fail
            refine c7.mono ?_
            rintro e w7 ⟨rfl, h7, hk7⟩
            have he7 := hk7.at he6 (by omega)
            have hz7 := hk7.at hz6 (by omega)
            have hkw7 := hkw6.trans hk7
            have hkd7 := hk7.kids (fun k hk => by omega) hkd6
            have HO : Hid (∀ cs, OutR all E g v w (fun k => w.heap.size ≤ k) X (.returned (ruV (nm, ex) (.slice p5 ex.kids.length c5))) (w7.setRow w.heap.size cs)) := fun cs => by
              rw [HE.out]
              exact ⟨i4 + 1, nn, _, dd, rfl, rfl, (hkd7.kept fun k hk _ => setRow_other _ _ _ _ (by omega)).mono fun k hk => by omega, h.of_kept h0 (hkw7.setRow (Nat.le_refl _) cs) ((setRow_other _ _ _ _ (by omega)).trans h7.blk) h7.le, hn4, hkw7.setRow (Nat.le_refl _) cs⟩
            unfold ruV at HO
            clear c7 h6 h7 hk7 hkw6 hkw7 hkd6 hkd7 he6 hz6 HE
            go_wp2_with (first
              | (refine wpList_load_row rfl 34 _ rfl _ rfl _ _ _ _ he7 exprType rfl (by kernel_rfl) ?_)
              | (refine wpList_store_row rfl 36 _ _ rfl _ _ rfl rfl _ _ hz7 (by kernel_rfl) (by rfl) (by simp [Value.oneCell']) ?_))
            exact ru_ret 2 (by kernel_rfl) w.heap.size _ _ _ _ _ _ rfl rfl (setRow_heap _ _ _ _ _ _ hz7) (HO.out _)
          · have hs' : isT wSemi (all.drop i4) = false := by simpa using hs
            rw [if_neg hs] at hXX
            have c7 := must_no h0 h6 wSemi hs'
            have HE : Hid (X = .error (2, atP E (all.drop i4))) := hXX.symm
            clear hXX hs hs'
            go_wp2_with fail
            refine c7.mono ?_
            rintro e w7 ⟨rfl, hk7⟩
            refine ⟨rfl, ?_⟩
            rw [HE.out]
            exact ⟨rfl, hkw6.trans hk7⟩
    · have hm' : isT wIs (all.drop (i + 1)) = false := by simpa using hm
      rw [if_neg hm] at hX
      have c2 := fun (w1 : World) (h1 : PSt all E g v w1 (i + 1) n) => must_no h0 h1 wIs hm'
      subst hX
      clear hm hm' h1k
      go_enter Tryd.func37, Tryd.ntmps37
      go_wp2_with fail
      refine c1.mono ?_
      rintro e w1 ⟨rfl, h1, hk1⟩
      go_wp2_with fail
      refine (c2 _ h1).mono ?_
      rintro e w2 ⟨rfl, hk2⟩
      exact ⟨rfl, rfl, (hkA.trans hk1).trans hk2⟩
  · rw [if_pos h1k] at hX
    have c1 := take_no h0 hA 1 h1k
    subst hX
    go_enter Tryd.func37, Tryd.ntmps37
    go_wp2_with fail
    refine c1.mono ?_
    rintro e w1 ⟨rfl, hk1⟩
    exact ⟨rfl, rfl, hkA.trans hk1⟩
end Go.Proofs.YtgjggpgkcbekoadDoor
