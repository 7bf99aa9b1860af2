/- What rule comes to. -/
import Derived.Test.YtgfjbcdjpkcbkaaGreatDoorDh11
import Derived.Deep.QuietTactic
import Derived.BigQuiet
import Derived.Defers
import Derived.Recover
import Derived.Test.YtgfjbcdjpkcbkaaGreatDoorDh01
import Derived.Test.YtgfjbcdjpkcbkaaGreatDoorDh07
import Derived.Test.YtgfjbcdjpkcbkaaGreatDoorDh08
namespace Go.Proofs.YtgfjbcdjpkcbkaaGreatDoor
open Go.RowKit Lx
variable {all : List Tk} {E g : Nat} {v : Value} {w : World} {i n : Nat}
def ruV (u : Ru) (sl : Value) : Value := .agg #[.string ⟨u.1.toArray⟩, .int .i64 u.2.kind, .int .i64 u.2.a, .int .i64 u.2.b, .string ⟨u.2.name.toArray⟩, sl]
def OutR (all : List Tk) (E g : Nat) (v : Value) (w : World) (B : Nat → Prop) (x : Except (Int × Nat) (Ru × List Tk)) (e : Ending) (w' : World) : Prop :=
  match x with
  | .error (er, at_) => e = .panicked (thrownV er at_) ∧ Kept g w w'
  | .ok (u, r) => ∃ (i m : Nat) (sl : Value) (d : Nat), r = all.drop i ∧ e = .returned (ruV u sl) ∧ KidsAt B d w' sl u.2.kids ∧ PSt all E g v w' i m ∧ m ≤ 600 ∧ Kept g w w'
def ru0C : Array Value := #[.string ⟨#[]⟩, .int .i64 0, .int .i64 0, .int .i64 0, .string ⟨#[]⟩, .slice none 0 0]
theorem ruleType : Tryz.prog.underlying 33 = some (.struct (Tryz.prog.fieldsOf 33)) := by kernel_rfl
theorem ru_ret {fn : Func} (s : Nat) (h : fn.results = #[ResultVar.cell s 33]) {R : Ending → World → Prop} {a : Act} {w : World} (g : Nat) (c0 c1 c2 c3 c4 c5 : Value) (hd : a.defers = []) (h2 : a.tmps.getD s undef = .pointer (some ⟨g, 0, none⟩))
    (hg : w.heap[g]? = some (.cells #[c0, c1, c2, c3, c4, c5] 33 (0, 0))) (hR : R (.returned (.agg #[c0, c1, c2, c3, c4, c5])) w) : bodyPost Tryz.prog fn R .ret a w := by
  refine bodyPost_ret (v := .agg #[c0, c1, c2, c3, c4, c5]) ?_ hd hR
  have h2' : a.tmps[s]?.getD undef = .pointer (some ⟨g, 0, none⟩) := by simpa using h2
  have hv := run_loadVar_row (P := Tryz.prog) w g 33 33 _ _ _ hg ruleType rfl (by kernel_rfl)
  simp [results, h, h2', asAddr, hv]
set_option maxRecDepth 100000 in
set_option maxHeartbeats 2000000 in
theorem rule_any (h0 : PS0 all E g v) (h : PSt all E g v w i n) :
    Calls Tryz.prog 53 #[.pointer (some ⟨g, 0, none⟩)] w (OutR all E g v w (fun k => w.heap.size ≤ k) (ruleR E (all.drop i))) := by
  have hgl := lt_of_block h.blk
  have hb0 : Below w.heap.size w (w.alloc (.cells #[.string ⟨#[]⟩, .int .i64 0, .int .i64 0, .int .i64 0, .string ⟨#[]⟩, .slice none 0 0] 33)) := (Below.refl _ _).alloc (Nat.le_refl _) _
  have hz : (w.alloc (.cells #[.string ⟨#[]⟩, .int .i64 0, .int .i64 0, .int .i64 0, .string ⟨#[]⟩, .slice none 0 0] 33)).heap[w.heap.size]? = some (.cells ru0C 33 (0, 0)) := heap_alloc_new w _
  have hA := h.below hb0 h0
  have hkA := Kept.of_below (g := g) hb0
  generalize hX : ruleR E (all.drop i) = X
  unfold ruleR at hX
  simp only [tail_drop] at hX
  generalize hwA : w.alloc (.cells #[.string ⟨#[]⟩, .int .i64 0, .int .i64 0, .int .i64 0, .string ⟨#[]⟩, .slice none 0 0] 33) = wA at *
  by_cases h1k : kindP (all.drop i) = 1
  · rw [if_neg (by simp [h1k])] at hX
    have c1 := take_yes h0 hA 1 (by decide) h1k
    unfold tokV at c1
    by_cases hm : isT wIs (all.drop (i + 1)) = true
    · rw [if_pos hm] at hX
      have c2 := fun (w1 : World) (h1 : PSt all E g v w1 (i + 1) n) => must_yes h0 h1 wIs (by decide) hm
      have c3 : ∀ (w1 : World), PSt all E g v w1 (i + 1 + 1) 0 → Calls Tryz.prog 76 #[.pointer (some ⟨g, 0, none⟩), .int .i64 1] w1 (OutE all E g v w1 (fun k => w1.heap.size ≤ k) (rd E 0 1 ex0 (all.drop (i + 1 + 1)) 0)) := fun w1 h1 => sum_all h0 (i + 1 + 1) w1 0 1 h1 (by omega) (by omega)
      have HX : Hid ((match rd E 0 1 ex0 (all.drop (i + 1 + 1)) 0 with
        | .error q => Except.error q
        | .ok (e, q, _) => if 40 < hgt e then .error (4, atP E q) else if isT wSemi q then .ok ((textP (all.drop i), e), q.tail) else .error (2, atP E q)) = X) := hX
      generalize kindP (all.drop i) = t0 at *
      generalize numP (all.drop i) = t1 at *
      generalize (atP E (all.drop i) : Int) = t2 at *
      generalize textP (all.drop i) = nm at *
      clear hm h1k hX
      go_enter Tryz.func53, Tryz.ntmps53
      go_wp2_with fail
      refine c1.mono ?_
      rintro e w1 ⟨rfl, h1, hk1⟩
      go_wp2_with fail
      refine (c2 _ h1).mono ?_
      rintro e w2 ⟨rfl, h2, hk2⟩
      have k3 := (cell_of_row _ _ 3 _ _ _ h2.blk).trans rfl
      have y3 := frozen_of_row _ _ 3 _ _ h2.blk
      have h3 : PSt all E g v (w2.setCell ⟨g, 3, none⟩ (.int .i64 0)) (i + 1 + 1) 0 := h2.setN h0 0
      have hk3 := (hk1.trans hk2).trans (Kept.set w2 g 3 (.int .i64 0))
      have hz3 := hk3.at hz (by omega)
      have hkw3 := hkA.trans hk3
      have hl3 := lt_of_block hz3
      clear c1 c2 h1 hk1 hk2 hk3 hA hkA hb0 hwA hz
      go_wp2_with fail
      refine (c3 _ h3).mono ?_
      intro e w4 ho
      clear c3 k3 y3
      cases hx : rd E 0 1 ex0 (all.drop (i + 1 + 1)) 0 with
      | error q =>
        obtain ⟨er, at_⟩ := q
        have hXX := HX.out
        rw [hx] at ho hXX
        obtain ⟨rfl, hk4⟩ := ho
        refine ⟨rfl, ?_⟩
        rw [← hXX]
        exact ⟨rfl, hkw3.trans hk4⟩
      | ok q =>
        obtain ⟨ex, rr, nn⟩ := q
        have hh := rd_hgt hx
        have hXX := HX.out
        rw [hx] at ho hXX
        obtain ⟨i4, sl, dd, hr4, rfl, hkd, h4, hn4, hk4⟩ := ho
        subst hr4
        obtain ⟨p5, c5, rfl⟩ := hkd.form
        dsimp only at hXX
        have hs4 := hk4.size
        have hz4 := hk4.at hz3 (by omega)
        have hb5 : Below w4.heap.size w4 (w4.alloc (.cells #[.int .i64 ex.kind, .int .i64 ex.a, .int .i64 ex.b, .string ⟨ex.name.toArray⟩, .slice p5 ex.kids.length c5] 31)) := (Below.refl _ _).alloc (Nat.le_refl _) _
        have h5 := h4.below hb5 h0
        have he5 := heap_alloc_new w4 (.cells #[.int .i64 ex.kind, .int .i64 ex.a, .int .i64 ex.b, .string ⟨ex.name.toArray⟩, .slice p5 ex.kids.length c5] 31)
        have hz5 := (hb5.block _ (lt_of_block hz4)).trans hz4
        have hkw5 := (hkw3.trans hk4).trans (Kept.of_below hb5)
        have hkd5 : KidsAt (fun k => w.heap.size + 1 ≤ k) dd (w4.alloc (.cells #[.int .i64 ex.kind, .int .i64 ex.a, .int .i64 ex.b, .string ⟨ex.name.toArray⟩, .slice p5 ex.kids.length c5] 31)) (.slice p5 ex.kids.length c5) ex.kids := (Kept.of_below (g := g) hb5).kids (fun k hk => by omega) (hkd.mono fun k hk => by omega)
        have c6 := height_any _ dd ex _ _ hkd5 (by omega)
        unfold exV at c6 ⊢
        have HXX : Hid ((if 40 < hgt ex then Except.error (4, atP E (all.drop i4)) else if isT wSemi (all.drop i4) then .ok ((nm, ex), (all.drop i4).tail) else .error (2, atP E (all.drop i4))) = X) := hXX
        clear hkd h3 h4 hk4 hb5 hx hXX HX hz3 hz4 hkw3
        generalize hw5 : w4.alloc (.cells #[.int .i64 ex.kind, .int .i64 ex.a, .int .i64 ex.b, .string ⟨ex.name.toArray⟩, .slice p5 ex.kids.length c5] 31) = w5 at *
        go_wp2_with (refine wpList_load_row rfl 31 _ rfl _ rfl _ _ _ _ he5 exprType rfl (by kernel_rfl) ?_)
        refine c6.mono ?_
        rintro e w6 ⟨rfl, hb6⟩
        have h6 := h5.below hb6 h0
        have he6 := (hb6.block _ (lt_of_block he5)).trans he5
        have hz6 := (hb6.block _ (lt_of_block hz5)).trans hz5
        have hkw6 := hkw5.trans (Kept.of_below hb6)
        have hkd6 := (Kept.of_below (g := g) hb6).kids (fun k hk => by omega) hkd5
        clear c6 hb6 h5 he5 hz5 hkw5 hkd5 hw5
        by_cases h40 : 40 < hgt ex
        · have h40' : (40 : Int) < (hgt ex : Int) := by omega
          have hXX := HXX.out
          rw [if_pos h40] at hXX
          have HE : Hid (X = .error (4, atP E (all.drop i4))) := hXX.symm
          generalize hgt ex = H at *
          clear hXX HXX
          go_wp2_with fail
          refine (fail_any h0 h6 4).mono ?_
          rintro e w7 ⟨rfl, hb7⟩
          refine ⟨rfl, ?_⟩
          rw [HE.out]
          exact ⟨rfl, hkw6.trans (Kept.of_below hb7)⟩
        · have h40' : ¬ (40 : Int) < (hgt ex : Int) := by omega
          have hXX := HXX.out
          rw [if_neg h40] at hXX
          generalize hgt ex = H at *
          clear HXX
          by_cases hs : isT wSemi (all.drop i4) = true
          · rw [if_pos hs, tail_drop] at hXX
            have c7 := must_yes h0 h6 wSemi (by decide) hs
            have HE : Hid (X = .ok ((nm, ex), all.drop (i4 + 1))) := hXX.symm
            clear hXX hs
            go_wp2_with fail
            refine c7.mono ?_
            rintro e w7 ⟨rfl, h7, hk7⟩
            have he7 := hk7.at he6 (by omega)
            have hz7 := hk7.at hz6 (by omega)
            have hkw7 := hkw6.trans hk7
            have hkd7 := hk7.kids (fun k hk => by omega) hkd6
            have HO : Hid (∀ cs, OutR all E g v w (fun k => w.heap.size ≤ k) X (.returned (ruV (nm, ex) (.slice p5 ex.kids.length c5))) (w7.setRow w.heap.size cs)) := fun cs => by
              rw [HE.out]
              exact ⟨i4 + 1, nn, _, dd, rfl, rfl, (hkd7.kept fun k hk _ => setRow_other _ _ _ _ (by omega)).mono fun k hk => by omega, h.of_kept h0 (hkw7.setRow (Nat.le_refl _) cs) ((setRow_other _ _ _ _ (by omega)).trans h7.blk) h7.le, hn4, hkw7.setRow (Nat.le_refl _) cs⟩
            unfold ruV at HO
            clear c7 h6 h7 hk7 hkw6 hkw7 hkd6 hkd7 he6 hz6 HE
            go_wp2_with (first
              | (refine wpList_load_row rfl 31 _ rfl _ rfl _ _ _ _ he7 exprType rfl (by kernel_rfl) ?_)
              | (refine wpList_store_row rfl 33 _ _ rfl _ _ rfl rfl _ _ hz7 (by kernel_rfl) (by rfl) (by simp [Value.oneCell']) ?_))
            exact ru_ret 2 (by kernel_rfl) w.heap.size _ _ _ _ _ _ rfl rfl (setRow_heap _ _ _ _ _ _ hz7) (HO.out _)
          · have hs' : isT wSemi (all.drop i4) = false := by simpa using hs
            rw [if_neg hs] at hXX
            have c7 := must_no h0 h6 wSemi hs'
            have HE : Hid (X = .error (2, atP E (all.drop i4))) := hXX.symm
            clear hXX hs hs'
            go_wp2_with fail
            refine c7.mono ?_
            rintro e w7 ⟨rfl, hk7⟩
            refine ⟨rfl, ?_⟩
            rw [HE.out]
            exact ⟨rfl, hkw6.trans hk7⟩
    · have hm' : isT wIs (all.drop (i + 1)) = false := by simpa using hm
      rw [if_neg hm] at hX
      have c2 := fun (w1 : World) (h1 : PSt all E g v w1 (i + 1) n) => must_no h0 h1 wIs hm'
      subst hX
      clear hm hm' h1k
      go_enter Tryz.func53, Tryz.ntmps53
      go_wp2_with fail
      refine c1.mono ?_
      rintro e w1 ⟨rfl, h1, hk1⟩
      go_wp2_with fail
      refine (c2 _ h1).mono ?_
      rintro e w2 ⟨rfl, hk2⟩
      exact ⟨rfl, rfl, (hkA.trans hk1).trans hk2⟩
  · rw [if_pos h1k] at hX
    have c1 := take_no h0 hA 1 h1k
    subst hX
    go_enter Tryz.func53, Tryz.ntmps53
    go_wp2_with fail
    refine c1.mono ?_
    rintro e w1 ⟨rfl, hk1⟩
    exact ⟨rfl, rfl, hkA.trans hk1⟩
end Go.Proofs.YtgfjbcdjpkcbkaaGreatDoor

/- What rules comes to. -/
namespace Go.Proofs.YtgfjbcdjpkcbkaaGreatDoor
open Go.RowKit Lx
variable {all : List Tk} {E g : Nat} {v : Value} {w : World} {i n : Nat}
def flatR : List (Ru × Value) → List Value
  | [] => []
  | p :: l => .string ⟨p.1.1.toArray⟩ :: .int .i64 p.1.2.kind :: .int .i64 p.1.2.a :: .int .i64 p.1.2.b :: .string ⟨p.1.2.name.toArray⟩ :: p.2 :: flatR l
theorem flatR_snoc (p : Ru × Value) : ∀ l : List (Ru × Value), flatR (l ++ [p]) = flatR l ++ [.string ⟨p.1.1.toArray⟩, .int .i64 p.1.2.kind, .int .i64 p.1.2.a, .int .i64 p.1.2.b, .string ⟨p.1.2.name.toArray⟩, p.2]
  | [] => rfl
  | q :: l => by simp [flatR, flatR_snoc p l]
theorem ruleInfo : (Tryz.prog.info? 33).map (fun i => (i.zero, i.size, i.bytes)) = some (some (.agg #[.string ⟨#[]⟩, .int .i64 0, .int .i64 0, .int .i64 0, .string ⟨#[]⟩, .slice none 0 0]), 6, 80) := by kernel_rfl
theorem rulesType : Tryz.prog.underlying 22 = some (.slice 33) := by kernel_rfl
theorem row_form {w : World} {base : Nat} {e : TypeId} {size : Nat} {v : Value} {n : Nat} {xs : List Value} (h : w.ownsRow base e size v n xs) : ∃ p c, v = .slice p n c := by
  obtain ⟨_, h2⟩ := h
  rcases h2 with ⟨h2, h3⟩ | ⟨g, cap, _, h2, _⟩
  · exact ⟨none, 0, by rw [h2, h3]⟩
  · exact ⟨_, cap, h2⟩
structure RowR (w0 w : World) (v : Value) (us : List (Ru × Value)) : Prop where
  own : w.ownsRow w0.heap.size 33 6 v us.length (flatR us)
  kids : ∀ p ∈ us, ∃ d, KidsAt (fun k => w0.heap.size ≤ k) d w p.2 p.1.2.kids
def OutL (g : Nat) (w : World) (x : Except (Int × Nat) (List Ru)) (e : Ending) (w' : World) : Prop :=
  match x with
  | .error (er, at_) => e = .panicked (thrownV er at_) ∧ Kept g w w'
  | .ok rs => ∃ (vr : Value) (us : List (Ru × Value)), e = .returned vr ∧ us.map (·.1) = rs ∧ RowR w w' vr us ∧ us.length ≤ 40 ∧ Kept g w w'
theorem ruleR_len {E : Nat} {r q : List Tk} {u : Ru} (h : ruleR E r = .ok (u, q)) : q.length < r.length := by
  unfold ruleR at h
  split at h
  · cases h
  · rename_i h1
    have h1' := kindP_cons (r := r) (by omega)
    split at h
    · split at h
      · cases h
      · rename_i e q' n' hx
        have hl := rd_len (by omega) hx
        split at h
        · cases h
        · split at h
          · cases h
            simp only [List.length_tail] at hl ⊢
            omega
          · cases h
    · cases h
theorem RowR.kept {w0 w w' : World} {vr : Value} {us : List (Ru × Value)} (h : RowR w0 w vr us) (hk : Kept g w w') (hg : g < w0.heap.size) : RowR w0 w' vr us := by
  refine ⟨h.own.kept hk (.inr fun e => ?_), fun p hp => ?_⟩
  · have := (h.own.lt g e).1
    omega
  · obtain ⟨d, hd⟩ := h.kids p hp
    exact ⟨d, hk.kids (fun k hk => by omega) hd⟩
theorem kids_grown {w0 w w' : World} {vr : Value} {xs : List Value} {m : Nat} {ks : List Ex} {sl : Value} {d : Nat} (ho : w.ownsRow w0.heap.size 33 6 vr m xs) (hg : w.grownBy w' vr.ownBlock) (h : KidsAt (fun k => w0.heap.size ≤ k) d w sl ks) : KidsAt (fun k => w0.heap.size ≤ k) d w' sl ks := by
  obtain ⟨_, h2⟩ := ho
  rcases h2 with ⟨rfl, _⟩ | ⟨b, cap, cur, rfl, _, hh, _⟩
  · exact h.kept fun k _ hl => hg.block k hl (fun e => by cases e)
  · refine ((h.other hh (by decide)).kept fun k hk hl => hg.block k hl (fun e => hk.2 (Option.some.inj e))).mono fun k hk => hk.1
theorem rulesR_step {E f : Nat} {acc : List Ru} {r : List Tk} (h : r.length ≠ 0) : rulesR E (f + 1) acc r = if isT wRule r then (if acc.length = 40 then .error (5, atP E r.tail) else match ruleR E r.tail with | .error q => .error q | .ok (u, q) => rulesR E f (acc ++ [u]) q) else .error (2, atP E r) := by
  rw [rulesR, if_neg h]
  rfl
theorem rulesR_end {E f : Nat} {acc : List Ru} {r : List Tk} (h : r.length = 0) : rulesR E f acc r = .ok acc := by
  cases f with
  | zero => rfl
  | succ f => rw [rulesR, if_pos h]
set_option maxRecDepth 100000 in
set_option maxHeartbeats 4000000 in
theorem rules_any (h0 : PS0 all E g v) (h : PSt all E g v w i n) :
    Calls Tryz.prog 38 #[.pointer (some ⟨g, 0, none⟩)] w (OutL g w (rulesR E ((all.drop i).length + 1) [] (all.drop i))) := by
  have hgl := lt_of_block h.blk
  obtain ⟨i0, hi, hz0, hz1, hz2⟩ := info_parts ruleInfo
  have hlen := h0.len
  generalize hX : rulesR E ((all.drop i).length + 1) [] (all.drop i) = X
  have HX : Hid (rulesR E ((all.drop i).length + 1) [] (all.drop i) = X) := hX
  clear hX
  go_enter Tryz.func38, Tryz.ntmps38
  go_wp2_with fail
  go_loopw [3] (fun q wr => ∃ (us : List (Ru × Value)) (f j m : Nat), rulesR E f (us.map (·.1)) (all.drop j) = X ∧ (all.drop j).length < f ∧ us.length ≤ 40 ∧ RowR w wr q us ∧ PSt all E g v wr j m ∧ Kept g w wr) (fun _ wr => all.length - posOf g wr)
  case atStart => exact ⟨[], _, i, n, HX.out, by omega, by simp, ⟨World.ownsRow_nil _ _ _ _, fun p hp => by cases hp⟩, h, Kept.refl _ _⟩
  case round =>
    obtain ⟨us, f, j, m, hXr, hf, h40, hrow, hst, hkp⟩ := hrel
    clear HX
    have hp := hst.pos
    have k0 := (cell_of_row _ _ 0 _ _ _ hst.blk).trans rfl
    have k1 := (cell_of_row _ _ 1 _ _ _ hst.blk).trans rfl
    obtain ⟨pv, cv, ev⟩ := TRow.form hst.row
    have hjl := hst.le
    have HXr : Hid (rulesR E f (us.map (·.1)) (all.drop j) = X) := hXr
    have HV : Hid (v = .slice pv all.length cv) := ev
    rw [ev] at k0
    clear hXr ev
    by_cases hlt : j < all.length
    · have hlt' : (j : Int) < (all.length : Int) := by omega
      go_wp2_with fail
      go_quiet (fail)
      have hbq : Below wr.heap.size wr (wr.drewN nq) := below_drewN (Below.refl _ _) nq
      have hst1 := hst.below hbq h0
      have hkp1 := hkp.trans (Kept.of_below hbq)
      have hrow1 := hrow.kept (Kept.of_below (g := g) hbq) hgl
      clear hst hkp hrow hbq k0 k1
      generalize wr.drewN nq = w1 at *
      obtain ⟨f, rfl⟩ : ∃ f', f = f' + 1 := ⟨f - 1, by omega⟩
      have hXX := HXr.out
      rw [rulesR_step (by simp; omega), tail_drop] at hXX
      clear HXr
      by_cases hR : isT wRule (all.drop j) = true
      · rw [if_pos hR] at hXX
        have c2 := must_yes h0 hst1 wRule (by decide) hR
        by_cases hm : us.length = 40
        · rw [if_pos (by simpa using hm)] at hXX
          have HE : Hid (X = .error (5, atP E (all.drop (j + 1)))) := hXX.symm
          obtain ⟨pq, cq, rfl⟩ := row_form hrow1.own
          have hm' : ((us.length : Int) == 40) = true := by rw [hm]; rfl
          clear hXX hR hm
          go_wp2_with fail
          refine c2.mono ?_
          rintro e w2 ⟨rfl, h2, hk2⟩
          go_wp2_with fail
          refine (fail_any h0 h2 5).mono ?_
          rintro e w3 ⟨rfl, hb3⟩
          refine ⟨rfl, ?_⟩
          rw [HE.out]
          exact ⟨rfl, (hkp1.trans hk2).trans (Kept.of_below hb3)⟩
        · rw [if_neg (by simpa using hm)] at hXX
          have hm' : ((us.length : Int) == 40) = false := beq_eq_false_iff_ne.2 (by omega)
          have hj1 := isT_len (by decide) hR
          have HXX : Hid ((match ruleR E (all.drop (j + 1)) with | .error q => .error q | .ok (u, q) => rulesR E f (us.map (·.1) ++ [u]) q) = X) := hXX
          have cR := fun (W : World) (hW : PSt all E g v W (j + 1) m) => rule_any h0 hW
          have hown1 := hrow1.own
          obtain ⟨pq, cq, eq⟩ := row_form hown1
          have HQ : Hid (u3 = .slice pq us.length cq) := eq
          subst eq
          clear hXX hR hown1
          go_wp2_with fail
          refine c2.mono ?_
          rintro e w2 ⟨rfl, h2, hk2⟩
          have hkp2 := hkp1.trans hk2
          have hrow2 := hrow1.kept hk2 hgl
          clear hrow1 hst1 hkp1 c2
          go_wp2_with fail
          refine (cR _ h2).mono ?_
          intro e w3 ho
          clear cR
          cases hx : ruleR E (all.drop (j + 1)) with
          | error q =>
            obtain ⟨er, at_⟩ := q
            have hXX := HXX.out
            rw [hx] at ho hXX
            obtain ⟨rfl, hk3⟩ := ho
            refine ⟨rfl, ?_⟩
            rw [← hXX]
            exact ⟨rfl, hkp2.trans hk3⟩
          | ok q =>
            obtain ⟨u, rr⟩ := q
            have hql := ruleR_len hx
            have hXX := HXX.out
            rw [hx] at ho hXX
            obtain ⟨i3, m3, sl, d3, hr3, rfl, hkd, h3, hm3, hk3⟩ := ho
            subst hr3
            obtain ⟨p3, c3, rfl⟩ := hkd.form
            have hrow3 := hrow2.kept hk3 hgl
            have hkp3 := hkp2.trans hk3
            have hs2 := hkp2.size
            have hs3 := hkp3.size
            have HN : Hid (rulesR E f ((us ++ [(u, Value.slice p3 u.2.kids.length c3)]).map (fun p => p.1)) (all.drop i3) = X) := by
              show _ = _
              rw [List.map_append]; exact hXX
            have hb4 : Below w3.heap.size w3 (w3.alloc (.cells #[.string ⟨u.1.toArray⟩, .int .i64 u.2.kind, .int .i64 u.2.a, .int .i64 u.2.b, .string ⟨u.2.name.toArray⟩, .slice p3 u.2.kids.length c3] 33)) := (Below.refl _ _).alloc (Nat.le_refl _) _
            have hrow4 := hrow3.kept (Kept.of_below (g := g) hb4) hgl
            have h4 := h3.below hb4 h0
            have hkp4 := hkp3.trans (Kept.of_below hb4)
            have hkd4 : KidsAt (fun k => w.heap.size ≤ k) d3 (w3.alloc (.cells #[.string ⟨u.1.toArray⟩, .int .i64 u.2.kind, .int .i64 u.2.a, .int .i64 u.2.b, .string ⟨u.2.name.toArray⟩, .slice p3 u.2.kids.length c3] 33)) (.slice p3 u.2.kids.length c3) u.2.kids := (Kept.of_below (g := g) hb4).kids (fun k hk => by omega) (hkd.mono fun k hk => by omega)
            have hx4 := heap_alloc_new w3 (.cells #[.string ⟨u.1.toArray⟩, .int .i64 u.2.kind, .int .i64 u.2.a, .int .i64 u.2.b, .string ⟨u.2.name.toArray⟩, .slice p3 u.2.kids.length c3] 33)
            have hs4 := hkp4.size
            unfold ruV
            clear hrow2 hrow3 h2 h3 hk2 hk3 hkd hkp2 hkp3 hb4 hx hXX HXX
            generalize hw4 : w3.alloc (.cells #[.string ⟨u.1.toArray⟩, .int .i64 u.2.kind, .int .i64 u.2.a, .int .i64 u.2.b, .string ⟨u.2.name.toArray⟩, .slice p3 u.2.kids.length c3] 33) = w4 at *
            go_wp2_with (at_builtin; refine wpList_append_own _ rfl _ _ 22 rfl w.heap.size 33 i0 (.agg #[.string ⟨#[]⟩, .int .i64 0, .int .i64 0, .int .i64 0, .string ⟨#[]⟩, .slice none 0 0]) 6 80 rulesType hi hz0 hz1 hz2 rfl (by decide) (.slice pq us.length cq) us.length (flatR us) rfl hrow4.own ⟨w3.heap.size, 0, none⟩ 1 1 [.string ⟨u.1.toArray⟩, .int .i64 u.2.kind, .int .i64 u.2.a, .int .i64 u.2.b, .string ⟨u.2.name.toArray⟩, .slice p3 u.2.kids.length c3] rfl rfl ?c1 ?c2 ?c3 ?c4 ?c5 ?_)
            case c1 =>
              intro j u' hj
              match j, hj with
              | 0, hj => simp at hj; subst hj; exact (cell_of_row _ _ _ _ _ _ hx4).trans rfl
              | 1, hj => simp at hj; subst hj; exact (cell_of_row _ _ _ _ _ _ hx4).trans rfl
              | 2, hj => simp at hj; subst hj; exact (cell_of_row _ _ _ _ _ _ hx4).trans rfl
              | 3, hj => simp at hj; subst hj; exact (cell_of_row _ _ _ _ _ _ hx4).trans rfl
              | 4, hj => simp at hj; subst hj; exact (cell_of_row _ _ _ _ _ _ hx4).trans rfl
              | 5, hj => simp at hj; subst hj; exact (cell_of_row _ _ _ _ _ _ hx4).trans rfl
            case c2 => intro u hu; simp at hu; rcases hu with rfl | rfl | rfl | rfl | rfl | rfl <;> rfl
            case c3 => unfold maxLen; omega
            case c4 => omega
            case c5 => exact hs4
            intro v' w5 hown' hgrow _
            have hlo := hrow4.own.lt
            have hgne : ∀ b, (Value.slice pq us.length cq).ownBlock = some b → b ≠ g := fun b hb => by have := (hlo b hb).1; omega
            have hkp5 : Kept g w w5 := ⟨hgrow.os.trans hkp4.os, hgrow.tape.trans hkp4.tape, hgrow.output.trans hkp4.output, Nat.le_trans hkp4.size hgrow.size, fun k hk hne => (hgrow.block k (by omega) (fun e => by have := (hlo k e.symm).1; omega)).trans (hkp4.block k hk hne)⟩
            have h5 : PSt all E g v w5 i3 m3 := h.of_kept h0 hkp5 ((hgrow.block g (lt_of_block h4.blk) (fun e => hgne g e.symm rfl)).trans h4.blk) h4.le
            have hrow5 : RowR w w5 v' (us ++ [(u, .slice p3 u.2.kids.length c3)]) := by
              refine ⟨?_, fun p hp => ?_⟩
              · rw [flatR_snoc]
                simp only [List.length_append, List.length_cons, List.length_nil, Nat.zero_add]
                exact hown'
              · rcases List.mem_append.1 hp with hp | hp
                · obtain ⟨d, hd⟩ := hrow4.kids p hp
                  exact ⟨d, kids_grown hrow4.own hgrow hd⟩
                · have e : p = (u, .slice p3 u.2.kids.length c3) := by simpa using hp
                  subst e
                  exact ⟨d3, kids_grown hrow4.own hgrow hkd4⟩
            have hn5 : (us ++ [(u, Value.slice p3 u.2.kids.length c3)]).length ≤ 40 := by simp; omega
            have hfl : (all.drop i3).length < f := by
              simp only [List.length_drop] at hql hf ⊢
              omega
            clear hown' hgrow hrow4 h4 hkp4 hkd4 hx4 hw4
            go_wp2_with fail
            go_roundw
            case rel => exact ⟨_, f, i3, m3, HN.out, hfl, hn5, hrow5, h5, hkp5⟩
            case measure =>
              rw [hp]
              have := h5.pos
              have := h5.le
              show all.length - posOf g _ < _
              simp only [List.length_drop] at hql
              omega
      · have hR' : isT wRule (all.drop j) = false := by simpa using hR
        rw [if_neg hR] at hXX
        have HE : Hid (X = .error (2, atP E (all.drop j))) := hXX.symm
        have c2 := must_no h0 hst1 wRule hR'
        clear hXX hR hR'
        go_wp2_with fail
        refine c2.mono ?_
        rintro e w2 ⟨rfl, hk2⟩
        refine ⟨rfl, ?_⟩
        rw [HE.out]
        exact ⟨rfl, hkp1.trans hk2⟩
    · have hlt' : ¬ (j : Int) < (all.length : Int) := by omega
      have hXX := HXr.out
      rw [rulesR_end (by simp; omega)] at hXX
      have HE : Hid (X = .ok (us.map (·.1))) := hXX.symm
      clear hXX HXr
      go_wp2_with fail
      go_quiet (fail)
      have hbq : Below wr.heap.size wr (wr.drewN nq) := below_drewN (Below.refl _ _) nq
      have hkp1 := hkp.trans (Kept.of_below hbq)
      have hrow1 := hrow.kept (Kept.of_below (g := g) hbq) hgl
      go_wp2_with fail
      go_ret
      rw [HE.out]
      exact ⟨_, us, rfl, rfl, hrow1, h40, hkp1⟩
end Go.Proofs.YtgfjbcdjpkcbkaaGreatDoor

/- What parse.Parse comes to: the deferred call. -/
namespace Go.Proofs.YtgfjbcdjpkcbkaaGreatDoor
open Go.RowKit Lx
set_option maxRecDepth 100000 in
theorem catch_idle (p q : Option Addr) (w : World) :
    CallsD Tryz.prog 37 #[.pointer p, .pointer q] .returning w fun e u' w' => e = .returned (.tuple #[]) ∧ u' = .returning ∧ w' = w := by
  refine callsD_of_wpS Tryz.func37 rfl fun c₀ cs hu => ?_
  apply wpS_seq
  apply wpS_region
  simp [wpOpsS, go_sem, recoverD, hu, Tryz.ntmps37, Exit.thenS]
  refine wpS_of_wp ?_
  change Code.wp _ _ _ { tmps := #[.pointer p, .pointer q, .nilIface, .nilIface, undef, undef, undef, undef, undef], defers := [] } w
  go_wp2_with fail
  cases c₀
  simp_all [bodyPostS, results, Tryz.results37]
theorem assertThrown (c0 c1 : Value) (w : World) : (Instr.typeAssert (.iface 85 (.agg #[c0, c1])) 20 85 false).run Tryz.prog w = .ok (.agg #[c0, c1]) w := by
  unfold Instr.typeAssert
  simp [go_sem]
theorem fieldThrown (c0 c1 : Value) (w : World) : (Instr.field 85 (.agg #[c0, c1]) 0).run Tryz.prog w = .ok (.agg #[c0, c1]) w := by
  unfold Instr.field
  simp [go_sem, asAgg]
attribute [local go_sem] assertThrown fieldThrown
def caught (p q : Nat) (er at_ : Int) (w : World) : World := ((w.setCell ⟨p, 0, none⟩ (.slice none 0 0)).setCell ⟨q, 0, none⟩ (.int .i64 er)).setCell ⟨q, 1, none⟩ (.int .i64 at_)
set_option maxRecDepth 100000 in
set_option maxHeartbeats 1000000 in
theorem catch_thrown (p q : Nat) (hpq : p ≠ q) (c0 c1 c2 : Value) (er at_ : Int) (w : World) (hp : w.heap[p]? = some (.cells #[c0] 22 (0, 0))) (hq : w.heap[q]? = some (.cells #[c1, c2] 26 (0, 0))) :
    CallsD Tryz.prog 37 #[.pointer (some ⟨p, 0, none⟩), .pointer (some ⟨q, 0, none⟩)] (.panicking [{ v := .iface 85 (.agg #[.int .i64 er, .int .i64 at_]), recovered := false }]) w fun e u' w' =>
      e = .returned (.tuple #[]) ∧ u' = .panicking [{ v := .iface 85 (.agg #[.int .i64 er, .int .i64 at_]), recovered := true }] ∧ ∃ k, w' = (caught p q er at_ w).drewN k := by
  have kp := (cell_of_row _ _ 0 _ _ _ hp).trans rfl
  have kq0 := (cell_of_row _ _ 0 _ _ _ hq).trans rfl
  have kq1 := (cell_of_row _ _ 1 _ _ _ hq).trans rfl
  have yp := frozen_of_row _ _ 0 _ _ hp
  have yq0 := frozen_of_row _ _ 0 _ _ hq
  have yq1 := frozen_of_row _ _ 1 _ _ hq
  refine callsD_of_wpS Tryz.func37 rfl fun c₀ cs hu => ?_
  apply wpS_seq
  apply wpS_region
  simp [wpOpsS, go_sem, recoverD, hu, Tryz.ntmps37, Exit.thenS]
  refine wpS_of_wp ?_
  change Code.wp _ _ _ { tmps := #[.pointer (some ⟨p, 0, none⟩), .pointer (some ⟨q, 0, none⟩), .iface 85 (.agg #[.int .i64 er, .int .i64 at_]), .iface 85 (.agg #[.int .i64 er, .int .i64 at_]), undef, undef, undef, undef, undef], defers := [] } w
  go_wp2_with fail
  go_region
  show bodyPostS _ _ _ _ _ _ _ _ _
  simp [bodyPostS, results, Tryz.results37]
  exact ⟨1, rfl⟩
end Go.Proofs.YtgfjbcdjpkcbkaaGreatDoor

/- What parse.Parse comes to. -/
namespace Go.Proofs.YtgfjbcdjpkcbkaaGreatDoor
open Go.RowKit Lx
theorem valL_six (l : List UInt8) (h : ∀ i, i < l.length → isD (l.getD i 0) = true) (h6 : l.length ≤ 6) : 0 ≤ valL l ∧ valL l ≤ 999999 := by
  have b := valL_small l h l.length (Nat.le_refl _) h6
  rw [List.take_length] at b
  omega
theorem run_digits (l : List UInt8) : ∀ i, i < (l.take (runOf isD l)).length → isD ((l.take (runOf isD l)).getD i 0) = true := by
  intro i hi
  have hle := runOf_le isD l
  rw [List.length_take, Nat.min_eq_left hle] at hi
  have := runOf_all isD l i hi
  rw [List.getD_eq_getElem?_getD] at this ⊢
  rw [List.getElem?_take, if_pos hi]
  exact this
theorem first_num (l : List UInt8) (he : (firstT l).err = 0) : 0 ≤ (firstT l).n ∧ (firstT l).n ≤ 999999 := by
  unfold firstT at he ⊢
  split at he
  · rename_i hf
    rw [if_pos hf]
    unfold dateT at he ⊢
    split at he
    · rename_i h
      rw [if_pos h]
      unfold numE at h ⊢
      split at h
      · rename_i hv
        rw [if_pos hv]
        have := Cal.num_bd _ _ _ hv.1 hv.2
        show 0 ≤ Cal.num _ _ _ ∧ Cal.num _ _ _ ≤ 999999
        omega
      · simp at h
    · simp [bad] at he
  · rename_i hf
    rw [if_neg hf]
    split at he
    · rename_i hf2
      rw [if_pos hf2]
      have p1 := dig_part hf2 0 2 (by decide) (fun i hi => by match i, hi with | 0, _ => rfl | 1, _ => rfl)
      have p2 := dig_part hf2 3 2 (by decide) (fun i hi => by match i, hi with | 0, _ => rfl | 1, _ => rfl)
      have q1 := valL_six _ p1.2 (by omega)
      have q2 := valL_six _ p2.2 (by omega)
      unfold timeT at he ⊢
      split at he
      · simp [bad] at he
      · rename_i h
        rw [if_neg h]
        simp only
        omega
    · rename_i hf2
      rw [if_neg hf2]
      split at he
      · rename_i hd
        rw [if_pos hd]
        unfold numT at he ⊢
        split at he
        · simp [bad] at he
        · rename_i h
          rw [if_neg h]
          have hle := runOf_le isD l
          exact valL_six _ (run_digits l) (by rw [List.length_take, Nat.min_eq_left hle]; omega)
      · rename_i hd
        rw [if_neg hd]
        split at he
        · rename_i hL
          rw [if_pos hL]
          unfold wordT at he ⊢
          split at he
          · simp [bad] at he
          · rename_i h
            rw [if_neg h]; simp
        · rename_i hL
          rw [if_neg hL]
          unfold signT at he ⊢
          split at he
          · rename_i hp
            rw [if_pos hp]; simp
          · rename_i hp
            rw [if_neg hp]
            split at he
            · simp [bad] at he
            · rename_i h
              rw [if_neg h]; simp
theorem lexed_num {l : List UInt8} {ts : List Tk} {k : Nat} (h : Lexed l ts k) : ∀ p ∈ ts, 0 ≤ p.1.n ∧ p.1.n ≤ 999999 := by
  obtain ⟨n, hn⟩ := h
  refine Lexed.ind (M := fun ts _ => ∀ p ∈ ts, 0 ≤ p.1.n ∧ p.1.n ≤ 999999) (fun p hp => by cases hp) ?_ n hn
  intro ts k _ _ he ih p hp
  rcases List.mem_append.1 hp with h | h
  · exact ih p h
  · have e : p = (firstT (l.drop k), k) := by simpa using h
    rw [e]; exact first_num _ he
theorem RowR.later {w0 w1 w w' : World} {vr : Value} {us : List (Ru × Value)} (h : RowR w0 w vr us) (hk : ∀ k, w0.heap.size ≤ k → w'.heap[k]? = w.heap[k]?) (hb : w1.heap.size ≤ w0.heap.size) : RowR w1 w' vr us := by
  refine ⟨?_, fun p hp => ?_⟩
  · obtain ⟨h1, h2⟩ := h.own
    refine ⟨h1, ?_⟩
    rcases h2 with h2 | ⟨g, cap, cur, hv, hg, hh, r⟩
    · exact .inl h2
    · exact .inr ⟨g, cap, cur, hv, by omega, (hk g hg).trans hh, r⟩
  · obtain ⟨d, hd⟩ := h.kids p hp
    exact ⟨d, (hd.kept fun k hB _ => hk k hB).mono fun k hB => by omega⟩
theorem caught_other (p q : Nat) (er at_ : Int) (w : World) (k : Nat) (h1 : k ≠ p) (h2 : k ≠ q) : (caught p q er at_ w).heap[k]? = w.heap[k]? := by
  unfold caught
  rw [heap_setCell_other _ _ _ _ h2, heap_setCell_other _ _ _ _ h2, heap_setCell_other _ _ _ _ h1]
def PTells (l : List UInt8) (w0 w : World) (v : Value) (er at_ : Int) : Prop :=
  (6000 < l.length ∧ v = .slice none 0 0 ∧ er = 4 ∧ at_ = 0) ∨
  (∃ (ts : List Tk) (k : Nat), l.length ≤ 6000 ∧ Lexed l ts k ∧ k < l.length ∧ (firstT (l.drop k)).err ≠ 0 ∧ v = .slice none 0 0 ∧ er = (firstT (l.drop k)).err ∧ at_ = (k : Int)) ∨
  (∃ (ts : List Tk) (k : Nat) (er' : Int) (at' : Nat), l.length ≤ 6000 ∧ Lexed l ts k ∧ ¬ k < l.length ∧ rulesR l.length (ts.length + 1) [] ts = .error (er', at') ∧ v = .slice none 0 0 ∧ er = er' ∧ at_ = (at' : Int)) ∨
  (∃ (ts : List Tk) (k : Nat) (us : List (Ru × Value)), l.length ≤ 6000 ∧ Lexed l ts k ∧ ¬ k < l.length ∧ rulesR l.length (ts.length + 1) [] ts = .ok (us.map (fun p => p.1)) ∧ us.length ≤ 40 ∧ RowR w0 w v us ∧ er = 0 ∧ at_ = 0)
theorem parse_leaves {tmps : Array Value} {R : Ending → World → Prop} {w : World} (p q : Nat) (a : Option Addr) (b c : Nat) (er at_ : Int) (h2 : tmps.getD 2 undef = .pointer (some ⟨p, 0, none⟩)) (h3 : tmps.getD 3 undef = .pointer (some ⟨q, 0, none⟩))
    (hp : w.heap[p]? = some (.cells #[.slice a b c] 22 (0, 0))) (hq : w.heap[q]? = some (.cells #[.int .i64 er, .int .i64 at_] 26 (0, 0))) (hR : R (.returned (.tuple #[.slice a b c, .agg #[.int .i64 er, .int .i64 at_]])) w) : Leaves Tryz.prog Tryz.f25 tmps R [] .returning w := by
  refine ⟨.tuple #[.slice a b c, .agg #[.int .i64 er, .int .i64 at_]], ?_, hR⟩
  have h2' : tmps[2]?.getD undef = .pointer (some ⟨p, 0, none⟩) := by simpa using h2
  have h3' : tmps[3]?.getD undef = .pointer (some ⟨q, 0, none⟩) := by simpa using h3
  have kp : w.cell? ⟨p, 0, none⟩ = some (.slice a b c) := (cell_of_row _ _ 0 _ _ _ hp).trans rfl
  have kq0 : w.cell? ⟨q, 0, none⟩ = some (.int .i64 er) := (cell_of_row _ _ 0 _ _ _ hq).trans rfl
  have kq1 : w.cell? ⟨q, 1, none⟩ = some (.int .i64 at_) := (cell_of_row _ _ 1 _ _ _ hq).trans rfl
  simp [results, Tryz.results25, h2', h3', asAddr, kp, kq0, kq1, go_sem]
set_option maxRecDepth 100000 in
set_option maxHeartbeats 4000000 in
theorem parse_any (s : ByteArray) (l : List UInt8) (hs : s.data.toList = l) (hl : l.length ≤ 9223372036854775807) (w : World) (hT : CTab w) (hD : DTab w) :
    Calls Tryz.prog 25 #[.string s] w fun e w' => (∃ v er at_, e = .returned (.tuple #[v, .agg #[.int .i64 er, .int .i64 at_]]) ∧ PTells l w w' v er at_) ∧ Below w.heap.size w w' := by
  have hz : s.size = l.length := by rw [← hs, Lib.size_eq]
  have hmf : ∀ (fn : Fn) (first cap : Array Value) (w : World), (Instr.makeFunc fn first cap).run Tryz.prog w = .ok (.func fn first cap) w := fun _ _ _ _ => rfl
  have hbA := (Below.refl w.heap.size w).alloc (Nat.le_refl _) (.cells #[.slice none 0 0] 22)
  have hbB := hbA.alloc hbA.size (.cells #[.int .i64 0, .int .i64 0] 26)
  have hp2 := (Below.heap_alloc _ (.cells #[.int .i64 0, .int .i64 0] 26) _ (lt_of_block (heap_alloc_new w (.cells #[.slice none 0 0] 22)))).trans (heap_alloc_new w (.cells #[.slice none 0 0] 22))
  have hp3 := heap_alloc_new (w.alloc (.cells #[.slice none 0 0] 22)) (.cells #[.int .i64 0, .int .i64 0] 26)
  rw [show (w.alloc (.cells #[.slice none 0 0] 22)).heap.size = w.heap.size + 1 by simp] at hp3
  have hszB : ((w.alloc (.cells #[.slice none 0 0] 22)).alloc (.cells #[.int .i64 0, .int .i64 0] 26)).heap.size = w.heap.size + 2 := by simp
  generalize hwB : (w.alloc (.cells #[.slice none 0 0] 22)).alloc (.cells #[.int .i64 0, .int .i64 0] 26) = wB at *
  have cX := lex_any s l hs hl wB (hT.below hbB)
  go_enter_defers Tryz.func25, Tryz.ntmps25
  go_wp2_with fail
  refine cX.mono ?_
  rintro e w1 ⟨⟨v, er, at_, rfl, hx⟩, hb1⟩
  have hq2 := (hb1.block _ (lt_of_block hp2)).trans hp2
  have hq3 := (hb1.block _ (lt_of_block hp3)).trans hp3
  have hb1w := hbB.trans (hb1.mono hbB.size)
  have hsz1 := hb1.size
  clear hp2 hp3 cX hwB
  have hr3 := setRow_heap w1 (w.heap.size + 1) _ #[.int .i64 er, .int .i64 at_] _ _ hq3
  have hr2 := (setRow_other w1 (w.heap.size + 1) w.heap.size #[.int .i64 er, .int .i64 at_] (by omega)).trans hq2
  have hbr : Below w.heap.size w (w1.setRow (w.heap.size + 1) #[.int .i64 er, .int .i64 at_]) := below_setRow hb1w (by omega) _
  have d0 : (w1.setRow (w.heap.size + 1) #[.int .i64 er, .int .i64 at_]).cell? ⟨w.heap.size + 1, 0, none⟩ = some (.int .i64 er) := (cell_of_row _ _ 0 _ _ _ hr3).trans rfl
  by_cases he : er = 0
  · subst he
    obtain ⟨ts, k, h6, hL, hk, ho⟩ : ∃ (ts : List Tk) (k : Nat), l.length ≤ 6000 ∧ Lexed l ts k ∧ ¬ k < l.length ∧ w1.ownsRow wB.heap.size 101 4 v ts.length (flatT ts) := by
      rcases hx with ⟨_, _, h, _⟩ | ⟨ts, k, _, _, _, he, _, h, _⟩ | ⟨ts, k, h1, h2, h3, h4, _⟩
      · cases h
      · exact absurd h.symm he
      · exact ⟨ts, k, h1, h2, h3, h4⟩
    have hle := hL.le
    have hnum := lexed_num hL
    have hown : ∀ b, v.ownBlock = some b → b < w1.heap.size ∧ wB.heap.size ≤ b := fun b hb => ⟨(ho.lt b hb).2, (ho.lt b hb).1⟩
    have hrow1 : TRow w1 v ts := trow_of_owns ho (by omega)
    have hsr : (w1.setRow (w.heap.size + 1) #[.int .i64 0, .int .i64 at_]).heap.size = w1.heap.size := by simp [World.setRow]
    have hrow2 : TRow (w1.setRow (w.heap.size + 1) #[.int .i64 0, .int .i64 at_]) v ts := by
      rcases hrow1 with h | ⟨gt, o, c, hv, hl', hc⟩
      · exact .inl h
      · refine .inr ⟨gt, o, c, hv, hl', fun j t k hj => ?_⟩
        obtain ⟨c1, c2, c3, c4⟩ := hc j t k hj
        have hne : gt ≠ w.heap.size + 1 := by
          have := (hown gt (by rw [hv]; rfl)).2
          omega
        have e : (w1.setRow (w.heap.size + 1) #[.int .i64 0, .int .i64 at_]).heap[gt]? = w1.heap[gt]? := setRow_other _ _ _ _ hne
        have ce : ∀ i, (w1.setRow (w.heap.size + 1) #[.int .i64 0, .int .i64 at_]).cell? ⟨gt, i, none⟩ = w1.cell? ⟨gt, i, none⟩ := fun i => World.cell?_of_block e
        exact ⟨(ce _).trans c1, (ce _).trans c2, (ce _).trans c3, (ce _).trans c4⟩
    have hDr : DTab (w1.setRow (w.heap.size + 1) #[.int .i64 0, .int .i64 at_]) := fun j hj => (hbr.cell (block_lt_of_cell (hD j hj))).trans (hD j hj)
    have hgd := block_lt_of_cell (hD 0 (by omega))
    obtain ⟨pv, cv, rfl⟩ := hrow1.form
    clear hx ho hrow1 hT
    generalize hWr : w1.setRow (w.heap.size + 1) #[.int .i64 0, .int .i64 at_] = Wr at *
    have hb4 : Below Wr.heap.size Wr (Wr.alloc (.cells #[.slice pv ts.length cv, .int .i64 0, .int .i64 (l.length : Int), .int .i64 0] 87)) := (Below.refl _ _).alloc (Nat.le_refl _) _
    have h0 : PS0 ts l.length Wr.heap.size (.slice pv ts.length cv) := ⟨by omega, h6, fun e => by have := (hown _ e).1; omega, hnum, by show 2 ≠ Wr.heap.size; have : 2 < w.heap.size := hgd; omega⟩
    have hst : PSt ts l.length Wr.heap.size (.slice pv ts.length cv) (Wr.alloc (.cells #[.slice pv ts.length cv, .int .i64 0, .int .i64 (l.length : Int), .int .i64 0] 87)) 0 0 :=
      ⟨heap_alloc_new Wr _, (Kept.of_below (g := Wr.heap.size + 1) hb4).row (fun e => by have := (hown _ e).1; omega) hrow2, by omega, (Kept.of_below (g := Wr.heap.size + 1) hb4).days (by show 2 ≠ Wr.heap.size + 1; have : 2 < w.heap.size := hgd; omega) hDr⟩
    have c4 := rules_any h0 hst
    rw [List.drop_zero] at c4
    have hp4 := (hb4.block _ (lt_of_block hr2)).trans hr2
    have hq4 := (hb4.block _ (lt_of_block hr3)).trans hr3
    have hbw4 := hbr.trans (hb4.mono hbr.size)
    have hs4 : (Wr.alloc (.cells #[.slice pv ts.length cv, .int .i64 0, .int .i64 (l.length : Int), .int .i64 0] 87)).heap.size = Wr.heap.size + 1 := by simp
    have hlz : w.heap.size + 1 < Wr.heap.size := lt_of_block hr3
    clear hb4 hst hDr hrow2 hown hnum
    have hsr' := hsr.symm
    clear hsr
    go_wp2_with (refine wpList_store_row rfl 26 _ _ rfl _ _ rfl rfl _ _ hq3 (by kernel_rfl) (by simp) (by simp [Value.oneCell']) ?_)
    refine c4.mono ?_
    intro e w5 ho
    cases hx : rulesR l.length (ts.length + 1) [] ts with
    | error q =>
      obtain ⟨er, at'⟩ := q
      rw [hx] at ho
      obtain ⟨rfl, hk5⟩ := ho
      have hp5 := hk5.at hp4 (by omega)
      have hq5 := hk5.at hq4 (by omega)
      have hq0 : (caught w.heap.size (w.heap.size + 1) er (at' : Int) w5).heap[w.heap.size]? = some (.cells #[.slice none 0 0] 22 (0, 0)) :=
        (heap_setCell_other _ _ _ _ (by show w.heap.size ≠ w.heap.size + 1; omega)).trans ((heap_setCell_other _ _ _ _ (by show w.heap.size ≠ w.heap.size + 1; omega)).trans (heap_setCell_same _ _ 0 _ _ _ hp5))
      have hq1 : (caught w.heap.size (w.heap.size + 1) er (at' : Int) w5).heap[w.heap.size + 1]? = some (.cells #[.int .i64 er, .int .i64 (at' : Int)] 26 (0, 0)) :=
        heap_setCell_same _ _ 1 _ _ _ (heap_setCell_same _ _ 0 _ _ _ ((heap_setCell_other _ _ _ _ (by show w.heap.size + 1 ≠ w.heap.size; omega)).trans hq5))
      have hbf : Below w.heap.size w (caught w.heap.size (w.heap.size + 1) er (at' : Int) w5) := by
        have hs5 := hk5.size
        refine ⟨hk5.os.trans hbw4.os, hk5.tape.trans hbw4.tape, hk5.output.trans hbw4.output, ?_, fun k hk => ?_⟩
        · have := hbw4.size
          simp [caught]; omega
        · rw [caught_other _ _ _ _ _ _ (by omega) (by omega), hk5.block k (by omega) (fun e => by have := Option.some.inj e; omega)]
          exact hbw4.block k hk
      show bodyPostD _ _ _ (Exit.panic _) _ _
      simp only [bodyPostD]
      refine leaves_cons (f := 37) (args := #[.pointer (some ⟨w.heap.size, 0, none⟩), .pointer (some ⟨w.heap.size + 1, 0, none⟩)]) (by simp) (by simp [go_sem]) ?_
      refine (catch_thrown w.heap.size (w.heap.size + 1) (by omega) _ _ _ er (at' : Int) w5 hp5 hq5).mono ?_
      rintro e u' w6 ⟨rfl, rfl, k, rfl⟩
      show Leaves _ _ _ _ [] (settle _) _
      simp only [settle, List.dropWhile_nil]
      exact parse_leaves w.heap.size (w.heap.size + 1) none 0 0 er (at' : Int) rfl rfl hq0 hq1 ⟨⟨_, _, _, rfl, .inr (.inr (.inl ⟨ts, _, er, at', h6, hL, hk, hx, rfl, rfl, rfl⟩))⟩, below_drewN hbf k⟩
    | ok rs =>
      rw [hx] at ho
      obtain ⟨vr, us, rfl, hus, hrow, hu40, hk5⟩ := ho
      have hp5 := hk5.at hp4 (by omega)
      have hq5 := hk5.at hq4 (by omega)
      obtain ⟨pr, cr, rfl⟩ := row_form hrow.own
      have kp := (cell_of_row _ _ 0 _ _ _ hp5).trans rfl
      have yp := frozen_of_row _ _ 0 _ _ hp5
      have hp6 : (w5.setCell ⟨w.heap.size, 0, none⟩ (.slice pr us.length cr)).heap[w.heap.size]? = some (.cells #[.slice pr us.length cr] 22 (0, 0)) := heap_setCell_same _ _ 0 _ _ _ hp5
      have hq6 := (heap_setCell_other w5 ⟨w.heap.size, 0, none⟩ (w.heap.size + 1) (.slice pr us.length cr) (by show w.heap.size + 1 ≠ w.heap.size; omega)).trans hq5
      have hp7 := (setRow_other (w5.setCell ⟨w.heap.size, 0, none⟩ (.slice pr us.length cr)) (w.heap.size + 1) w.heap.size #[.int .i64 0, .int .i64 0] (by omega)).trans hp6
      have hq7 := setRow_heap (w5.setCell ⟨w.heap.size, 0, none⟩ (.slice pr us.length cr)) (w.heap.size + 1) _ #[.int .i64 0, .int .i64 0] _ _ hq6
      have hoth : ∀ k, k ≠ w.heap.size → k ≠ w.heap.size + 1 → ((w5.setCell ⟨w.heap.size, 0, none⟩ (.slice pr us.length cr)).setRow (w.heap.size + 1) #[.int .i64 0, .int .i64 0]).heap[k]? = w5.heap[k]? := fun k h1 h2 => (setRow_other _ _ _ _ h2).trans (heap_setCell_other _ _ _ _ h1)
      have hbf : Below w.heap.size w ((w5.setCell ⟨w.heap.size, 0, none⟩ (.slice pr us.length cr)).setRow (w.heap.size + 1) #[.int .i64 0, .int .i64 0]) := by
        have hs5 := hk5.size
        refine ⟨hk5.os.trans hbw4.os, hk5.tape.trans hbw4.tape, hk5.output.trans hbw4.output, ?_, fun k hk => ?_⟩
        · have := hbw4.size
          simp [World.setRow]; omega
        · rw [hoth _ (by omega) (by omega), hk5.block k (by omega) (fun e => by have := Option.some.inj e; omega)]
          exact hbw4.block k hk
      have hrowF := hrow.later (w1 := w) (w' := (w5.setCell ⟨w.heap.size, 0, none⟩ (.slice pr us.length cr)).setRow (w.heap.size + 1) #[.int .i64 0, .int .i64 0]) (fun k hk => hoth k (by omega) (by omega)) hbw4.size
      have HP : Hid (PTells l w ((w5.setCell ⟨w.heap.size, 0, none⟩ (.slice pr us.length cr)).setRow (w.heap.size + 1) #[.int .i64 0, .int .i64 0]) (.slice pr us.length cr) 0 0) := .inr (.inr (.inr ⟨ts, k, us, h6, hL, hk, by rw [hx, hus], hu40, hrowF, rfl, rfl⟩))
      clear hrow hrowF c4 hx hus hoth hk5 hL hp4 hq4 hr2 hr3
      go_wp2_with (refine wpList_store_row rfl 26 _ _ rfl _ _ rfl rfl _ _ hq6 (by kernel_rfl) (by simp) (by simp [Value.oneCell']) ?_)
      simp only [bodyPostD]
      refine leaves_cons (f := 37) (args := #[.pointer (some ⟨w.heap.size, 0, none⟩), .pointer (some ⟨w.heap.size + 1, 0, none⟩)]) (by simp) (by simp [go_sem]) ?_
      refine (catch_idle _ _ _).mono ?_
      rintro e u' w6 ⟨rfl, rfl, rfl⟩
      show Leaves _ _ _ _ [] (settle _) _
      simp only [settle]
      exact parse_leaves w.heap.size (w.heap.size + 1) pr us.length cr 0 0 rfl rfl hp7 hq7 ⟨⟨_, _, _, rfl, HP.out⟩, hbf⟩
  · have hne : (er != 0) = true := by simpa using he
    have d1 : (w1.setRow (w.heap.size + 1) #[.int .i64 er, .int .i64 at_]).cell? ⟨w.heap.size + 1, 1, none⟩ = some (.int .i64 at_) := (cell_of_row _ _ 1 _ _ _ hr3).trans rfl
    have k0 : (w1.setRow (w.heap.size + 1) #[.int .i64 er, .int .i64 at_]).cell? ⟨w.heap.size, 0, none⟩ = some (.slice none 0 0) := (cell_of_row _ _ 0 _ _ _ hr2).trans rfl
    have y0 := frozen_of_row _ _ 0 _ _ hr2
    have y1 := frozen_of_row _ _ 0 _ _ hr3
    have y2 := frozen_of_row _ _ 1 _ _ hr3
    have HP : Hid (∀ W, PTells l w W (.slice none 0 0) er at_) := fun W => by
      rcases hx with ⟨h, _, h1, h2⟩ | ⟨ts, k, h6, hL, hk, he', _, h1, h2⟩ | ⟨ts, k, _, _, _, _, h1, _⟩
      · exact .inl ⟨h, rfl, h1, h2⟩
      · exact .inr (.inl ⟨ts, k, h6, hL, hk, he', rfl, h1, h2⟩)
      · exact absurd h1 he
    clear hx he
    generalize hWr : w1.setRow (w.heap.size + 1) #[.int .i64 er, .int .i64 at_] = Wr at *
    go_wp2_with (refine wpList_store_row rfl 26 _ _ rfl _ _ rfl rfl _ _ hq3 (by kernel_rfl) (by simp) (by simp [Value.oneCell']) ?_)
    go_region
    go_wp2_with fail
    have hf2 : (((Wr.setCell ⟨w.heap.size, 0, none⟩ (.slice none 0 0)).setCell ⟨w.heap.size + 1, 0, none⟩ (.int .i64 er)).setCell ⟨w.heap.size + 1, 1, none⟩ (.int .i64 at_)).heap[w.heap.size]? = some (.cells #[.slice none 0 0] 22 (0, 0)) :=
      (heap_setCell_other _ _ _ _ (by show w.heap.size ≠ w.heap.size + 1; omega)).trans ((heap_setCell_other _ _ _ _ (by show w.heap.size ≠ w.heap.size + 1; omega)).trans (heap_setCell_same _ _ 0 _ _ _ hr2))
    have hf3 : (((Wr.setCell ⟨w.heap.size, 0, none⟩ (.slice none 0 0)).setCell ⟨w.heap.size + 1, 0, none⟩ (.int .i64 er)).setCell ⟨w.heap.size + 1, 1, none⟩ (.int .i64 at_)).heap[w.heap.size + 1]? = some (.cells #[.int .i64 er, .int .i64 at_] 26 (0, 0)) :=
      heap_setCell_same _ _ 1 _ _ _ (heap_setCell_same _ _ 0 _ _ _ ((heap_setCell_other _ _ _ _ (by show w.heap.size + 1 ≠ w.heap.size; omega)).trans hr3))
    have hbf := ((hbr.setCell (p := ⟨w.heap.size, 0, none⟩) (Nat.le_refl _) (.slice none 0 0)).setCell (p := ⟨w.heap.size + 1, 0, none⟩) (by show w.heap.size ≤ w.heap.size + 1; omega) (.int .i64 er)).setCell (p := ⟨w.heap.size + 1, 1, none⟩) (by show w.heap.size ≤ w.heap.size + 1; omega) (.int .i64 at_)
    simp only [bodyPostD]
    exact parse_leaves w.heap.size (w.heap.size + 1) none 0 0 er at_ rfl rfl hf2 hf3 ⟨⟨_, _, _, rfl, HP.out _⟩, below_drewN hbf 1⟩
end Go.Proofs.YtgfjbcdjpkcbkaaGreatDoor

/- What is wrong with tokens has a number that is not nought; and the rules of two texts, one behind the other. -/
namespace Lx
end Lx
namespace Go.Proofs.YtgfjbcdjpkcbkaaGreatDoor
open Go.RowKit Lx
end Go.Proofs.YtgfjbcdjpkcbkaaGreatDoor

/- What is wrong with an expression's form: plain. -/
namespace Lx
def kidsP (k : Int) : Nat := if k = 4 ∨ k = 5 ∨ k = 9 then 1 else if k = 6 ∨ k = 7 ∨ k = 8 then 2 else 0
def rangeP (k a b : Int) : Bool :=
  if k = 3 then decide (0 ≤ a ∧ a < b ∧ b ≤ 1440)
  else if k = 4 then decide (1 ≤ a ∧ a < 128)
  else if k = 5 then decide (0 ≤ a ∧ a ≤ b ∧ b < 146097)
  else if k = 9 then decide (a ≠ 0 ∧ -1440 < a ∧ a < 1440) else true
def aloneP (e : Ex) : Int :=
  if e.kind < 1 ∨ 10 < e.kind then 1 else if e.kids.length ≠ kidsP e.kind then 5 else if rangeP e.kind e.a e.b = false then 3 else if e.kind = 10 ∧ Go.Proofs.YtgfjbcdjpkcbkaaGreatDoor.namedL e.name = false then 7 else 0
def shapeP (e : Ex) (deep n : Nat) : Int × Nat :=
  if 600 < n + 1 ∨ 40 < deep then (4, n + 1)
  else if aloneP e ≠ 0 then (aloneP e, n + 1)
  else e.kids.attach.foldl (fun acc k => if acc.1 ≠ 0 then acc else shapeP k.1 (deep + 1) acc.2) (0, n + 1)
  termination_by sizeOf e
  decreasing_by exact kid_lt k.2
def shapeL (ks : List Ex) (deep : Nat) (acc : Int × Nat) : Int × Nat := ks.foldl (fun acc k => if acc.1 ≠ 0 then acc else shapeP k deep acc.2) acc
theorem shapeP_eq (e : Ex) (deep n : Nat) : shapeP e deep n = if 600 < n + 1 ∨ 40 < deep then (4, n + 1) else if aloneP e ≠ 0 then (aloneP e, n + 1) else shapeL e.kids (deep + 1) (0, n + 1) := by
  rw [shapeP]
  unfold shapeL
  rw [← List.foldl_attach (f := fun (acc : Int × Nat) k => if acc.1 ≠ 0 then acc else shapeP k (deep + 1) acc.2)]
theorem shapeL_nil (deep : Nat) (acc : Int × Nat) : shapeL [] deep acc = acc := rfl
theorem shapeL_cons (k : Ex) (ks : List Ex) (deep : Nat) (acc : Int × Nat) : shapeL (k :: ks) deep acc = shapeL ks deep (if acc.1 ≠ 0 then acc else shapeP k deep acc.2) := rfl
theorem shapeL_bad {ks : List Ex} {deep : Nat} {acc : Int × Nat} (h : acc.1 ≠ 0) : shapeL ks deep acc = acc := by
  induction ks with
  | nil => rfl
  | cons k ks ih => rw [shapeL_cons, if_pos h, ih]
theorem shapeL_step {ks : List Ex} {deep j m : Nat} {k : Ex} (h : ks[j]? = some k) : shapeL (ks.drop j) deep (0, m) = shapeL (ks.drop (j + 1)) deep (shapeP k deep m) := by
  obtain ⟨h1, h2⟩ := List.getElem?_eq_some_iff.1 h
  rw [List.drop_eq_getElem_cons h1, h2, shapeL_cons, if_neg (by simp)]
theorem shape_le : ∀ (N : Nat) (e : Ex) (deep n : Nat), sizeOf e ≤ N → (shapeP e deep n).1 = 0 → (shapeP e deep n).2 ≤ 600
  | 0, e, _, _, hN, _ => by cases e; simp at hN
  | N + 1, e, deep, n, hN, h => by
    rw [shapeP_eq] at h ⊢
    split at h
    · cases h
    · rename_i h1
      rw [if_neg h1]
      split at h
      · rename_i h2; exact absurd h h2
      · rename_i h2
        rw [if_neg h2]
        have aux : ∀ (ks : List Ex), (∀ k ∈ ks, sizeOf k ≤ N) → ∀ acc : Int × Nat, acc.2 ≤ 600 → (shapeL ks (deep + 1) acc).1 = 0 → (shapeL ks (deep + 1) acc).2 ≤ 600 := by
          intro ks
          induction ks with
          | nil => intro _ acc ha _; exact ha
          | cons k ks ih =>
            intro hk acc ha h0
            rw [shapeL_cons] at h0 ⊢
            by_cases hb : acc.1 ≠ 0
            · rw [if_pos hb] at h0 ⊢
              exact ih (fun q hq => hk q (List.mem_cons_of_mem _ hq)) acc ha h0
            · rw [if_neg hb] at h0 ⊢
              refine ih (fun q hq => hk q (List.mem_cons_of_mem _ hq)) _ ?_ h0
              by_cases hz : (shapeP k (deep + 1) acc.2).1 = 0
              · exact shape_le N k (deep + 1) acc.2 (hk k List.mem_cons_self) hz
              · rw [shapeL_bad hz] at h0; exact absurd h0 hz
        exact aux e.kids (fun k hk => by have := kid_lt hk; omega) (0, n + 1) (by simp at h1 ⊢; omega) h
theorem shapeP_le {e : Ex} {deep n : Nat} (h : (shapeP e deep n).1 = 0) : (shapeP e deep n).2 ≤ 600 := shape_le _ e deep n (Nat.le_refl _) h
end Lx

/- What kidsOf, inRange and wrongAlone come to. -/
namespace Go.Proofs.YtgfjbcdjpkcbkaaGreatDoor
open Go.RowKit Lx
theorem kidsOf_any (k : Int) (w : World) : Calls Tryz.prog 80 #[.int .i64 k] w fun e w' => e = .returned (.int .i64 (kidsP k : Int)) ∧ w' = w := by
  have walk : ∀ (b4 b5 b9 b6 b7 b8 : Bool), (k == 4) = b4 → (k == 5) = b5 → (k == 9) = b9 → (k == 6) = b6 → (k == 7) = b7 → (k == 8) = b8 →
      Calls Tryz.prog 80 #[.int .i64 k] w fun e w' => e = .returned (.int .i64 (if b4 || (b5 || b9) then 1 else if b6 || (b7 || b8) then 2 else 0)) ∧ w' = w := by
    intro b4 b5 b9 b6 b7 b8 h4 h5 h9 h6 h7 h8
    cases b4 <;> cases b5 <;> cases b9 <;> cases b6 <;> cases b7 <;> cases b8 <;> (go_enter Tryz.func80, Tryz.ntmps80; go_wp2; go_ret; exact ⟨rfl, rfl⟩)
  refine (walk _ _ _ _ _ _ rfl rfl rfl rfl rfl rfl).mono ?_
  rintro e w' ⟨rfl, rfl⟩
  refine ⟨?_, rfl⟩
  unfold kidsP
  simp only [Bool.or_eq_true, beq_iff_eq]
  by_cases c1 : k = 4 ∨ k = 5 ∨ k = 9
  · rw [if_pos c1, if_pos c1]; rfl
  · rw [if_neg c1, if_neg c1]
    by_cases c2 : k = 6 ∨ k = 7 ∨ k = 8
    · rw [if_pos c2, if_pos c2]; rfl
    · rw [if_neg c2, if_neg c2]; rfl
end Go.Proofs.YtgfjbcdjpkcbkaaGreatDoor

/- What inRange comes to. -/
namespace Go.Proofs.YtgfjbcdjpkcbkaaGreatDoor
open Go.RowKit Lx
set_option maxRecDepth 100000 in
theorem inRange_any (k a b : Int) (nm : ByteArray) (p : Option Addr) (n c : Nat) (w : World) : Calls Tryz.prog 81 #[.agg #[.int .i64 k, .int .i64 a, .int .i64 b, .string nm, .slice p n c]] w fun e w' => e = .returned (.bool (rangeP k a b)) ∧ Below w.heap.size w w' := by
  have hb : Below w.heap.size w (w.alloc (.cells #[.int .i64 k, .int .i64 a, .int .i64 b, .string nm, .slice p n c] 31)) := (Below.refl _ _).alloc (Nat.le_refl _) _
  unfold rangeP
  by_cases h3 : k = 3
  · subst h3
    rw [if_pos rfl]
    by_cases c1 : 0 ≤ a
    · by_cases c2 : a < b
      · by_cases c3 : b ≤ 1440
        · go_enter Tryz.func81, Tryz.ntmps81
          go_wp2
          go_ret
          exact ⟨by first | (simp; done) | (simp; omega), hb⟩
        · go_enter Tryz.func81, Tryz.ntmps81
          go_wp2
          go_ret
          exact ⟨by first | (simp; done) | (simp; omega), hb⟩
      · go_enter Tryz.func81, Tryz.ntmps81
        go_wp2
        go_ret
        exact ⟨by first | (simp; done) | (simp; omega), hb⟩
    · go_enter Tryz.func81, Tryz.ntmps81
      go_wp2
      go_ret
      exact ⟨by first | (simp; done) | (simp; omega), hb⟩
  rw [if_neg h3]
  have i3 : (k == 3) = false := beq_eq_false_iff_ne.2 h3
  by_cases h4 : k = 4
  · subst h4
    rw [if_pos rfl]
    by_cases c1 : 1 ≤ a
    · by_cases c2 : a < 128
      · go_enter Tryz.func81, Tryz.ntmps81
        go_wp2
        go_ret
        exact ⟨by first | (simp; done) | (simp; omega), hb⟩
      · go_enter Tryz.func81, Tryz.ntmps81
        go_wp2
        go_ret
        exact ⟨by first | (simp; done) | (simp; omega), hb⟩
    · go_enter Tryz.func81, Tryz.ntmps81
      go_wp2
      go_ret
      exact ⟨by first | (simp; done) | (simp; omega), hb⟩
  rw [if_neg h4]
  have i4 : (k == 4) = false := beq_eq_false_iff_ne.2 h4
  by_cases h5 : k = 5
  · subst h5
    rw [if_pos rfl]
    by_cases c1 : 0 ≤ a
    · by_cases c2 : a ≤ b
      · by_cases c3 : b < 146097
        · go_enter Tryz.func81, Tryz.ntmps81
          go_wp2
          go_ret
          exact ⟨by first | (simp; done) | (simp; omega), hb⟩
        · go_enter Tryz.func81, Tryz.ntmps81
          go_wp2
          go_ret
          exact ⟨by first | (simp; done) | (simp; omega), hb⟩
      · go_enter Tryz.func81, Tryz.ntmps81
        go_wp2
        go_ret
        exact ⟨by first | (simp; done) | (simp; omega), hb⟩
    · go_enter Tryz.func81, Tryz.ntmps81
      go_wp2
      go_ret
      exact ⟨by first | (simp; done) | (simp; omega), hb⟩
  rw [if_neg h5]
  have i5 : (k == 5) = false := beq_eq_false_iff_ne.2 h5
  by_cases h9 : k = 9
  · subst h9
    rw [if_pos rfl]
    by_cases c1 : a = 0
    · subst c1
      go_enter Tryz.func81, Tryz.ntmps81
      go_wp2
      go_ret
      exact ⟨by first | (simp; done) | (simp; omega), hb⟩
    · have n1 : (a != 0) = true := by simpa using c1
      by_cases c2 : -1440 < a
      · by_cases c3 : a < 1440
        · go_enter Tryz.func81, Tryz.ntmps81
          go_wp2
          go_ret
          exact ⟨by first | (simp; done) | (simp; omega), hb⟩
        · go_enter Tryz.func81, Tryz.ntmps81
          go_wp2
          go_ret
          exact ⟨by first | (simp; done) | (simp; omega), hb⟩
      · go_enter Tryz.func81, Tryz.ntmps81
        go_wp2
        go_ret
        exact ⟨by first | (simp; done) | (simp; omega), hb⟩
  rw [if_neg h9]
  have i9 : (k == 9) = false := beq_eq_false_iff_ne.2 h9
  go_enter Tryz.func81, Tryz.ntmps81
  go_wp2
  go_ret
  exact ⟨rfl, hb⟩
end Go.Proofs.YtgfjbcdjpkcbkaaGreatDoor

/- What can be a name, of whatever length: the program's. -/
namespace Go.Proofs.YtgfjbcdjpkcbkaaGreatDoor
open Go.RowKit Lx
set_option maxRecDepth 10000 in
theorem named_big (s : ByteArray) (l : List UInt8) (hs : s.data.toList = l) (hl : l.length ≤ 9223372036854775807) (w : World) :
    Calls Tryz.prog 42 #[.string s] w fun e w' => e = .returned (.bool (namedL l)) ∧ Below w.heap.size w w' := by
  by_cases h20 : l.length ≤ 20
  · exact named_any s l hs (by omega) w
  · have hz : s.size = l.length := by rw [← hs, Lib.size_eq]
    have hq : s.toList.isEmpty = false := by rw [Lib.toList_data, hs]; cases l <;> simp at h20 ⊢
    have i20 : ¬ (l.length : Int) ≤ 20 := by omega
    have HN : Hid (namedL l = false) := by show namedL l = false; simp [namedL, h20]
    clear h20
    go_enter Tryz.func42, Tryz.ntmps42
    go_wp2_with fail
    go_ret
    exact ⟨by rw [HN.out]; rfl, Below.refl _ _⟩
end Go.Proofs.YtgfjbcdjpkcbkaaGreatDoor
