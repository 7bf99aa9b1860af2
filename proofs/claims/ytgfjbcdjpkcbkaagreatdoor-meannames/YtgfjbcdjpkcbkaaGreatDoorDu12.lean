/- What rule comes to. -/
import Derived.Test.YtgfjbcdjpkcbkaaGreatDoorDu11
import Derived.Deep.QuietTactic
import Derived.BigQuiet
import Derived.Test.YtgfjbcdjpkcbkaaGreatDoorDu09
import Derived.Test.YtgfjbcdjpkcbkaaGreatDoorDu03
import Derived.MapKept
import Derived.Carry
namespace Go.Proofs.YtgfjbcdjpkcbkaaGreatDoor
open Go.RowKit Lx
variable {all : List Tk} {E g : Nat} {v : Value} {w : World} {i n : Nat}
def ruV (u : Ru) (sl : Value) : Value := .agg #[.string ⟨u.1.toArray⟩, .int .i64 u.2.kind, .int .i64 u.2.a, .int .i64 u.2.b, .string ⟨u.2.name.toArray⟩, sl]
def OutR (all : List Tk) (E g : Nat) (v : Value) (w : World) (B : Nat → Prop) (x : Except (Int × Nat) (Ru × List Tk)) (e : Ending) (w' : World) : Prop :=
  match x with
  | .error (er, at_) => e = .panicked (thrownV er at_) ∧ Kept g w w'
  | .ok (u, r) => ∃ (i m : Nat) (sl : Value) (d : Nat), r = all.drop i ∧ e = .returned (ruV u sl) ∧ KidsAt B d w' sl u.2.kids ∧ PSt all E g v w' i m ∧ m ≤ 600 ∧ Kept g w w'
def ru0C : Array Value := #[.string ⟨#[]⟩, .int .i64 0, .int .i64 0, .int .i64 0, .string ⟨#[]⟩, .slice none 0 0]
theorem ruleType : Tryz.prog.underlying 33 = some (.struct (Tryz.prog.fieldsOf 33)) := by kernel_rfl
theorem ru_ret {fn : Func} (s : Nat) (h : fn.results = #[ResultVar.cell s 33]) {R : Ending → World → Prop} {a : Act} {w : World} (g : Nat) (c0 c1 c2 c3 c4 c5 : Value) (hd : a.defers = []) (h2 : a.tmps.getD s undef = .pointer (some ⟨g, 0, none⟩))
    (hg : w.heap[g]? = some (.cells #[c0, c1, c2, c3, c4, c5] 33 (0, 0))) (hR : R (.returned (.agg #[c0, c1, c2, c3, c4, c5])) w) : bodyPost Tryz.prog fn R .ret a w := by
  refine bodyPost_ret (v := .agg #[c0, c1, c2, c3, c4, c5]) ?_ hd hR
  have h2' : a.tmps[s]?.getD undef = .pointer (some ⟨g, 0, none⟩) := by simpa using h2
  have hv := run_loadVar_row (P := Tryz.prog) w g 33 33 _ _ _ hg ruleType rfl (by kernel_rfl)
  simp [results, h, h2', asAddr, hv]
set_option maxRecDepth 100000 in
set_option maxHeartbeats 2000000 in
theorem rule_any (h0 : PS0 all E g v) (h : PSt all E g v w i n) :
    Calls Tryz.prog 53 #[.pointer (some ⟨g, 0, none⟩)] w (OutR all E g v w (fun k => w.heap.size ≤ k) (ruleR E (all.drop i))) := by
  have hgl := lt_of_block h.blk
  have hb0 : Below w.heap.size w (w.alloc (.cells #[.string ⟨#[]⟩, .int .i64 0, .int .i64 0, .int .i64 0, .string ⟨#[]⟩, .slice none 0 0] 33)) := (Below.refl _ _).alloc (Nat.le_refl _) _
  have hz : (w.alloc (.cells #[.string ⟨#[]⟩, .int .i64 0, .int .i64 0, .int .i64 0, .string ⟨#[]⟩, .slice none 0 0] 33)).heap[w.heap.size]? = some (.cells ru0C 33 (0, 0)) := heap_alloc_new w _
  have hA := h.below hb0 h0
  have hkA := Kept.of_below (g := g) hb0
  generalize hX : ruleR E (all.drop i) = X
  unfold ruleR at hX
  simp only [tail_drop] at hX
  generalize hwA : w.alloc (.cells #[.string ⟨#[]⟩, .int .i64 0, .int .i64 0, .int .i64 0, .string ⟨#[]⟩, .slice none 0 0] 33) = wA at *
  by_cases h1k : kindP (all.drop i) = 1
  · rw [if_neg (by simp [h1k])] at hX
    have c1 := take_yes h0 hA 1 (by decide) h1k
    unfold tokV at c1
    by_cases hm : isT wIs (all.drop (i + 1)) = true
    · rw [if_pos hm] at hX
      have c2 := fun (w1 : World) (h1 : PSt all E g v w1 (i + 1) n) => must_yes h0 h1 wIs (by decide) hm
      have c3 : ∀ (w1 : World), PSt all E g v w1 (i + 1 + 1) 0 → Calls Tryz.prog 76 #[.pointer (some ⟨g, 0, none⟩), .int .i64 1] w1 (OutE all E g v w1 (fun k => w1.heap.size ≤ k) (rd E 0 1 ex0 (all.drop (i + 1 + 1)) 0)) := fun w1 h1 => sum_all h0 (i + 1 + 1) w1 0 1 h1 (by omega) (by omega)
      have HX : Hid ((match rd E 0 1 ex0 (all.drop (i + 1 + 1)) 0 with
        | .error q => Except.error q
        | .ok (e, q, _) => if 40 < hgt e then .error (4, atP E q) else if isT wSemi q then .ok ((textP (all.drop i), e), q.tail) else .error (2, atP E q)) = X) := hX
      generalize kindP (all.drop i) = t0 at *
      generalize numP (all.drop i) = t1 at *
      generalize (atP E (all.drop i) : Int) = t2 at *
      generalize textP (all.drop i) = nm at *
      clear hm h1k hX
      go_enter Tryz.func53, Tryz.ntmps53
      go_wp2_with fail
      refine c1.mono ?_
      rintro e w1 ⟨rfl, h1, hk1⟩
      go_wp2_with fail
      refine (c2 _ h1).mono ?_
      rintro e w2 ⟨rfl, h2, hk2⟩
      have k3 := (cell_of_row _ _ 3 _ _ _ h2.blk).trans rfl
      have y3 := frozen_of_row _ _ 3 _ _ h2.blk
      have h3 : PSt all E g v (w2.setCell ⟨g, 3, none⟩ (.int .i64 0)) (i + 1 + 1) 0 := h2.setN h0 0
      have hk3 := (hk1.trans hk2).trans (Kept.set w2 g 3 (.int .i64 0))
      have hz3 := hk3.at hz (by omega)
      have hkw3 := hkA.trans hk3
      have hl3 := lt_of_block hz3
      clear c1 c2 h1 hk1 hk2 hk3 hA hkA hb0 hwA hz
      go_wp2_with fail
      refine (c3 _ h3).mono ?_
      intro e w4 ho
      clear c3 k3 y3
      cases hx : rd E 0 1 ex0 (all.drop (i + 1 + 1)) 0 with
      | error q =>
        obtain ⟨er, at_⟩ := q
        have hXX := HX.out
        rw [hx] at ho hXX
        obtain ⟨rfl, hk4⟩ := ho
        refine ⟨rfl, ?_⟩
        rw [← hXX]
        exact ⟨rfl, hkw3.trans hk4⟩
      | ok q =>
        obtain ⟨ex, rr, nn⟩ := q
        have hh := rd_hgt hx
        have hXX := HX.out
        rw [hx] at ho hXX
        obtain ⟨i4, sl, dd, hr4, rfl, hkd, h4, hn4, hk4⟩ := ho
        subst hr4
        obtain ⟨p5, c5, rfl⟩ := hkd.form
        dsimp only at hXX
        have hs4 := hk4.size
        have hz4 := hk4.at hz3 (by omega)
        have hb5 : Below w4.heap.size w4 (w4.alloc (.cells #[.int .i64 ex.kind, .int .i64 ex.a, .int .i64 ex.b, .string ⟨ex.name.toArray⟩, .slice p5 ex.kids.length c5] 31)) := (Below.refl _ _).alloc (Nat.le_refl _) _
        have h5 := h4.below hb5 h0
        have he5 := heap_alloc_new w4 (.cells #[.int .i64 ex.kind, .int .i64 ex.a, .int .i64 ex.b, .string ⟨ex.name.toArray⟩, .slice p5 ex.kids.length c5] 31)
        have hz5 := (hb5.block _ (lt_of_block hz4)).trans hz4
        have hkw5 := (hkw3.trans hk4).trans (Kept.of_below hb5)
        have hkd5 : KidsAt (fun k => w.heap.size + 1 ≤ k) dd (w4.alloc (.cells #[.int .i64 ex.kind, .int .i64 ex.a, .int .i64 ex.b, .string ⟨ex.name.toArray⟩, .slice p5 ex.kids.length c5] 31)) (.slice p5 ex.kids.length c5) ex.kids := (Kept.of_below (g := g) hb5).kids (fun k hk => by omega) (hkd.mono fun k hk => by omega)
        have c6 := height_any _ dd ex _ _ hkd5 (by omega)
        unfold exV at c6 ⊢
        have HXX : Hid ((if 40 < hgt ex then Except.error (4, atP E (all.drop i4)) else if isT wSemi (all.drop i4) then .ok ((nm, ex), (all.drop i4).tail) else .error (2, atP E (all.drop i4))) = X) := hXX
        clear hkd h3 h4 hk4 hb5 hx hXX HX hz3 hz4 hkw3
        generalize hw5 : w4.alloc (.cells #[.int .i64 ex.kind, .int .i64 ex.a, .int .i64 ex.b, .string ⟨ex.name.toArray⟩, .slice p5 ex.kids.length c5] 31) = w5 at *
        go_wp2_with (refine wpList_load_row rfl 31 _ rfl _ rfl _ _ _ _ he5 exprType rfl (by kernel_rfl) ?_)
        refine c6.mono ?_
        rintro e w6 ⟨rfl, hb6⟩
        have h6 := h5.below hb6 h0
        have he6 := (hb6.block _ (lt_of_block he5)).trans he5
        have hz6 := (hb6.block _ (lt_of_block hz5)).trans hz5
        have hkw6 := hkw5.trans (Kept.of_below hb6)
        have hkd6 := (Kept.of_below (g := g) hb6).kids (fun k hk => by omega) hkd5
        clear c6 hb6 h5 he5 hz5 hkw5 hkd5 hw5
        by_cases h40 : 40 < hgt ex
        · have h40' : (40 : Int) < (hgt ex : Int) := by omega
          have hXX := HXX.out
          rw [if_pos h40] at hXX
          have HE : Hid (X = .error (4, atP E (all.drop i4))) := hXX.symm
          generalize hgt ex = H at *
          clear hXX HXX
          go_wp2_with fail
          refine (fail_any h0 h6 4).mono ?_
          rintro e w7 ⟨rfl, hb7⟩
          refine ⟨rfl, ?_⟩
          rw [HE.out]
          exact ⟨rfl, hkw6.trans (Kept.of_below hb7)⟩
        · have h40' : ¬ (40 : Int) < (hgt ex : Int) := by omega
          have hXX := HXX.out
          rw [if_neg h40] at hXX
          generalize hgt ex = H at *
          clear HXX
          by_cases hs : isT wSemi (all.drop i4) = true
          · rw [if_pos hs, tail_drop] at hXX
            have c7 := must_yes h0 h6 wSemi (by decide) hs
            have HE : Hid (X = .ok ((nm, ex), all.drop (i4 + 1))) := hXX.symm
            clear hXX hs
            go_wp2_with fail
            refine c7.mono ?_
            rintro e w7 ⟨rfl, h7, hk7⟩
            have he7 := hk7.at he6 (by omega)
            have hz7 := hk7.at hz6 (by omega)
            have hkw7 := hkw6.trans hk7
            have hkd7 := hk7.kids (fun k hk => by omega) hkd6
            have HO : Hid (∀ cs, OutR all E g v w (fun k => w.heap.size ≤ k) X (.returned (ruV (nm, ex) (.slice p5 ex.kids.length c5))) (w7.setRow w.heap.size cs)) := fun cs => by
              rw [HE.out]
              exact ⟨i4 + 1, nn, _, dd, rfl, rfl, (hkd7.kept fun k hk _ => setRow_other _ _ _ _ (by omega)).mono fun k hk => by omega, h.of_kept h0 (hkw7.setRow (Nat.le_refl _) cs) ((setRow_other _ _ _ _ (by omega)).trans h7.blk) h7.le, hn4, hkw7.setRow (Nat.le_refl _) cs⟩
            unfold ruV at HO
            clear c7 h6 h7 hk7 hkw6 hkw7 hkd6 hkd7 he6 hz6 HE
            go_wp2_with (first
              | (refine wpList_load_row rfl 31 _ rfl _ rfl _ _ _ _ he7 exprType rfl (by kernel_rfl) ?_)
              | (refine wpList_store_row rfl 33 _ _ rfl _ _ rfl rfl _ _ hz7 (by kernel_rfl) (by rfl) (by simp [Value.oneCell']) ?_))
            exact ru_ret 2 (by kernel_rfl) w.heap.size _ _ _ _ _ _ rfl rfl (setRow_heap _ _ _ _ _ _ hz7) (HO.out _)
          · have hs' : isT wSemi (all.drop i4) = false := by simpa using hs
            rw [if_neg hs] at hXX
            have c7 := must_no h0 h6 wSemi hs'
            have HE : Hid (X = .error (2, atP E (all.drop i4))) := hXX.symm
            clear hXX hs hs'
            go_wp2_with fail
            refine c7.mono ?_
            rintro e w7 ⟨rfl, hk7⟩
            refine ⟨rfl, ?_⟩
            rw [HE.out]
            exact ⟨rfl, hkw6.trans hk7⟩
    · have hm' : isT wIs (all.drop (i + 1)) = false := by simpa using hm
      rw [if_neg hm] at hX
      have c2 := fun (w1 : World) (h1 : PSt all E g v w1 (i + 1) n) => must_no h0 h1 wIs hm'
      subst hX
      clear hm hm' h1k
      go_enter Tryz.func53, Tryz.ntmps53
      go_wp2_with fail
      refine c1.mono ?_
      rintro e w1 ⟨rfl, h1, hk1⟩
      go_wp2_with fail
      refine (c2 _ h1).mono ?_
      rintro e w2 ⟨rfl, hk2⟩
      exact ⟨rfl, rfl, (hkA.trans hk1).trans hk2⟩
  · rw [if_pos h1k] at hX
    have c1 := take_no h0 hA 1 h1k
    subst hX
    go_enter Tryz.func53, Tryz.ntmps53
    go_wp2_with fail
    refine c1.mono ?_
    rintro e w1 ⟨rfl, hk1⟩
    exact ⟨rfl, rfl, hkA.trans hk1⟩
end Go.Proofs.YtgfjbcdjpkcbkaaGreatDoor

/- What rules comes to. -/
namespace Go.Proofs.YtgfjbcdjpkcbkaaGreatDoor
open Go.RowKit Lx
variable {all : List Tk} {E g : Nat} {v : Value} {w : World} {i n : Nat}
def flatR : List (Ru × Value) → List Value
  | [] => []
  | p :: l => .string ⟨p.1.1.toArray⟩ :: .int .i64 p.1.2.kind :: .int .i64 p.1.2.a :: .int .i64 p.1.2.b :: .string ⟨p.1.2.name.toArray⟩ :: p.2 :: flatR l
theorem flatR_snoc (p : Ru × Value) : ∀ l : List (Ru × Value), flatR (l ++ [p]) = flatR l ++ [.string ⟨p.1.1.toArray⟩, .int .i64 p.1.2.kind, .int .i64 p.1.2.a, .int .i64 p.1.2.b, .string ⟨p.1.2.name.toArray⟩, p.2]
  | [] => rfl
  | q :: l => by simp [flatR, flatR_snoc p l]
theorem ruleInfo : (Tryz.prog.info? 33).map (fun i => (i.zero, i.size, i.bytes)) = some (some (.agg #[.string ⟨#[]⟩, .int .i64 0, .int .i64 0, .int .i64 0, .string ⟨#[]⟩, .slice none 0 0]), 6, 80) := by kernel_rfl
theorem rulesType : Tryz.prog.underlying 22 = some (.slice 33) := by kernel_rfl
theorem row_form {w : World} {base : Nat} {e : TypeId} {size : Nat} {v : Value} {n : Nat} {xs : List Value} (h : w.ownsRow base e size v n xs) : ∃ p c, v = .slice p n c := by
  obtain ⟨_, h2⟩ := h
  rcases h2 with ⟨h2, h3⟩ | ⟨g, cap, _, h2, _⟩
  · exact ⟨none, 0, by rw [h2, h3]⟩
  · exact ⟨_, cap, h2⟩
structure RowR (w0 w : World) (v : Value) (us : List (Ru × Value)) : Prop where
  own : w.ownsRow w0.heap.size 33 6 v us.length (flatR us)
  kids : ∀ p ∈ us, ∃ d, KidsAt (fun k => w0.heap.size ≤ k) d w p.2 p.1.2.kids
def OutL (g : Nat) (w : World) (x : Except (Int × Nat) (List Ru)) (e : Ending) (w' : World) : Prop :=
  match x with
  | .error (er, at_) => e = .panicked (thrownV er at_) ∧ Kept g w w'
  | .ok rs => ∃ (vr : Value) (us : List (Ru × Value)), e = .returned vr ∧ us.map (·.1) = rs ∧ RowR w w' vr us ∧ us.length ≤ 40 ∧ Kept g w w'
theorem ruleR_len {E : Nat} {r q : List Tk} {u : Ru} (h : ruleR E r = .ok (u, q)) : q.length < r.length := by
  unfold ruleR at h
  split at h
  · cases h
  · rename_i h1
    have h1' := kindP_cons (r := r) (by omega)
    split at h
    · split at h
      · cases h
      · rename_i e q' n' hx
        have hl := rd_len (by omega) hx
        split at h
        · cases h
        · split at h
          · cases h
            simp only [List.length_tail] at hl ⊢
            omega
          · cases h
    · cases h
theorem RowR.kept {w0 w w' : World} {vr : Value} {us : List (Ru × Value)} (h : RowR w0 w vr us) (hk : Kept g w w') (hg : g < w0.heap.size) : RowR w0 w' vr us := by
  refine ⟨h.own.kept hk (.inr fun e => ?_), fun p hp => ?_⟩
  · have := (h.own.lt g e).1
    omega
  · obtain ⟨d, hd⟩ := h.kids p hp
    exact ⟨d, hk.kids (fun k hk => by omega) hd⟩
theorem kids_grown {w0 w w' : World} {vr : Value} {xs : List Value} {m : Nat} {ks : List Ex} {sl : Value} {d : Nat} (ho : w.ownsRow w0.heap.size 33 6 vr m xs) (hg : w.grownBy w' vr.ownBlock) (h : KidsAt (fun k => w0.heap.size ≤ k) d w sl ks) : KidsAt (fun k => w0.heap.size ≤ k) d w' sl ks := by
  obtain ⟨_, h2⟩ := ho
  rcases h2 with ⟨rfl, _⟩ | ⟨b, cap, cur, rfl, _, hh, _⟩
  · exact h.kept fun k _ hl => hg.block k hl (fun e => by cases e)
  · refine ((h.other hh (by decide)).kept fun k hk hl => hg.block k hl (fun e => hk.2 (Option.some.inj e))).mono fun k hk => hk.1
theorem rulesR_step {E f : Nat} {acc : List Ru} {r : List Tk} (h : r.length ≠ 0) : rulesR E (f + 1) acc r = if isT wRule r then (if acc.length = 40 then .error (5, atP E r.tail) else match ruleR E r.tail with | .error q => .error q | .ok (u, q) => rulesR E f (acc ++ [u]) q) else .error (2, atP E r) := by
  rw [rulesR, if_neg h]
  rfl
theorem rulesR_end {E f : Nat} {acc : List Ru} {r : List Tk} (h : r.length = 0) : rulesR E f acc r = .ok acc := by
  cases f with
  | zero => rfl
  | succ f => rw [rulesR, if_pos h]
set_option maxRecDepth 100000 in
set_option maxHeartbeats 4000000 in
theorem rules_any (h0 : PS0 all E g v) (h : PSt all E g v w i n) :
    Calls Tryz.prog 38 #[.pointer (some ⟨g, 0, none⟩)] w (OutL g w (rulesR E ((all.drop i).length + 1) [] (all.drop i))) := by
  have hgl := lt_of_block h.blk
  obtain ⟨i0, hi, hz0, hz1, hz2⟩ := info_parts ruleInfo
  have hlen := h0.len
  generalize hX : rulesR E ((all.drop i).length + 1) [] (all.drop i) = X
  have HX : Hid (rulesR E ((all.drop i).length + 1) [] (all.drop i) = X) := hX
  clear hX
  go_enter Tryz.func38, Tryz.ntmps38
  go_wp2_with fail
  go_loopw [3] (fun q wr => ∃ (us : List (Ru × Value)) (f j m : Nat), rulesR E f (us.map (·.1)) (all.drop j) = X ∧ (all.drop j).length < f ∧ us.length ≤ 40 ∧ RowR w wr q us ∧ PSt all E g v wr j m ∧ Kept g w wr) (fun _ wr => all.length - posOf g wr)
  case atStart => exact ⟨[], _, i, n, HX.out, by omega, by simp, ⟨World.ownsRow_nil _ _ _ _, fun p hp => by cases hp⟩, h, Kept.refl _ _⟩
  case round =>
    obtain ⟨us, f, j, m, hXr, hf, h40, hrow, hst, hkp⟩ := hrel
    clear HX
    have hp := hst.pos
    have k0 := (cell_of_row _ _ 0 _ _ _ hst.blk).trans rfl
    have k1 := (cell_of_row _ _ 1 _ _ _ hst.blk).trans rfl
    obtain ⟨pv, cv, ev⟩ := TRow.form hst.row
    have hjl := hst.le
    have HXr : Hid (rulesR E f (us.map (·.1)) (all.drop j) = X) := hXr
    have HV : Hid (v = .slice pv all.length cv) := ev
    rw [ev] at k0
    clear hXr ev
    by_cases hlt : j < all.length
    · have hlt' : (j : Int) < (all.length : Int) := by omega
      go_wp2_with fail
      go_quiet (fail)
      have hbq : Below wr.heap.size wr (wr.drewN nq) := below_drewN (Below.refl _ _) nq
      have hst1 := hst.below hbq h0
      have hkp1 := hkp.trans (Kept.of_below hbq)
      have hrow1 := hrow.kept (Kept.of_below (g := g) hbq) hgl
      clear hst hkp hrow hbq k0 k1
      generalize wr.drewN nq = w1 at *
      obtain ⟨f, rfl⟩ : ∃ f', f = f' + 1 := ⟨f - 1, by omega⟩
      have hXX := HXr.out
      rw [rulesR_step (by simp; omega), tail_drop] at hXX
      clear HXr
      by_cases hR : isT wRule (all.drop j) = true
      · rw [if_pos hR] at hXX
        have c2 := must_yes h0 hst1 wRule (by decide) hR
        by_cases hm : us.length = 40
        · rw [if_pos (by simpa using hm)] at hXX
          have HE : Hid (X = .error (5, atP E (all.drop (j + 1)))) := hXX.symm
          obtain ⟨pq, cq, rfl⟩ := row_form hrow1.own
          have hm' : ((us.length : Int) == 40) = true := by rw [hm]; rfl
          clear hXX hR hm
          go_wp2_with fail
          refine c2.mono ?_
          rintro e w2 ⟨rfl, h2, hk2⟩
          go_wp2_with fail
          refine (fail_any h0 h2 5).mono ?_
          rintro e w3 ⟨rfl, hb3⟩
          refine ⟨rfl, ?_⟩
          rw [HE.out]
          exact ⟨rfl, (hkp1.trans hk2).trans (Kept.of_below hb3)⟩
        · rw [if_neg (by simpa using hm)] at hXX
          have hm' : ((us.length : Int) == 40) = false := beq_eq_false_iff_ne.2 (by omega)
          have hj1 := isT_len (by decide) hR
          have HXX : Hid ((match ruleR E (all.drop (j + 1)) with | .error q => .error q | .ok (u, q) => rulesR E f (us.map (·.1) ++ [u]) q) = X) := hXX
          have cR := fun (W : World) (hW : PSt all E g v W (j + 1) m) => rule_any h0 hW
          have hown1 := hrow1.own
          obtain ⟨pq, cq, eq⟩ := row_form hown1
          have HQ : Hid (u3 = .slice pq us.length cq) := eq
          subst eq
          clear hXX hR hown1
          go_wp2_with fail
          refine c2.mono ?_
          rintro e w2 ⟨rfl, h2, hk2⟩
          have hkp2 := hkp1.trans hk2
          have hrow2 := hrow1.kept hk2 hgl
          clear hrow1 hst1 hkp1 c2
          go_wp2_with fail
          refine (cR _ h2).mono ?_
          intro e w3 ho
          clear cR
          cases hx : ruleR E (all.drop (j + 1)) with
          | error q =>
            obtain ⟨er, at_⟩ := q
            have hXX := HXX.out
            rw [hx] at ho hXX
            obtain ⟨rfl, hk3⟩ := ho
            refine ⟨rfl, ?_⟩
            rw [← hXX]
            exact ⟨rfl, hkp2.trans hk3⟩
          | ok q =>
            obtain ⟨u, rr⟩ := q
            have hql := ruleR_len hx
            have hXX := HXX.out
            rw [hx] at ho hXX
            obtain ⟨i3, m3, sl, d3, hr3, rfl, hkd, h3, hm3, hk3⟩ := ho
            subst hr3
            obtain ⟨p3, c3, rfl⟩ := hkd.form
            have hrow3 := hrow2.kept hk3 hgl
            have hkp3 := hkp2.trans hk3
            have hs2 := hkp2.size
            have hs3 := hkp3.size
            have HN : Hid (rulesR E f ((us ++ [(u, Value.slice p3 u.2.kids.length c3)]).map (fun p => p.1)) (all.drop i3) = X) := by
              show _ = _
              rw [List.map_append]; exact hXX
            have hb4 : Below w3.heap.size w3 (w3.alloc (.cells #[.string ⟨u.1.toArray⟩, .int .i64 u.2.kind, .int .i64 u.2.a, .int .i64 u.2.b, .string ⟨u.2.name.toArray⟩, .slice p3 u.2.kids.length c3] 33)) := (Below.refl _ _).alloc (Nat.le_refl _) _
            have hrow4 := hrow3.kept (Kept.of_below (g := g) hb4) hgl
            have h4 := h3.below hb4 h0
            have hkp4 := hkp3.trans (Kept.of_below hb4)
            have hkd4 : KidsAt (fun k => w.heap.size ≤ k) d3 (w3.alloc (.cells #[.string ⟨u.1.toArray⟩, .int .i64 u.2.kind, .int .i64 u.2.a, .int .i64 u.2.b, .string ⟨u.2.name.toArray⟩, .slice p3 u.2.kids.length c3] 33)) (.slice p3 u.2.kids.length c3) u.2.kids := (Kept.of_below (g := g) hb4).kids (fun k hk => by omega) (hkd.mono fun k hk => by omega)
            have hx4 := heap_alloc_new w3 (.cells #[.string ⟨u.1.toArray⟩, .int .i64 u.2.kind, .int .i64 u.2.a, .int .i64 u.2.b, .string ⟨u.2.name.toArray⟩, .slice p3 u.2.kids.length c3] 33)
            have hs4 := hkp4.size
            unfold ruV
            clear hrow2 hrow3 h2 h3 hk2 hk3 hkd hkp2 hkp3 hb4 hx hXX HXX
            generalize hw4 : w3.alloc (.cells #[.string ⟨u.1.toArray⟩, .int .i64 u.2.kind, .int .i64 u.2.a, .int .i64 u.2.b, .string ⟨u.2.name.toArray⟩, .slice p3 u.2.kids.length c3] 33) = w4 at *
            go_wp2_with (at_builtin; refine wpList_append_own _ rfl _ _ 22 rfl w.heap.size 33 i0 (.agg #[.string ⟨#[]⟩, .int .i64 0, .int .i64 0, .int .i64 0, .string ⟨#[]⟩, .slice none 0 0]) 6 80 rulesType hi hz0 hz1 hz2 rfl (by decide) (.slice pq us.length cq) us.length (flatR us) rfl hrow4.own ⟨w3.heap.size, 0, none⟩ 1 1 [.string ⟨u.1.toArray⟩, .int .i64 u.2.kind, .int .i64 u.2.a, .int .i64 u.2.b, .string ⟨u.2.name.toArray⟩, .slice p3 u.2.kids.length c3] rfl rfl ?c1 ?c2 ?c3 ?c4 ?c5 ?_)
            case c1 =>
              intro j u' hj
              match j, hj with
              | 0, hj => simp at hj; subst hj; exact (cell_of_row _ _ _ _ _ _ hx4).trans rfl
              | 1, hj => simp at hj; subst hj; exact (cell_of_row _ _ _ _ _ _ hx4).trans rfl
              | 2, hj => simp at hj; subst hj; exact (cell_of_row _ _ _ _ _ _ hx4).trans rfl
              | 3, hj => simp at hj; subst hj; exact (cell_of_row _ _ _ _ _ _ hx4).trans rfl
              | 4, hj => simp at hj; subst hj; exact (cell_of_row _ _ _ _ _ _ hx4).trans rfl
              | 5, hj => simp at hj; subst hj; exact (cell_of_row _ _ _ _ _ _ hx4).trans rfl
            case c2 => intro u hu; simp at hu; rcases hu with rfl | rfl | rfl | rfl | rfl | rfl <;> rfl
            case c3 => unfold maxLen; omega
            case c4 => omega
            case c5 => exact hs4
            intro v' w5 hown' hgrow _
            have hlo := hrow4.own.lt
            have hgne : ∀ b, (Value.slice pq us.length cq).ownBlock = some b → b ≠ g := fun b hb => by have := (hlo b hb).1; omega
            have hkp5 : Kept g w w5 := ⟨hgrow.os.trans hkp4.os, hgrow.tape.trans hkp4.tape, hgrow.output.trans hkp4.output, Nat.le_trans hkp4.size hgrow.size, fun k hk hne => (hgrow.block k (by omega) (fun e => by have := (hlo k e.symm).1; omega)).trans (hkp4.block k hk hne)⟩
            have h5 : PSt all E g v w5 i3 m3 := h.of_kept h0 hkp5 ((hgrow.block g (lt_of_block h4.blk) (fun e => hgne g e.symm rfl)).trans h4.blk) h4.le
            have hrow5 : RowR w w5 v' (us ++ [(u, .slice p3 u.2.kids.length c3)]) := by
              refine ⟨?_, fun p hp => ?_⟩
              · rw [flatR_snoc]
                simp only [List.length_append, List.length_cons, List.length_nil, Nat.zero_add]
                exact hown'
              · rcases List.mem_append.1 hp with hp | hp
                · obtain ⟨d, hd⟩ := hrow4.kids p hp
                  exact ⟨d, kids_grown hrow4.own hgrow hd⟩
                · have e : p = (u, .slice p3 u.2.kids.length c3) := by simpa using hp
                  subst e
                  exact ⟨d3, kids_grown hrow4.own hgrow hkd4⟩
            have hn5 : (us ++ [(u, Value.slice p3 u.2.kids.length c3)]).length ≤ 40 := by simp; omega
            have hfl : (all.drop i3).length < f := by
              simp only [List.length_drop] at hql hf ⊢
              omega
            clear hown' hgrow hrow4 h4 hkp4 hkd4 hx4 hw4
            go_wp2_with fail
            go_roundw
            case rel => exact ⟨_, f, i3, m3, HN.out, hfl, hn5, hrow5, h5, hkp5⟩
            case measure =>
              rw [hp]
              have := h5.pos
              have := h5.le
              show all.length - posOf g _ < _
              simp only [List.length_drop] at hql
              omega
      · have hR' : isT wRule (all.drop j) = false := by simpa using hR
        rw [if_neg hR] at hXX
        have HE : Hid (X = .error (2, atP E (all.drop j))) := hXX.symm
        have c2 := must_no h0 hst1 wRule hR'
        clear hXX hR hR'
        go_wp2_with fail
        refine c2.mono ?_
        rintro e w2 ⟨rfl, hk2⟩
        refine ⟨rfl, ?_⟩
        rw [HE.out]
        exact ⟨rfl, hkp1.trans hk2⟩
    · have hlt' : ¬ (j : Int) < (all.length : Int) := by omega
      have hXX := HXr.out
      rw [rulesR_end (by simp; omega)] at hXX
      have HE : Hid (X = .ok (us.map (·.1))) := hXX.symm
      clear hXX HXr
      go_wp2_with fail
      go_quiet (fail)
      have hbq : Below wr.heap.size wr (wr.drewN nq) := below_drewN (Below.refl _ _) nq
      have hkp1 := hkp.trans (Kept.of_below hbq)
      have hrow1 := hrow.kept (Kept.of_below (g := g) hbq) hgl
      go_wp2_with fail
      go_ret
      rw [HE.out]
      exact ⟨_, us, rfl, rfl, hrow1, h40, hkp1⟩
end Go.Proofs.YtgfjbcdjpkcbkaaGreatDoor

/- What the document's Same comes to, of rules that lie in memory twice. -/
namespace Go.Proofs.YtgfjbcdjpkcbkaaGreatDoor
open Go.RowKit Lx
theorem flatR_at : ∀ (us : List (Ru × Value)) (j : Nat) (p : Ru × Value), us[j]? = some p → (flatR us)[j * 6]? = some (.string ⟨p.1.1.toArray⟩) ∧ (flatR us)[j * 6 + 1]? = some (.int .i64 p.1.2.kind) ∧ (flatR us)[j * 6 + 2]? = some (.int .i64 p.1.2.a) ∧ (flatR us)[j * 6 + 3]? = some (.int .i64 p.1.2.b) ∧ (flatR us)[j * 6 + 4]? = some (.string ⟨p.1.2.name.toArray⟩) ∧ (flatR us)[j * 6 + 5]? = some p.2
  | [], j, p, h => by simp at h
  | q :: us, 0, p, h => by
    have : q = p := by simpa using h
    subst this
    simp [flatR]
  | q :: us, j + 1, p, h => by
    have := flatR_at us j p (by simpa using h)
    have e : (j + 1) * 6 = j * 6 + 1 + 1 + 1 + 1 + 1 + 1 := by omega
    rw [e]
    simpa [flatR] using this
def RRow (w : World) (v : Value) (us : List (Ru × Value)) : Prop :=
  (us = [] ∧ ∃ p c, v = .slice p 0 c) ∨ ∃ g o c : Nat, v = .slice (some ⟨g, o, none⟩) us.length c ∧ us.length < 9223372036854775808 ∧ ∀ (j : Nat) (p : Ru × Value), us[j]? = some p →
    w.cell? ⟨g, o + j * 6, none⟩ = some (.string ⟨p.1.1.toArray⟩) ∧ w.cell? ⟨g, o + j * 6 + 1, none⟩ = some (.int .i64 p.1.2.kind) ∧ w.cell? ⟨g, o + j * 6 + 2, none⟩ = some (.int .i64 p.1.2.a) ∧ w.cell? ⟨g, o + j * 6 + 3, none⟩ = some (.int .i64 p.1.2.b) ∧
    w.cell? ⟨g, o + j * 6 + 4, none⟩ = some (.string ⟨p.1.2.name.toArray⟩) ∧ w.cell? ⟨g, o + j * 6 + 5, none⟩ = some p.2
theorem RRow.below {w w' : World} {v : Value} {us : List (Ru × Value)} (h : RRow w v us) (hb : Below w.heap.size w w') : RRow w' v us := by
  rcases h with h | ⟨g, o, c, hv, hl, hc⟩
  · exact .inl h
  · refine .inr ⟨g, o, c, hv, hl, fun j p hj => ?_⟩
    obtain ⟨c0, c1, c2, c3, c4, c5⟩ := hc j p hj
    exact ⟨(hb.cell (block_lt_of_cell c0)).trans c0, (hb.cell (block_lt_of_cell c1)).trans c1, (hb.cell (block_lt_of_cell c2)).trans c2, (hb.cell (block_lt_of_cell c3)).trans c3, (hb.cell (block_lt_of_cell c4)).trans c4, (hb.cell (block_lt_of_cell c5)).trans c5⟩
theorem rrow_of_owns {w : World} {base : Nat} {v : Value} {us : List (Ru × Value)} (h : w.ownsRow base 33 6 v us.length (flatR us)) (hl : us.length < 9223372036854775808) : RRow w v us := by
  by_cases h0 : us.length = 0
  · obtain ⟨p, c, rfl⟩ := row_form h
    exact .inl ⟨List.length_eq_zero_iff.1 h0, p, c, by rw [h0]⟩
  · obtain ⟨g, cap, hv, hc⟩ := own_slice h (by omega)
    refine .inr ⟨g, 0, cap, hv, hl, fun j p hj => ?_⟩
    obtain ⟨f0, f1, f2, f3, f4, f5⟩ := flatR_at us j p hj
    rw [Nat.zero_add]
    exact ⟨hc _ _ f0, hc _ _ f1, hc _ _ f2, hc _ _ f3, hc _ _ f4, hc _ _ f5⟩
end Go.Proofs.YtgfjbcdjpkcbkaaGreatDoor

/- What wrongRule and parse.Wrong come to. -/
namespace Lx
def ruleP (u : Ru) : Int := if Go.Proofs.YtgfjbcdjpkcbkaaGreatDoor.namedL u.1 = false then 7 else (shapeP u.2 1 0).1
def wrongL : List Ru → Nat → Int × Nat
  | [], _ => (0, 0)
  | u :: l, i => if ruleP u ≠ 0 then (ruleP u, i) else wrongL l (i + 1)
def wrongR (l : List Ru) : Int × Nat := if 40 < l.length then (5, 0) else wrongL l 0
theorem wrongL_step {l : List Ru} {j : Nat} {u : Ru} (h : l[j]? = some u) : wrongL (l.drop j) j = if ruleP u ≠ 0 then (ruleP u, j) else wrongL (l.drop (j + 1)) (j + 1) := by
  obtain ⟨h1, h2⟩ := List.getElem?_eq_some_iff.1 h
  rw [List.drop_eq_getElem_cons h1, h2]; rfl
end Lx
namespace Go.Proofs.YtgfjbcdjpkcbkaaGreatDoor
open Go.RowKit Lx
def RuleIn (w : World) (p : Ru × Value) : Prop := p.1.1.length ≤ 9223372036854775807 ∧ p.1.2.name.length ≤ 9223372036854775807 ∧ ∃ d, KidsB (fun k => k < w.heap.size) d w p.2 p.1.2.kids
theorem RuleIn.below {w w' : World} {p : Ru × Value} (h : RuleIn w p) (hb : Below w.heap.size w w') : RuleIn w' p := by
  obtain ⟨h1, h2, d, h3⟩ := h
  exact ⟨h1, h2, d, (h3.kept fun g _ hl => hb.block g hl).mono fun g hg => Nat.lt_of_lt_of_le hg hb.size⟩
structure InR (w : World) (v : Value) (us : List (Ru × Value)) : Prop where
  row : RRow w v us
  len : us.length < 9223372036854775808
  all : ∀ p ∈ us, RuleIn w p
theorem InR.below {w w' : World} {v : Value} {us : List (Ru × Value)} (h : InR w v us) (hb : Below w.heap.size w w') : InR w' v us := ⟨h.row.below hb, h.len, fun p hp => (h.all p hp).below hb⟩
theorem flt_ret {fn : Func} (s : Nat) (h : fn.results = #[ResultVar.cell s 26]) {R : Ending → World → Prop} {a : Act} {w : World} (g : Nat) (er at_ : Int) (hd : a.defers = []) (h2 : a.tmps.getD s undef = .pointer (some ⟨g, 0, none⟩))
    (hg : w.heap[g]? = some (.cells #[.int .i64 er, .int .i64 at_] 26 (0, 0))) (hR : R (.returned (.agg #[.int .i64 er, .int .i64 at_])) w) : bodyPost Tryz.prog fn R .ret a w := by
  refine bodyPost_ret (v := .agg #[.int .i64 er, .int .i64 at_]) ?_ hd hR
  have h2' : a.tmps[s]?.getD undef = .pointer (some ⟨g, 0, none⟩) := by simpa using h2
  have hv := run_loadVar_row (P := Tryz.prog) w g 26 26 _ _ _ hg faultType rfl (by kernel_rfl)
  simp [results, h, h2', asAddr, hv]
set_option maxRecDepth 100000 in
set_option maxHeartbeats 1000000 in
theorem wrule_any (u : Ru) (p : Option Addr) (c : Nat) (w : World) (h : RuleIn w (u, .slice p u.2.kids.length c)) :
    Calls Tryz.prog 30 #[.agg #[.string ⟨u.1.toArray⟩, .int .i64 u.2.kind, .int .i64 u.2.a, .int .i64 u.2.b, .string ⟨u.2.name.toArray⟩, .slice p u.2.kids.length c]] w fun r w' => r = .returned (.int .i64 (ruleP u)) ∧ Below w.heap.size w w' := by
  obtain ⟨h1, h2, d, h3⟩ := h
  dsimp only at h1 h2 h3
  have hbA := (Below.refl w.heap.size w).alloc (Nat.le_refl _) (.cells #[.string ⟨u.1.toArray⟩, .int .i64 u.2.kind, .int .i64 u.2.a, .int .i64 u.2.b, .string ⟨u.2.name.toArray⟩, .slice p u.2.kids.length c] 33)
  have hxA := heap_alloc_new w (.cells #[.string ⟨u.1.toArray⟩, .int .i64 u.2.kind, .int .i64 u.2.a, .int .i64 u.2.b, .string ⟨u.2.name.toArray⟩, .slice p u.2.kids.length c] 33)
  generalize hwA : w.alloc (.cells #[.string ⟨u.1.toArray⟩, .int .i64 u.2.kind, .int .i64 u.2.a, .int .i64 u.2.b, .string ⟨u.2.name.toArray⟩, .slice p u.2.kids.length c] 33) = wA at *
  have z0 := (cell_of_row _ _ 0 _ _ _ hxA).trans rfl
  have cN := named_big ⟨u.1.toArray⟩ u.1 rfl h1 wA
  have HP : Hid (ruleP u = if namedL u.1 = false then 7 else (shapeP u.2 1 0).1) := rfl
  cases hnb : namedL u.1 with
  | false =>
    have HE : Hid (ruleP u = 7) := by show _ = _; rw [HP.out, if_pos hnb]
    rw [hnb] at cN
    clear HP h3 hxA
    go_enter Tryz.func30, Tryz.ntmps30
    go_wp2_with fail
    refine cN.mono ?_
    rintro r w1 ⟨rfl, hb1⟩
    have hbw := hbA.trans (hb1.mono hbA.size)
    clear cN hb1 hbA hwA z0
    go_wp2_with fail
    go_ret
    rw [HE.out]
    exact ⟨rfl, hbw⟩
  | true =>
    have HE : Hid (ruleP u = (shapeP u.2 1 0).1) := by show _ = _; rw [HP.out, if_neg (by simp [hnb])]
    rw [hnb] at cN
    have hszA : w.heap.size < wA.heap.size := lt_of_block hxA
    clear HP
    go_enter Tryz.func30, Tryz.ntmps30
    go_wp2_with fail
    refine cN.mono ?_
    rintro r w1 ⟨rfl, hb1⟩
    have hb1w := hbA.trans (hb1.mono hbA.size)
    have hsz1 := hb1.size
    have hx1 := (hb1.block _ (lt_of_block hxA)).trans hxA
    have hbC : Below w1.heap.size w1 (w1.alloc (.cells #[.int .i64 0] 3)) := (Below.refl _ _).alloc (Nat.le_refl _) _
    have hn2 := heap_alloc_new w1 (.cells #[.int .i64 0] 3)
    have hxC := (hbC.block _ (lt_of_block hx1)).trans hx1
    have hlx := lt_of_block hx1
    have hbCw := hb1w.trans (hbC.mono hb1w.size)
    generalize hwC : w1.alloc (.cells #[.int .i64 0] 3) = wC at *
    have z2 := (cell_of_row _ _ 0 _ _ _ hn2).trans rfl
    have y2 := frozen_of_row _ _ 0 _ _ hn2
    have hc2 : CntAt (wC.setCell ⟨w1.heap.size, 0, none⟩ (.int .i64 0)) w1.heap.size 0 := heap_setCell_same _ _ 0 _ _ _ hn2
    have hx2 := (heap_setCell_other wC ⟨w1.heap.size, 0, none⟩ w.heap.size (.int .i64 0) (by show w.heap.size ≠ w1.heap.size; omega)).trans hxC
    have hb2w : Below w.heap.size w (wC.setCell ⟨w1.heap.size, 0, none⟩ (.int .i64 0)) := hbCw.setCell (p := ⟨w1.heap.size, 0, none⟩) (by show w.heap.size ≤ w1.heap.size; omega) _
    have cE := wexpr_any (B := fun k => k < w.heap.size) (gn := w1.heap.size) (fun k hk => by omega) d u.2 (.slice p u.2.kids.length c) (wC.setCell ⟨w1.heap.size, 0, none⟩ (.int .i64 0)) 1 0 (h3.kept fun g hg _ => hb2w.block g hg) h2 hc2 (by omega) (by omega)
    unfold exV at cE
    clear cN h3 hc2 hx1 hb1 hbA hxA z0 hwA hbC hn2 hxC hbCw
    generalize hw2 : wC.setCell ⟨w1.heap.size, 0, none⟩ (.int .i64 0) = w2 at *
    have e1 := (cell_of_row _ _ 1 _ _ _ hx2).trans rfl
    have e2 := (cell_of_row _ _ 2 _ _ _ hx2).trans rfl
    have e3 := (cell_of_row _ _ 3 _ _ _ hx2).trans rfl
    have e4 := (cell_of_row _ _ 4 _ _ _ hx2).trans rfl
    have e5 := (cell_of_row _ _ 5 _ _ _ hx2).trans rfl
    go_wp2_with fail
    refine cE.mono ?_
    rintro r w3 ⟨rfl, -, hk3⟩
    have hb3w : Below w.heap.size w w3 := ⟨hk3.os.trans hb2w.os, hk3.tape.trans hb2w.tape, hk3.output.trans hb2w.output, Nat.le_trans hb2w.size hk3.size, fun k hk => (hk3.block k (by have := hb2w.size; omega) (fun e => by have := Option.some.inj e; omega)).trans (hb2w.block k hk)⟩
    clear cE hk3 hb2w hw2 e1 e2 e3 e4 e5 hx2
    go_wp2_with fail
    go_ret
    rw [HE.out]
    exact ⟨rfl, hb3w⟩
set_option maxRecDepth 100000 in
set_option maxHeartbeats 2000000 in
theorem wrong_any (us : List (Ru × Value)) (v : Value) (w : World) (h : InR w v us) :
    Calls Tryz.prog 16 #[v] w fun r w' => r = .returned (.agg #[.int .i64 (wrongR (us.map (fun p => p.1))).1, .int .i64 ((wrongR (us.map (fun p => p.1))).2 : Int)]) ∧ Below w.heap.size w w' := by
  have hlen := h.len
  have hform : ∃ p c, v = .slice p us.length c := by
    rcases h.row with ⟨rfl, p, c, hv⟩ | ⟨g, o, c, hv, _⟩
    · exact ⟨p, c, hv⟩
    · exact ⟨_, c, hv⟩
  obtain ⟨p, c, rfl⟩ := hform
  have hb0 := (Below.refl w.heap.size w).alloc (Nat.le_refl _) (.cells #[.int .i64 0, .int .i64 0] 26)
  have hr0 := heap_alloc_new w (.cells #[.int .i64 0, .int .i64 0] 26)
  generalize hX : wrongR (us.map (fun p => p.1)) = X
  have hX' := hX
  unfold wrongR at hX'
  rw [List.length_map] at hX'
  have HIN : Hid (InR w (.slice p us.length c) us) := h
  clear hX
  generalize hwA : w.alloc (.cells #[.int .i64 0, .int .i64 0] 26) = wA at *
  by_cases hm : 40 < us.length
  · have hm' : (40 : Int) < (us.length : Int) := by omega
    rw [if_pos hm] at hX'
    subst hX'
    clear HIN h
    go_enter Tryz.func16, Tryz.ntmps16
    go_wp2_with (refine wpList_store_row rfl 26 _ _ rfl _ _ rfl rfl _ _ hr0 (by kernel_rfl) (by simp) (by simp [Value.oneCell']) ?_)
    exact flt_ret 2 (by kernel_rfl) w.heap.size 5 0 rfl rfl (setRow_heap _ _ _ _ _ _ hr0) ⟨rfl, below_setRow hb0 (Nat.le_refl _) _⟩
  · have hm' : ¬ (40 : Int) < (us.length : Int) := by omega
    rw [if_neg hm] at hX'
    have HS : Hid (wrongL ((us.map (fun p => p.1)).drop 0) 0 = X) := hX'
    clear hX' h
    go_enter Tryz.func16, Tryz.ntmps16
    go_wp2_with fail
    clear hwA
    go_loopw [12] (fun t wr => ∃ j : Nat, t = .int .i64 (j : Int) ∧ j ≤ us.length ∧ wrongL ((us.map (fun p => p.1)).drop j) j = X ∧ wr.heap[w.heap.size]? = some (.cells #[.int .i64 0, .int .i64 0] 26 (0, 0)) ∧ Below w.heap.size w wr) (fun t _ => us.length - (intOf t).toNat)
    case atStart => exact ⟨0, rfl, by omega, HS.out, hr0, hb0⟩
    case round =>
      obtain ⟨j, rfl, hj, hXr, hrr, hbr⟩ := hrel
      clear HS hr0 hb0
      have hj0 : (0 : Int) ≤ (j : Int) := by omega
      have hj4 : (j : Int) ≤ 40 := by omega
      by_cases hlt : j < us.length
      · have hlt' : (j : Int) < (us.length : Int) := by omega
        obtain ⟨⟨u, sk⟩, hjk⟩ : ∃ k, us[j]? = some k := ⟨us[j], List.getElem?_eq_getElem hlt⟩
        have hju : (us.map (fun p => p.1))[j]? = some u := by rw [List.getElem?_map, hjk]; rfl
        rw [wrongL_step hju] at hXr
        have hin := HIN.out.all _ (List.mem_of_getElem? hjk)
        obtain ⟨pk, ck, hsk⟩ : ∃ p c, sk = .slice p u.2.kids.length c := by
          obtain ⟨_, _, d, hd⟩ := hin
          exact hd.form
        subst hsk
        rcases HIN.out.row with ⟨h, _⟩ | ⟨g, o, c', hsl, _, hcells⟩
        · rw [h] at hlt; simp at hlt
        injection hsl with e1 e2 e3
        subst e1
        subst e3
        obtain ⟨d0, d1, d2, d3, d4, d5⟩ := hcells j _ hjk
        dsimp only at d0 d1 d2 d3 d4 d5
        have f0 := (hbr.cell (block_lt_of_cell d0)).trans d0
        have f1 := (hbr.cell (block_lt_of_cell d1)).trans d1
        have f2 := (hbr.cell (block_lt_of_cell d2)).trans d2
        have f3 := (hbr.cell (block_lt_of_cell d3)).trans d3
        have f4 := (hbr.cell (block_lt_of_cell d4)).trans d4
        have f5 := (hbr.cell (block_lt_of_cell d5)).trans d5
        have hbB : Below wr.heap.size wr (wr.alloc (.cells #[.string ⟨u.1.toArray⟩, .int .i64 u.2.kind, .int .i64 u.2.a, .int .i64 u.2.b, .string ⟨u.2.name.toArray⟩, .slice pk u.2.kids.length ck] 33)) := (Below.refl _ _).alloc (Nat.le_refl _) _
        have hxB := heap_alloc_new wr (.cells #[.string ⟨u.1.toArray⟩, .int .i64 u.2.kind, .int .i64 u.2.a, .int .i64 u.2.b, .string ⟨u.2.name.toArray⟩, .slice pk u.2.kids.length ck] 33)
        have hbBw := hbr.trans (hbB.mono hbr.size)
        have hrB := (hbB.block _ (lt_of_block hrr)).trans hrr
        have cR := wrule_any u pk ck _ (hin.below hbBw)
        clear d0 d1 d2 d3 d4 d5 hcells hin hjk hju hbB hrr hbr
        have HXr : Hid ((if ruleP u ≠ 0 then (ruleP u, j) else wrongL ((us.map (fun p => p.1)).drop (j + 1)) (j + 1)) = X) := hXr
        clear hXr
        generalize ruleP u = R at *
        generalize hwB : wr.alloc (.cells #[.string ⟨u.1.toArray⟩, .int .i64 u.2.kind, .int .i64 u.2.a, .int .i64 u.2.b, .string ⟨u.2.name.toArray⟩, .slice pk u.2.kids.length ck] 33) = wB at *
        go_wp2_with (refine wpList_load_row rfl 33 _ rfl _ rfl _ _ _ _ hxB ruleType rfl (by kernel_rfl) ?_)
        refine cR.mono ?_
        rintro r w3 ⟨rfl, hb3⟩
        have hb3w := hbBw.trans (hb3.mono hbBw.size)
        have hr3 := (hb3.block _ (lt_of_block hrB)).trans hrB
        clear cR hb3 hbBw hrB hxB hwB f0 f1 f2 f3 f4 f5
        by_cases hy : R = 0
        · subst hy
          have hXX := HXr.out
          rw [if_neg (by simp)] at hXX
          have HN : Hid (wrongL ((us.map (fun p => p.1)).drop (j + 1)) (j + 1) = X) := hXX
          clear hXX HXr
          go_wp2_with fail
          go_roundw
          case rel => exact ⟨j + 1, by go_num, by omega, HN.out, hr3, hb3w⟩
          case measure => simp [intOf]; omega
        · have hyb : (R != 0) = true := by simpa using hy
          have hXX := HXr.out
          rw [if_pos hy] at hXX
          subst hXX
          clear HXr
          go_wp2_with (refine wpList_store_row rfl 26 _ _ rfl _ _ rfl rfl _ _ hr3 (by kernel_rfl) (by simp) (by simp [Value.oneCell']) ?_)
          exact flt_ret 2 (by kernel_rfl) w.heap.size R (j : Int) rfl rfl (setRow_heap _ _ _ _ _ _ hr3) ⟨rfl, below_setRow hb3w (Nat.le_refl _) _⟩
      · have hlt' : ¬ (j : Int) < (us.length : Int) := by omega
        rw [List.drop_eq_nil_of_le (by simp; omega)] at hXr
        have hXX : (0, 0) = X := hXr
        subst hXX
        clear hXr
        go_wp2_with (refine wpList_store_row rfl 26 _ _ rfl _ _ rfl rfl _ _ hrr (by kernel_rfl) (by simp) (by simp [Value.oneCell']) ?_)
        exact flt_ret 2 (by kernel_rfl) w.heap.size 0 0 rfl rfl (setRow_heap _ _ _ _ _ _ hrr) ⟨rfl, below_setRow hbr (Nat.le_refl _) _⟩
end Go.Proofs.YtgfjbcdjpkcbkaaGreatDoor

/- What the document's At, Speaks and Unknown come to. -/
namespace Go.Proofs.YtgfjbcdjpkcbkaaGreatDoor
open Go.RowKit Lx
theorem hid5 {p : Prop} (h : p) : Hid p := h
theorem InR.cells {w : World} {us : List (Ru × Value)} {pv : Option Addr} {cv : Nat} (h : InR w (.slice pv us.length cv) us) : ∀ (j : Nat) (p : Ru × Value), us[j]? = some p → ∃ g o : Nat, pv = some ⟨g, o, none⟩ ∧
      w.cell? ⟨g, o + j * 6, none⟩ = some (.string ⟨p.1.1.toArray⟩) ∧ w.cell? ⟨g, o + j * 6 + 1, none⟩ = some (.int .i64 p.1.2.kind) ∧ w.cell? ⟨g, o + j * 6 + 2, none⟩ = some (.int .i64 p.1.2.a) ∧ w.cell? ⟨g, o + j * 6 + 3, none⟩ = some (.int .i64 p.1.2.b) ∧
      w.cell? ⟨g, o + j * 6 + 4, none⟩ = some (.string ⟨p.1.2.name.toArray⟩) ∧ w.cell? ⟨g, o + j * 6 + 5, none⟩ = some p.2 := fun j p hj => by
  rcases h.row with ⟨h0, _⟩ | ⟨g, o, c, hv', hl, hc⟩
  · rw [h0] at hj; simp at hj
  · injection hv' with e1
    exact ⟨g, o, e1, hc j p hj⟩
theorem InR.form {w : World} {v : Value} {us : List (Ru × Value)} (h : InR w v us) : ∃ p c, v = .slice p us.length c := by
  rcases h.row with ⟨rfl, p, c, hv⟩ | ⟨g, o, c, hv, _⟩
  · exact ⟨p, c, hv⟩
  · exact ⟨_, c, hv⟩
end Go.Proofs.YtgfjbcdjpkcbkaaGreatDoor

/- A map from names to numbers: what Numbers makes; and whether a row of numbers holds one. -/
namespace Go.Proofs.YtgfjbcdjpkcbkaaGreatDoor
open Go.RowKit Lx
theorem mapT5 : Tryz.prog.underlying 53 = some (.map 9 3) := by kernel_rfl
theorem strT5 : Tryz.prog.underlying 9 = some .string := by kernel_rfl
theorem find_push (k : Value) (e : MapEntry) : ∀ (es : List MapEntry) (i : Nat), Instr.findNow .string k (es ++ [e]) i = match Instr.findNow .string k es i with
    | some (some r) => some (some r)
    | some none => (match Instr.sameNow .string k e.key with | some true => some (some (i + es.length, e.val)) | some false => some none | none => none)
    | none => none
  | [], i => by
    simp only [List.nil_append, Instr.findNow, List.length_nil, Nat.add_zero]
    cases Instr.sameNow .string k e.key with
    | none => rfl
    | some b => cases b <;> rfl
  | x :: es, i => by
    simp only [List.cons_append, Instr.findNow]
    cases Instr.sameNow .string k x.key with
    | none => rfl
    | some b =>
      cases b with
      | true => rfl
      | false =>
        have := find_push k e es (i + 1)
        rw [this]
        simp only [List.length_cons]
        rw [show i + 1 + es.length = i + (es.length + 1) by omega]
def EsN (es : List MapEntry) (l : List Ru) : Prop := ∀ x : List UInt8, (0 ≤ atP5 l x ∧ ∃ i, Instr.findNow .string (.string ⟨x.toArray⟩) es 0 = some (some (i, .int .i64 (atP5 l x)))) ∨ (atP5 l x = -1 ∧ Instr.findNow .string (.string ⟨x.toArray⟩) es 0 = some none)
def MapN (w : World) (b : Nat) (l : List Ru) : Prop := ∃ es c, w.heap[b]? = some (.map es c) ∧ EsN es.toList l
theorem MapN.later {w w' : World} {b : Nat} {l : List Ru} (h : MapN w b l) (hk : w'.heap[b]? = w.heap[b]?) : MapN w' b l := by
  obtain ⟨es, c, h1, h2⟩ := h
  exact ⟨es, c, hk.trans h1, h2⟩
theorem lt_of_map {w : World} {b : Nat} {l : List Ru} (h : MapN w b l) : b < w.heap.size := by
  obtain ⟨es, c, h1, _⟩ := h
  exact (Array.getElem?_eq_some_iff.1 h1).1
theorem atF_snoc : ∀ (l : List Ru) (i : Nat) (u : Ru) (x : List UInt8), atF (l ++ [u]) i x = if 0 ≤ atF l i x then atF l i x else if u.1 = x then ((i + l.length : Nat) : Int) else -1
  | [], i, u, x => by simp [atF]
  | v :: l, i, u, x => by
    have := atF_snoc l (i + 1) u x
    have e1 : atF (v :: l ++ [u]) i x = if v.1 = x then (i : Int) else atF (l ++ [u]) (i + 1) x := rfl
    have e2 : atF (v :: l) i x = if v.1 = x then (i : Int) else atF l (i + 1) x := rfl
    by_cases h : v.1 = x
    · rw [if_pos h] at e1 e2
      rw [e1, e2, if_pos (by omega)]
    · rw [if_neg h] at e1 e2
      rw [e1, e2, this, List.length_cons, show i + 1 + l.length = i + (l.length + 1) by omega]
theorem same_str (x y : List UInt8) : Instr.sameNow .string (.string ⟨x.toArray⟩) (.string ⟨y.toArray⟩) = some (decide (x = y)) := by
  have e : ((⟨x.toArray⟩ : ByteArray) == ⟨y.toArray⟩) = decide (x = y) := by
    show (x.toArray == y.toArray) = _
    by_cases h : x = y
    · subst h; simp
    · simp [h]
  simp [Instr.sameNow, e]
theorem EsN.taken {es : List MapEntry} {l : List Ru} {u : Ru} (h : EsN es l) (ht : 0 ≤ atP5 l u.1) : EsN es (l ++ [u]) := fun x => by
  have e : atP5 (l ++ [u]) x = atP5 l x := by
    unfold atP5 at *
    rw [atF_snoc]
    split
    · rfl
    · rename_i hx
      have hne : u.1 ≠ x := fun e => by subst e; exact hx ht
      rw [if_neg hne]
      have := atF_bd l 0 x
      omega
  rw [e]
  exact h x
theorem EsN.push {es : List MapEntry} {l : List Ru} {u : Ru} {c : Nat} (h : EsN es l) : EsN (es ++ [⟨.string ⟨u.1.toArray⟩, .int .i64 (l.length : Int), c⟩]) (l ++ [u]) := fun x => by
  rw [find_push]
  have e : atP5 (l ++ [u]) x = if 0 ≤ atP5 l x then atP5 l x else if u.1 = x then (l.length : Int) else -1 := by
    unfold atP5
    rw [atF_snoc, Nat.zero_add]
  rcases h x with ⟨h1, i, h2⟩ | ⟨h1, h2⟩
  · rw [if_pos h1] at e
    rw [h2, e]
    exact .inl ⟨h1, i, rfl⟩
  · rw [if_neg (by omega)] at e
    rw [h2]
    dsimp only
    rw [same_str]
    by_cases hx : x = u.1
    · subst hx
      rw [if_pos rfl] at e
      rw [e, decide_eq_true rfl]
      exact .inl ⟨by omega, _, rfl⟩
    · rw [if_neg (fun e => hx e.symm)] at e
      rw [e, decide_eq_false hx]
      exact .inr ⟨rfl, rfl⟩
theorem EsN.nil : EsN [] [] := fun _ => .inr ⟨rfl, rfl⟩
theorem look5 {w : World} {b : Nat} {l : List Ru} (h : MapN w b l) (x : List UInt8) : (Instr.lookup 53 (.map (some b)) (.string ⟨x.toArray⟩) true).run Tryz.prog w = .ok (.tuple #[.int .i64 (if 0 ≤ atP5 l x then atP5 l x else 0), .bool (decide (0 ≤ atP5 l x))]) w := by
  obtain ⟨es, c, hb, hE⟩ := h
  have hc : ∀ z, (Instr.checkKey z 10000 9 (.string ⟨x.toArray⟩)).run Tryz.prog w = .ok () w := fun z => MapKept.run_checkKey (k := .string _) strT5 (by simp [MapKept.IsKey]) z 9999
  have hz : (zeroValue 3).run Tryz.prog w = .ok (.int .i64 0) w := by kernel_rfl
  rcases hE x with ⟨h1, i, h2⟩ | ⟨h1, h2⟩
  · simp [Instr.lookup, run_underlying mapT5, MapKept.run_getObj_map hb, hc, MapKept.run_findKey strT5 h2, Result.andThen, h1]
  · simp [Instr.lookup, run_underlying mapT5, MapKept.run_getObj_map hb, hc, MapKept.run_findKey strT5 h2, hz, Result.andThen, h1]
theorem look6 {w : World} {b : Nat} {l : List Ru} (h : MapN w b l) (x : List UInt8) (hx : 0 ≤ atP5 l x) : (Instr.lookup 53 (.map (some b)) (.string ⟨x.toArray⟩) false).run Tryz.prog w = .ok (.int .i64 (atP5 l x)) w := by
  obtain ⟨es, c, hb, hE⟩ := h
  have hc : ∀ z, (Instr.checkKey z 10000 9 (.string ⟨x.toArray⟩)).run Tryz.prog w = .ok () w := fun z => MapKept.run_checkKey (k := .string _) strT5 (by simp [MapKept.IsKey]) z 9999
  rcases hE x with ⟨h1, i, h2⟩ | ⟨h1, h2⟩
  · simp [Instr.lookup, run_underlying mapT5, MapKept.run_getObj_map hb, hc, MapKept.run_findKey strT5 h2, Result.andThen]
  · omega
theorem ins5 {w : World} {b : Nat} {l : List Ru} {u : Ru} (h : MapN w b l) (ht : atP5 l u.1 = -1) : ∃ o, (Instr.mapUpdate 53 (.map (some b)) (.string ⟨u.1.toArray⟩) (.int .i64 (l.length : Int))).run Tryz.prog w = .ok () (putB5 w b o) ∧ MapN (putB5 w b o) b (l ++ [u]) := by
  obtain ⟨es, c, hb, hE⟩ := h
  have hc : (Instr.checkKey false 10000 9 (.string ⟨u.1.toArray⟩)).run Tryz.prog w = .ok () w := MapKept.run_checkKey (k := .string _) strT5 (by simp [MapKept.IsKey]) false 9999
  have hn : Instr.findNow .string (.string ⟨u.1.toArray⟩) es.toList 0 = some none := by
    rcases hE u.1 with ⟨h1, _⟩ | ⟨_, h2⟩
    · omega
    · exact h2
  refine ⟨.map (es.push ⟨.string ⟨u.1.toArray⟩, .int .i64 (l.length : Int), c⟩) (c + 1), ?_, es.push ⟨.string ⟨u.1.toArray⟩, .int .i64 (l.length : Int), c⟩, c + 1, (MapKept.heap_set hb).1, ?_⟩
  · simp [Instr.mapUpdate, run_underlying mapT5, MapKept.run_getObj_map hb, hc, MapKept.run_findKey strT5 hn, MapKept.run_setObj_map _ hb, Result.andThen, putB5]
  · rw [Array.toList_push]
    exact hE.push
theorem make_hint (n : Nat) (_ : n < 9223372036854775808) (w : World) : (Instr.makeMap 53 (some (.int .i64 (n : Int)))).run Tryz.prog w = .ok (.map (some w.heap.size)) (w.alloc (.map #[] 0)) := by
  unfold Instr.makeMap
  simp [go_sem]
def OutNu (us : List (Ru × Value)) (w : World) (r : Ending) (w' : World) : Prop := ∃ b, r = .returned (.map (some b)) ∧ w.heap.size ≤ b ∧ MapN w' b (us.map (fun p => p.1)) ∧ Below w.heap.size w w'
def NRel (us : List (Ru × Value)) (w : World) (t : Value) (wr : World) : Prop := ∃ j : Nat, t = .int .i64 (j : Int) ∧ j ≤ us.length ∧ MapN wr w.heap.size ((us.map (fun p => p.1)).take j) ∧ Below w.heap.size w wr
set_option maxRecDepth 100000 in
set_option maxHeartbeats 1000000 in
theorem numbers_any (us : List (Ru × Value)) (v : Value) (w : World) (h : InR w v us) : Calls Tryz.prog 17 #[v] w (OutNu us w) := by
  obtain ⟨pv, cv, rfl⟩ := h.form
  have HK := hid5 h.cells
  have hlen := h.len
  have HA : Hid (∀ p ∈ us, ∃ q n c, p.2 = .slice q n c) := fun p hp => by
    obtain ⟨_, _, d, hd⟩ := h.all p hp
    obtain ⟨q, c, e⟩ := hd.form
    exact ⟨q, _, c, e⟩
  clear h
  have hb0 := (Below.refl w.heap.size w).alloc (Nat.le_refl _) (.map #[] 0)
  have hm0 : MapN (w.alloc (.map #[] 0)) w.heap.size [] := ⟨#[], 0, (MapKept.heap_alloc w _).1, EsN.nil⟩
  have hmk := fun W => make_hint us.length hlen W
  go_enter Tryz.func17, Tryz.ntmps17
  go_wp2_with fail
  go_loopw [4, 5, 6, 7, 13] (fun _ _ _ _ t wr => NRel us w t wr) (fun _ _ _ _ t _ => us.length - (intOf t).toNat)
  case atStart => exact ⟨0, rfl, by omega, hm0, hb0⟩
  case round =>
    obtain ⟨j, rfl, hj, hM, hbr⟩ := hrel
    clear hb0 hm0
    have hj0 : (0 : Int) ≤ (j : Int) := by omega
    by_cases hlt : j < us.length
    · have hlt' : (j : Int) < (us.length : Int) := by omega
      obtain ⟨⟨u, sk⟩, hjk⟩ : ∃ p, us[j]? = some p := ⟨us[j], List.getElem?_eq_getElem hlt⟩
      have htk : (us.map (fun p => p.1)).take (j + 1) = (us.map (fun p => p.1)).take j ++ [u] := by
        have hum : (us.map (fun p => p.1))[j]? = some u := by rw [List.getElem?_map, hjk]; rfl
        rw [List.take_add_one, hum]; rfl
      have htl : ((us.map (fun p => p.1)).take j).length = j := by simp; omega
      obtain ⟨g, o, hpe, c0, c1, c2, c3, c4, c5⟩ := HK.out j _ hjk
      obtain ⟨qs, ns, cs, hsk⟩ := HA.out _ (List.mem_of_getElem? hjk)
      dsimp only at c0 c1 c2 c3 c4 c5 hsk
      subst hsk hpe
      have d0 := (hbr.cell (block_lt_of_cell c0)).trans c0
      have d1 := (hbr.cell (block_lt_of_cell c1)).trans c1
      have d2 := (hbr.cell (block_lt_of_cell c2)).trans c2
      have d3 := (hbr.cell (block_lt_of_cell c3)).trans c3
      have d4 := (hbr.cell (block_lt_of_cell c4)).trans c4
      have d5 := (hbr.cell (block_lt_of_cell c5)).trans c5
      have hbA := hbr.alloc hbr.size (.cells #[.string ⟨u.1.toArray⟩, .int .i64 u.2.kind, .int .i64 u.2.a, .int .i64 u.2.b, .string ⟨u.2.name.toArray⟩, .slice qs ns cs] 33)
      have hxB := heap_alloc_new wr (.cells #[.string ⟨u.1.toArray⟩, .int .i64 u.2.kind, .int .i64 u.2.a, .int .i64 u.2.b, .string ⟨u.2.name.toArray⟩, .slice qs ns cs] 33)
      have hMA : MapN (wr.alloc (.cells #[.string ⟨u.1.toArray⟩, .int .i64 u.2.kind, .int .i64 u.2.a, .int .i64 u.2.b, .string ⟨u.2.name.toArray⟩, .slice qs ns cs] 33)) w.heap.size ((us.map (fun p => p.1)).take j) := hM.later (Below.heap_alloc _ _ _ (lt_of_map hM))
      have hlk := look5 hMA u.1
      clear hjk c0 c1 c2 c3 c4 c5 hM
      generalize hwB : wr.alloc (.cells #[.string ⟨u.1.toArray⟩, .int .i64 u.2.kind, .int .i64 u.2.a, .int .i64 u.2.b, .string ⟨u.2.name.toArray⟩, .slice qs ns cs] 33) = wB at *
      have z0 := (cell_of_row _ _ 0 _ _ _ hxB).trans rfl
      by_cases ht : 0 ≤ atP5 ((us.map (fun p => p.1)).take j) u.1
      · rw [if_pos ht, decide_eq_true ht] at hlk
        have hMN : MapN wB w.heap.size ((us.map (fun p => p.1)).take (j + 1)) := by
          obtain ⟨es, c, h1, h2⟩ := hMA
          rw [htk]
          exact ⟨es, c, h1, h2.taken ht⟩
        generalize atP5 ((us.map (fun p => p.1)).take j) u.1 = n at *
        have HM := hid5 hMN
        clear hMA htk htl hMN ht
        go_wp2_with fail
        go_roundw
        case rel => exact ⟨j + 1, by go_num, by omega, HM.out, hbA⟩
        case measure => simp [intOf]; omega
      · rw [if_neg ht, decide_eq_false ht] at hlk
        have hm1 : atP5 ((us.map (fun p => p.1)).take j) u.1 = -1 := by
          have := (atP5_bd ((us.map (fun p => p.1)).take j) u.1).1
          omega
        obtain ⟨ob, hup, hMN⟩ := ins5 hMA hm1
        rw [htl] at hup
        rw [← htk] at hMN
        have hbN := putB5_below hbA (Nat.le_refl _) ob
        have HM := hid5 hMN
        clear hMA htk htl hMN ht hm1
        go_wp2_with fail
        go_roundw
        case rel => exact ⟨j + 1, by go_num, by omega, HM.out, hbN⟩
        case measure => simp [intOf]; omega
    · have ej : j = us.length := by omega
      have hlt' : ¬ (j : Int) < (us.length : Int) := by omega
      have HO : Hid (OutNu us w (.returned (.map (some w.heap.size))) wr) := by
        refine ⟨w.heap.size, rfl, Nat.le_refl _, ?_, hbr⟩
        rw [ej, List.take_of_length_le (by simp)] at hM
        exact hM
      clear hM HK HA ej
      go_wp2_with fail
      go_ret
      exact HO.out
end Go.Proofs.YtgfjbcdjpkcbkaaGreatDoor

/- What slices.Index and slices.Contains of numbers come to. -/
namespace Go.Proofs.YtgfjbcdjpkcbkaaGreatDoor
end Go.Proofs.YtgfjbcdjpkcbkaaGreatDoor
