/- What rules comes to. -/
import Derived.Test.YtgjggpgkcbekoadDoorRb16
import Derived.Deep.QuietTactic
import Derived.BigQuiet
import Derived.Defers
import Derived.Recover
namespace Go.Proofs.YtgjggpgkcbekoadDoor
open Go.RowKit Lx
variable {all : List Tk} {E g : Nat} {v : Value} {w : World} {i n : Nat}

/-- The cells of a row of rules, each with its kids' row. -/
def flatR : List (Ru × Value) → List Value
  | [] => []
  | p :: l => .string ⟨p.1.1.toArray⟩ :: .int .i64 p.1.2.kind :: .int .i64 p.1.2.a :: .int .i64 p.1.2.b :: .string ⟨p.1.2.name.toArray⟩ :: p.2 :: flatR l
theorem flatR_snoc (p : Ru × Value) : ∀ l : List (Ru × Value), flatR (l ++ [p]) = flatR l ++ [.string ⟨p.1.1.toArray⟩, .int .i64 p.1.2.kind, .int .i64 p.1.2.a, .int .i64 p.1.2.b, .string ⟨p.1.2.name.toArray⟩, p.2]
  | [] => rfl
  | q :: l => by simp [flatR, flatR_snoc p l]
theorem ruleInfo : (Tryd.prog.info? 36).map (fun i => (i.zero, i.size, i.bytes)) = some (some (.agg #[.string ⟨#[]⟩, .int .i64 0, .int .i64 0, .int .i64 0, .string ⟨#[]⟩, .slice none 0 0]), 6, 80) := by kernel_rfl
theorem rulesType : Tryd.prog.underlying 22 = some (.slice 36) := by kernel_rfl
theorem row_form {w : World} {base : Nat} {e : TypeId} {size : Nat} {v : Value} {n : Nat} {xs : List Value} (h : w.ownsRow base e size v n xs) : ∃ p c, v = .slice p n c := by
  obtain ⟨_, h2⟩ := h
  rcases h2 with ⟨h2, h3⟩ | ⟨g, cap, _, h2, _⟩
  · exact ⟨none, 0, by rw [h2, h3]⟩
  · exact ⟨_, cap, h2⟩
/-- A row of rules of the call's own. -/
structure RowR (w0 w : World) (v : Value) (us : List (Ru × Value)) : Prop where
  own : w.ownsRow w0.heap.size 36 6 v us.length (flatR us)
  kids : ∀ p ∈ us, ∃ d, KidsAt (fun k => w0.heap.size ≤ k) d w p.2 p.1.2.kids
def OutL (g : Nat) (w : World) (x : Except (Int × Nat) (List Ru)) (e : Ending) (w' : World) : Prop :=
  match x with
  | .error (er, at_) => e = .panicked (thrownV er at_) ∧ Kept g w w'
  | .ok rs => ∃ (vr : Value) (us : List (Ru × Value)), e = .returned vr ∧ us.map (·.1) = rs ∧ RowR w w' vr us ∧ us.length ≤ 40 ∧ Kept g w w'
theorem ruleR_len {E : Nat} {r q : List Tk} {u : Ru} (h : ruleR E r = .ok (u, q)) : q.length < r.length := by
  unfold ruleR at h
  split at h
  · cases h
  · rename_i h1
    have h1' := kindP_cons (r := r) (by omega)
    split at h
    · split at h
      · cases h
      · rename_i e q' n' hx
        have hl := rd_len (by omega) hx
        split at h
        · cases h
        · split at h
          · cases h
            simp only [List.length_tail] at hl ⊢
            omega
          · cases h
    · cases h
theorem RowR.kept {w0 w w' : World} {vr : Value} {us : List (Ru × Value)} (h : RowR w0 w vr us) (hk : Kept g w w') (hg : g < w0.heap.size) : RowR w0 w' vr us := by
  refine ⟨h.own.kept hk (.inr fun e => ?_), fun p hp => ?_⟩
  · have := (h.own.lt g e).1
    omega
  · obtain ⟨d, hd⟩ := h.kids p hp
    exact ⟨d, hk.kids (fun k hk => by omega) hd⟩
theorem kids_grown {w0 w w' : World} {vr : Value} {xs : List Value} {m : Nat} {ks : List Ex} {sl : Value} {d : Nat} (ho : w.ownsRow w0.heap.size 36 6 vr m xs) (hg : w.grownBy w' vr.ownBlock) (h : KidsAt (fun k => w0.heap.size ≤ k) d w sl ks) : KidsAt (fun k => w0.heap.size ≤ k) d w' sl ks := by
  obtain ⟨_, h2⟩ := ho
  rcases h2 with ⟨rfl, _⟩ | ⟨b, cap, cur, rfl, _, hh, _⟩
  · exact h.kept fun k _ hl => hg.block k hl (fun e => by cases e)
  · refine ((h.other hh (by decide)).kept fun k hk hl => hg.block k hl (fun e => hk.2 (Option.some.inj e))).mono fun k hk => hk.1
theorem rulesR_step {E f : Nat} {acc : List Ru} {r : List Tk} (h : r.length ≠ 0) : rulesR E (f + 1) acc r = if isT wRule r then (if acc.length = 40 then .error (5, atP E r.tail) else match ruleR E r.tail with | .error q => .error q | .ok (u, q) => rulesR E f (acc ++ [u]) q) else .error (2, atP E r) := by
  rw [rulesR, if_neg h]
  rfl
theorem rulesR_end {E f : Nat} {acc : List Ru} {r : List Tk} (h : r.length = 0) : rulesR E f acc r = .ok acc := by
  cases f with
  | zero => rfl
  | succ f => rw [rulesR, if_pos h]
set_option maxRecDepth 100000 in
set_option maxHeartbeats 4000000 in
theorem rules_any (h0 : PS0 all E g v) (h : PSt all E g v w i n) :
    Calls Tryd.prog 29 #[.pointer (some ⟨g, 0, none⟩)] w (OutL g w (rulesR E ((all.drop i).length + 1) [] (all.drop i))) := by
  have hgl := lt_of_block h.blk
  obtain ⟨i0, hi, hz0, hz1, hz2⟩ := info_parts ruleInfo
  have hlen := h0.len
  generalize hX : rulesR E ((all.drop i).length + 1) [] (all.drop i) = X
  have HX : Hid (rulesR E ((all.drop i).length + 1) [] (all.drop i) = X) := hX
  clear hX
  go_enter Tryd.func29, Tryd.ntmps29
  go_wp2_with fail
  go_loopw [3] (fun q wr => ∃ (us : List (Ru × Value)) (f j m : Nat), rulesR E f (us.map (·.1)) (all.drop j) = X ∧ (all.drop j).length < f ∧ us.length ≤ 40 ∧ RowR w wr q us ∧ PSt all E g v wr j m ∧ Kept g w wr) (fun _ wr => all.length - posOf g wr)
  case atStart => exact ⟨[], _, i, n, HX.out, by omega, by simp, ⟨World.ownsRow_nil _ _ _ _, fun p hp => by cases hp⟩, h, Kept.refl _ _⟩
  case round =>
    obtain ⟨us, f, j, m, hXr, hf, h40, hrow, hst, hkp⟩ := hrel
    clear HX
    have hp := hst.pos
    have k0 := (cell_of_row _ _ 0 _ _ _ hst.blk).trans rfl
    have k1 := (cell_of_row _ _ 1 _ _ _ hst.blk).trans rfl
    obtain ⟨pv, cv, ev⟩ := TRow.form hst.row
    have hjl := hst.le
    have HXr : Hid (rulesR E f (us.map (·.1)) (all.drop j) = X) := hXr
    have HV : Hid (v = .slice pv all.length cv) := ev
    rw [ev] at k0
    clear hXr ev
    by_cases hlt : j < all.length
    · have hlt' : (j : Int) < (all.length : Int) := by omega
      go_wp2_with fail
      go_quiet (fail)
      have hbq : Below wr.heap.size wr (wr.drewN nq) := below_drewN (Below.refl _ _) nq
      have hst1 := hst.below hbq h0
      have hkp1 := hkp.trans (Kept.of_below hbq)
      have hrow1 := hrow.kept (Kept.of_below (g := g) hbq) hgl
      clear hst hkp hrow hbq k0 k1
      generalize wr.drewN nq = w1 at *
      obtain ⟨f, rfl⟩ : ∃ f', f = f' + 1 := ⟨f - 1, by omega⟩
      have hXX := HXr.out
      rw [rulesR_step (by simp; omega), tail_drop] at hXX
      clear HXr
      by_cases hR : isT wRule (all.drop j) = true
      · rw [if_pos hR] at hXX
        have c2 := must_yes h0 hst1 wRule (by decide) hR
        by_cases hm : us.length = 40
        · rw [if_pos (by simpa using hm)] at hXX
          have HE : Hid (X = .error (5, atP E (all.drop (j + 1)))) := hXX.symm
          obtain ⟨pq, cq, rfl⟩ := row_form hrow1.own
          have hm' : ((us.length : Int) == 40) = true := by rw [hm]; rfl
          clear hXX hR hm
          go_wp2_with fail
          refine c2.mono ?_
          rintro e w2 ⟨rfl, h2, hk2⟩
          go_wp2_with fail
          refine (fail_any h0 h2 5).mono ?_
          rintro e w3 ⟨rfl, hb3⟩
          refine ⟨rfl, ?_⟩
          rw [HE.out]
          exact ⟨rfl, (hkp1.trans hk2).trans (Kept.of_below hb3)⟩
        · rw [if_neg (by simpa using hm)] at hXX
          have hm' : ((us.length : Int) == 40) = false := beq_eq_false_iff_ne.2 (by omega)
          have hj1 := isT_len (by decide) hR
          have HXX : Hid ((match ruleR E (all.drop (j + 1)) with | .error q => .error q | .ok (u, q) => rulesR E f (us.map (·.1) ++ [u]) q) = X) := hXX
          have cR := fun (W : World) (hW : PSt all E g v W (j + 1) m) => rule_any h0 hW
          have hown1 := hrow1.own
          obtain ⟨pq, cq, eq⟩ := row_form hown1
          have HQ : Hid (u3 = .slice pq us.length cq) := eq
          subst eq
          clear hXX hR hown1
          go_wp2_with fail
          refine c2.mono ?_
          rintro e w2 ⟨rfl, h2, hk2⟩
          have hkp2 := hkp1.trans hk2
          have hrow2 := hrow1.kept hk2 hgl
          clear hrow1 hst1 hkp1 c2
          go_wp2_with fail
          refine (cR _ h2).mono ?_
          intro e w3 ho
          clear cR
          cases hx : ruleR E (all.drop (j + 1)) with
          | error q =>
            obtain ⟨er, at_⟩ := q
            have hXX := HXX.out
            rw [hx] at ho hXX
            obtain ⟨rfl, hk3⟩ := ho
            refine ⟨rfl, ?_⟩
            rw [← hXX]
            exact ⟨rfl, hkp2.trans hk3⟩
          | ok q =>
            obtain ⟨u, rr⟩ := q
            have hql := ruleR_len hx
            have hXX := HXX.out
            rw [hx] at ho hXX
            obtain ⟨i3, m3, sl, d3, hr3, rfl, hkd, h3, hm3, hk3⟩ := ho
            subst hr3
            obtain ⟨p3, c3, rfl⟩ := hkd.form
            have hrow3 := hrow2.kept hk3 hgl
            have hkp3 := hkp2.trans hk3
            have hs2 := hkp2.size
            have hs3 := hkp3.size
            have HN : Hid (rulesR E f ((us ++ [(u, Value.slice p3 u.2.kids.length c3)]).map (fun p => p.1)) (all.drop i3) = X) := by
              show _ = _
              rw [List.map_append]; exact hXX
            have hb4 : Below w3.heap.size w3 (w3.alloc (.cells #[.string ⟨u.1.toArray⟩, .int .i64 u.2.kind, .int .i64 u.2.a, .int .i64 u.2.b, .string ⟨u.2.name.toArray⟩, .slice p3 u.2.kids.length c3] 36)) := (Below.refl _ _).alloc (Nat.le_refl _) _
            have hrow4 := hrow3.kept (Kept.of_below (g := g) hb4) hgl
            have h4 := h3.below hb4 h0
            have hkp4 := hkp3.trans (Kept.of_below hb4)
            have hkd4 : KidsAt (fun k => w.heap.size ≤ k) d3 (w3.alloc (.cells #[.string ⟨u.1.toArray⟩, .int .i64 u.2.kind, .int .i64 u.2.a, .int .i64 u.2.b, .string ⟨u.2.name.toArray⟩, .slice p3 u.2.kids.length c3] 36)) (.slice p3 u.2.kids.length c3) u.2.kids := (Kept.of_below (g := g) hb4).kids (fun k hk => by omega) (hkd.mono fun k hk => by omega)
            have hx4 := heap_alloc_new w3 (.cells #[.string ⟨u.1.toArray⟩, .int .i64 u.2.kind, .int .i64 u.2.a, .int .i64 u.2.b, .string ⟨u.2.name.toArray⟩, .slice p3 u.2.kids.length c3] 36)
            have hs4 := hkp4.size
            unfold ruV
            clear hrow2 hrow3 h2 h3 hk2 hk3 hkd hkp2 hkp3 hb4 hx hXX HXX
            generalize hw4 : w3.alloc (.cells #[.string ⟨u.1.toArray⟩, .int .i64 u.2.kind, .int .i64 u.2.a, .int .i64 u.2.b, .string ⟨u.2.name.toArray⟩, .slice p3 u.2.kids.length c3] 36) = w4 at *
            go_wp2_with (at_builtin; refine wpList_append_own _ rfl _ _ 22 rfl w.heap.size 36 i0 (.agg #[.string ⟨#[]⟩, .int .i64 0, .int .i64 0, .int .i64 0, .string ⟨#[]⟩, .slice none 0 0]) 6 80 rulesType hi hz0 hz1 hz2 rfl (by decide) (.slice pq us.length cq) us.length (flatR us) rfl hrow4.own ⟨w3.heap.size, 0, none⟩ 1 1 [.string ⟨u.1.toArray⟩, .int .i64 u.2.kind, .int .i64 u.2.a, .int .i64 u.2.b, .string ⟨u.2.name.toArray⟩, .slice p3 u.2.kids.length c3] rfl rfl ?c1 ?c2 ?c3 ?c4 ?c5 ?_)
            case c1 =>
              intro j u' hj
              match j, hj with
              | 0, hj => simp at hj; subst hj; exact (cell_of_row _ _ _ _ _ _ hx4).trans rfl
              | 1, hj => simp at hj; subst hj; exact (cell_of_row _ _ _ _ _ _ hx4).trans rfl
              | 2, hj => simp at hj; subst hj; exact (cell_of_row _ _ _ _ _ _ hx4).trans rfl
              | 3, hj => simp at hj; subst hj; exact (cell_of_row _ _ _ _ _ _ hx4).trans rfl
              | 4, hj => simp at hj; subst hj; exact (cell_of_row _ _ _ _ _ _ hx4).trans rfl
              | 5, hj => simp at hj; subst hj; exact (cell_of_row _ _ _ _ _ _ hx4).trans rfl
            case c2 => intro u hu; simp at hu; rcases hu with rfl | rfl | rfl | rfl | rfl | rfl <;> rfl
            case c3 => unfold maxLen; omega
            case c4 => omega
            case c5 => exact hs4
            intro v' w5 hown' hgrow _
            have hlo := hrow4.own.lt
            have hgne : ∀ b, (Value.slice pq us.length cq).ownBlock = some b → b ≠ g := fun b hb => by have := (hlo b hb).1; omega
            have hkp5 : Kept g w w5 := ⟨hgrow.os.trans hkp4.os, hgrow.tape.trans hkp4.tape, hgrow.output.trans hkp4.output, Nat.le_trans hkp4.size hgrow.size, fun k hk hne => (hgrow.block k (by omega) (fun e => by have := (hlo k e.symm).1; omega)).trans (hkp4.block k hk hne)⟩
            have h5 : PSt all E g v w5 i3 m3 := h.of_kept h0 hkp5 ((hgrow.block g (lt_of_block h4.blk) (fun e => hgne g e.symm rfl)).trans h4.blk) h4.le
            have hrow5 : RowR w w5 v' (us ++ [(u, .slice p3 u.2.kids.length c3)]) := by
              refine ⟨?_, fun p hp => ?_⟩
              · rw [flatR_snoc]
                simp only [List.length_append, List.length_cons, List.length_nil, Nat.zero_add]
                exact hown'
              · rcases List.mem_append.1 hp with hp | hp
                · obtain ⟨d, hd⟩ := hrow4.kids p hp
                  exact ⟨d, kids_grown hrow4.own hgrow hd⟩
                · have e : p = (u, .slice p3 u.2.kids.length c3) := by simpa using hp
                  subst e
                  exact ⟨d3, kids_grown hrow4.own hgrow hkd4⟩
            have hn5 : (us ++ [(u, Value.slice p3 u.2.kids.length c3)]).length ≤ 40 := by simp; omega
            have hfl : (all.drop i3).length < f := by
              simp only [List.length_drop] at hql hf ⊢
              omega
            clear hown' hgrow hrow4 h4 hkp4 hkd4 hx4 hw4
            go_wp2_with fail
            go_roundw
            case rel => exact ⟨_, f, i3, m3, HN.out, hfl, hn5, hrow5, h5, hkp5⟩
            case measure =>
              rw [hp]
              have := h5.pos
              have := h5.le
              show all.length - posOf g _ < _
              simp only [List.length_drop] at hql
              omega
      · have hR' : isT wRule (all.drop j) = false := by simpa using hR
        rw [if_neg hR] at hXX
        have HE : Hid (X = .error (2, atP E (all.drop j))) := hXX.symm
        have c2 := must_no h0 hst1 wRule hR'
        clear hXX hR hR'
        go_wp2_with fail
        refine c2.mono ?_
        rintro e w2 ⟨rfl, hk2⟩
        refine ⟨rfl, ?_⟩
        rw [HE.out]
        exact ⟨rfl, hkp1.trans hk2⟩
    · have hlt' : ¬ (j : Int) < (all.length : Int) := by omega
      have hXX := HXr.out
      rw [rulesR_end (by simp; omega)] at hXX
      have HE : Hid (X = .ok (us.map (·.1))) := hXX.symm
      clear hXX HXr
      go_wp2_with fail
      go_quiet (fail)
      have hbq : Below wr.heap.size wr (wr.drewN nq) := below_drewN (Below.refl _ _) nq
      have hkp1 := hkp.trans (Kept.of_below hbq)
      have hrow1 := hrow.kept (Kept.of_below (g := g) hbq) hgl
      go_wp2_with fail
      go_ret
      rw [HE.out]
      exact ⟨_, us, rfl, rfl, hrow1, h40, hkp1⟩
end Go.Proofs.YtgjggpgkcbekoadDoor

/- What parse.Parse comes to: the deferred call. -/
namespace Go.Proofs.YtgjggpgkcbekoadDoor
open Go.RowKit Lx

set_option maxRecDepth 100000 in
theorem catch_idle (p q : Option Addr) (w : World) :
    CallsD Tryd.prog 28 #[.pointer p, .pointer q] .returning w fun e u' w' => e = .returned (.tuple #[]) ∧ u' = .returning ∧ w' = w := by
  refine callsD_of_wpS Tryd.func28 rfl fun c₀ cs hu => ?_
  apply wpS_seq
  apply wpS_region
  simp [wpOpsS, go_sem, recoverD, hu, Tryd.ntmps28, Exit.thenS]
  refine wpS_of_wp ?_
  change Code.wp _ _ _ { tmps := #[.pointer p, .pointer q, .nilIface, .nilIface, undef, undef, undef, undef, undef], defers := [] } w
  go_wp2_with fail
  cases c₀
  simp_all [bodyPostS, results, Tryd.results28]
theorem assertThrown (c0 c1 : Value) (w : World) : (Instr.typeAssert (.iface 66 (.agg #[c0, c1])) 20 66 false).run Tryd.prog w = .ok (.agg #[c0, c1]) w := by
  unfold Instr.typeAssert
  simp [go_sem]
theorem fieldThrown (c0 c1 : Value) (w : World) : (Instr.field 66 (.agg #[c0, c1]) 0).run Tryd.prog w = .ok (.agg #[c0, c1]) w := by
  unfold Instr.field
  simp [go_sem, asAgg]
attribute [local go_sem] assertThrown fieldThrown
/-- The results of Parse, where a fault has been thrown. -/
def caught (p q : Nat) (er at_ : Int) (w : World) : World := ((w.setCell ⟨p, 0, none⟩ (.slice none 0 0)).setCell ⟨q, 0, none⟩ (.int .i64 er)).setCell ⟨q, 1, none⟩ (.int .i64 at_)
set_option maxRecDepth 100000 in
set_option maxHeartbeats 1000000 in
theorem catch_thrown (p q : Nat) (hpq : p ≠ q) (c0 c1 c2 : Value) (er at_ : Int) (w : World) (hp : w.heap[p]? = some (.cells #[c0] 22 (0, 0))) (hq : w.heap[q]? = some (.cells #[c1, c2] 26 (0, 0))) :
    CallsD Tryd.prog 28 #[.pointer (some ⟨p, 0, none⟩), .pointer (some ⟨q, 0, none⟩)] (.panicking [{ v := .iface 66 (.agg #[.int .i64 er, .int .i64 at_]), recovered := false }]) w fun e u' w' =>
      e = .returned (.tuple #[]) ∧ u' = .panicking [{ v := .iface 66 (.agg #[.int .i64 er, .int .i64 at_]), recovered := true }] ∧ ∃ k, w' = (caught p q er at_ w).drewN k := by
  have kp := (cell_of_row _ _ 0 _ _ _ hp).trans rfl
  have kq0 := (cell_of_row _ _ 0 _ _ _ hq).trans rfl
  have kq1 := (cell_of_row _ _ 1 _ _ _ hq).trans rfl
  have yp := frozen_of_row _ _ 0 _ _ hp
  have yq0 := frozen_of_row _ _ 0 _ _ hq
  have yq1 := frozen_of_row _ _ 1 _ _ hq
  refine callsD_of_wpS Tryd.func28 rfl fun c₀ cs hu => ?_
  apply wpS_seq
  apply wpS_region
  simp [wpOpsS, go_sem, recoverD, hu, Tryd.ntmps28, Exit.thenS]
  refine wpS_of_wp ?_
  change Code.wp _ _ _ { tmps := #[.pointer (some ⟨p, 0, none⟩), .pointer (some ⟨q, 0, none⟩), .iface 66 (.agg #[.int .i64 er, .int .i64 at_]), .iface 66 (.agg #[.int .i64 er, .int .i64 at_]), undef, undef, undef, undef, undef], defers := [] } w
  go_wp2_with fail
  go_region
  show bodyPostS _ _ _ _ _ _ _ _ _
  simp [bodyPostS, results, Tryd.results28]
  exact ⟨1, rfl⟩
end Go.Proofs.YtgjggpgkcbekoadDoor
