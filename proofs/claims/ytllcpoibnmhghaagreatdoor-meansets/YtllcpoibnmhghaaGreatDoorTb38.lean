/- What the law MeanMore comes to. Written by genmm.py. -/
import Derived.Test.YtllcpoibnmhghaaGreatDoorTb37
import Derived.Test.YtllcpoibnmhghaaGreatDoorTb34
import Derived.Test.YtllcpoibnmhghaaGreatDoorTb35
namespace Go.Proofs.YtllcpoibnmhghaaGreatDoor
open Go.RowKit Lx Msk
theorem RowM.apart {w : World} {v : Value} {fs : List (Nat → Bool)} {g : Nat} {a b : Int} {cs : Array Value} (h : RowM w v fs) (hg : w.heap[g]? = some (.cells #[.int .i64 a, .int .i64 b] 43 (0, 0))) : RowM (w.setRow g cs) v fs := by
  obtain ⟨p, c, h1, h2, h3⟩ := h
  refine ⟨p, c, h1, h2, fun i f hi => ?_⟩
  obtain ⟨q, o, e, hr⟩ := h3 i f hi
  refine ⟨q, o, e, fun j u hu => ?_⟩
  have hne : q ≠ g := fun e => by
    subst e
    have h0 := hr 0 (.int .u64 (wd f 0 : Int)) (by rw [Array.getElem?_toList]; exact mv_get f 0 (by decide))
    rw [cell_of_row _ _ _ _ _ _ hg] at h0
    have hlt : o + i * 23 + 0 < 2 := by
      by_cases hx : o + i * 23 + 0 < 2
      · exact hx
      · rw [Array.getElem?_eq_none (by simp; omega)] at h0; cases h0
    match hk : o + i * 23 + 0, hlt, h0 with
    | 0, _, h0 => cases h0
    | 1, _, h0 => cases h0
  rw [← hr j u hu]
  exact World.cell?_of_block (setRow_other _ _ _ _ hne)
theorem mflt_chk {l : List Ru} {day : Int} (h : (mflt l day).1 = 0) : (chkW l).1 = 0 := by
  unfold mflt at h
  split at h
  · rename_i h1
    exact absurd h h1
  · rename_i h1
    simpa using h1
theorem meanL_len {l : List Ru} {day : Int} (h : (mflt l day).1 = 0) : (meanL l day).length = l.length := by
  unfold meanL
  rw [if_pos h]
  simp
theorem meanL_at {l : List Ru} {day : Int} (h : (mflt l day).1 = 0) {i : Nat} (hi : i < l.length) : (meanL l day)[i]? = some (meanP l (wkB day) day i) := by
  unfold meanL
  rw [if_pos h, List.getElem?_map, List.getElem?_range hi]
  rfl
theorem meanL_more {l : List Ru} {u : Ru} {day : Int} (h : (mflt l day).1 = 0) (h' : (mflt (l ++ [u]) day).1 = 0) {i : Nat} {f : Nat → Bool} (hf : (meanL l day)[i]? = some f) : (meanL (l ++ [u]) day)[i]? = some f := by
  have hi : i < l.length := by
    have := (List.getElem?_eq_some_iff.1 hf).1
    rw [meanL_len h] at this
    exact this
  rw [meanL_at h hi] at hf
  rw [meanL_at h' (by simp; omega), mean_more (mflt_chk h) (mflt_chk h') (muR l i + 1) i hi (by omega)]
  exact hf
theorem PT2.below {w w' : World} (h : PT2 w) (hb : Below w.heap.size w w') : PT2 w' := fun W hW => h W (hb.trans (hW.mono hb.size))
set_option maxRecDepth 100000 in
set_option maxHeartbeats 4000000 in
theorem mmore_walk (us : List (Ru × Value)) (v : Value) (nm : List UInt8) (e : Ex) (pe : Option Addr) (ce : Nat) (day : Int) (w : World) (h : InR w v us) (hE : RuleIn w ((nm, e), .slice pe e.kids.length ce)) (h80 : us.length * 80 ≤ 140737488351232) (hnil : ∀ n c, v = .slice none n c → c = 0) (hPT : PT2 w) :
    Calls Tryz.prog 7 #[v, .string ⟨nm.toArray⟩, .agg #[.int .i64 e.kind, .int .i64 e.a, .int .i64 e.b, .string ⟨e.name.toArray⟩, .slice pe e.kids.length ce], .int .i64 day] w fun e w' => e = .returned (.bool true) ∧ Below w.heap.size w w' := by
  obtain ⟨l, hl⟩ : ∃ l, us.map (fun p => p.1) = l := ⟨_, rfl⟩
  have hll : l.length = us.length := by rw [← hl, List.length_map]
  obtain ⟨pv, cv, rfl⟩ := h.form
  have hlen := h.len
  have hp0 : pv = none → cv = 0 := fun e => hnil us.length cv (by rw [e])
  obtain ⟨i0, hi, hz0, hz1, hz2⟩ := info_parts ruleInfo
  have bA := (Below.refl w.heap.size w).alloc (Nat.le_refl _) (.cells #[.int .i64 e.kind, .int .i64 e.a, .int .i64 e.b, .string ⟨e.name.toArray⟩, .slice pe e.kids.length ce] 25)
  have nA := heap_alloc_new w (.cells #[.int .i64 e.kind, .int .i64 e.a, .int .i64 e.b, .string ⟨e.name.toArray⟩, .slice pe e.kids.length ce] 25)
  generalize hwA : w.alloc (.cells #[.int .i64 e.kind, .int .i64 e.a, .int .i64 e.b, .string ⟨e.name.toArray⟩, .slice pe e.kids.length ce] 25) = wA at *
  have c0 := alive6_any wA (hPT.below bA)
  have HI := hid5 h
  have HER := hid5 hE
  have HL := hid5 hl
  have HLL := hid5 hll
  have HP := hid5 hp0
  have HZ := hid5 hz0
  clear h hE hl hll hPT hnil hp0 hz0
  go_enter Tryz.func7, Tryz.ntmps7
  go_wp2_with fail
  refine c0.mono ?_
  rintro e' w0 ⟨rfl, hb0⟩
  have hbw0 := bA.trans (hb0.mono bA.size)
  have nE0 := (hb0.block _ (lt_of_block nA)).trans nA
  have c1 := mall_any us _ day w0 (HI.out.below hbw0)
  rw [HL.out] at c1
  unfold OutMe at c1
  obtain ⟨er, her⟩ : ∃ x, (mflt l day).1 = x := ⟨_, rfl⟩
  obtain ⟨at0, hat0⟩ : ∃ x : Int, ((mflt l day).2 : Int) = x := ⟨_, rfl⟩
  rw [her, hat0] at c1
  have Her := hid5 her
  clear c0 hwA nA her hat0 hb0
  go_wp2_with fail
  refine c1.mono ?_
  rintro e' w1 ⟨va, rfl, hra, b1⟩
  have hbw1 := hbw0.trans (b1.mono hbw0.size)
  have nE1 := (b1.block _ (lt_of_block nE0)).trans nE0
  have b2 := (Below.refl w1.heap.size w1).alloc (Nat.le_refl _) (.cells #[.int .i64 er, .int .i64 at0] 43)
  have n10 := heap_alloc_new w1 (.cells #[.int .i64 er, .int .i64 at0] 43)
  have hbwB := hbw1.trans (b2.mono hbw1.size)
  have nE := (b2.block _ (lt_of_block nE1)).trans nE1
  have Hra := hid5 (hra.later b2)
  generalize hwB : w1.alloc (.cells #[.int .i64 er, .int .i64 at0] 43) = wB at *
  have HIN := hid5 (HI.out.below hbwB)
  have HEB := hid5 (HER.out.below hbwB)
  obtain ⟨us2, hus2⟩ : ∃ us2, us ++ [(((nm, e) : Ru), Value.slice pe e.kids.length ce)] = us2 := ⟨_, rfl⟩
  have hl2 : us2.length = us.length + 1 := by rw [← hus2]; simp
  have hm2 : us2.map (fun p => p.1) = l ++ [(nm, e)] := by
    rw [← hus2, List.map_append, HL.out]
    rfl
  obtain ⟨er2, her2⟩ : ∃ x, (mflt (l ++ [(nm, e)]) day).1 = x := ⟨_, rfl⟩
  obtain ⟨at2, hat2⟩ : ∃ x : Int, ((mflt (l ++ [(nm, e)]) day).2 : Int) = x := ⟨_, rfl⟩
  obtain ⟨fb, hfb⟩ : ∃ x, meanL (l ++ [(nm, e)]) day = x := ⟨_, rfl⟩
  have HCM : Hid (∀ (W : World) (v7 : Value), Below wB.heap.size wB W → W.ownsRow wB.heap.size 38 6 v7 us2.length (flatR us2) → Calls Tryz.prog 16 #[v7, .int .i64 day] W fun r W' => ∃ vm, r = .returned (.tuple #[vm, .agg #[.int .i64 er2, .int .i64 at2]]) ∧ RowM W' vm fb ∧ Below W.heap.size W W') := fun W v7 hW ho => by
    have := mall_any us2 v7 day W (inR_more hus2 HIN.out HEB.out hW ho (by omega))
    rw [hm2] at this
    unfold OutMe at this
    rw [her2, hat2, hfb] at this
    exact this
  have HL2 := hid5 hl2
  have HUS := hid5 hus2
  have HBW := hid5 hbwB
  have Her2 := hid5 her2
  have Hfb := hid5 hfb
  clear c1 hra b1 b2 nE0 nE1 hbw0 hbw1 hl2 hus2 hm2 her2 hat2 hfb hbwB HI HER HEB bA
  go_wp2_with fail
  clear hwB
  refine wp_region_lastQ (Below wB.heap.size wB) (msq wB.heap.size us us2 (.slice pv us.length cv) day nm #[.int .i64 e.kind, .int .i64 e.a, .int .i64 e.b, .string ⟨e.name.toArray⟩, .slice pe e.kids.length ce] #[.string ⟨nm.toArray⟩, .int .i64 e.kind, .int .i64 e.a, .int .i64 e.b, .string ⟨e.name.toArray⟩, .slice pe e.kids.length ce] er2 at2 fb) ((Below.refl _ _).drew) (by kernel_rfl) (by kernel_rfl) (by kernel_rfl) (by kernel_rfl) 15 (by kernel_rfl) (by kernel_rfl) [22, 23, 24, 25, 26, 27, 28, 29, 30, 31, 21, 32, 33, 12, 11] (by kernel_rfl) (by kernel_rfl) ?_ ?_
  · intro i' s o' L A W2 ho hs hLi hdep hc hJ hkept hhas
    match i', ho, hs, hLi with
    | 0, ho, hs, hLi =>
      cases Option.some.inj ho
      cases Option.some.inj hs
      have hsz := hJ.size
      have hb := (Below.refl W2.heap.size W2).alloc (Nat.le_refl _) (.cells #[] 38)
      have hnew := heap_alloc_new W2 (.cells #[] 38)
      refine wpOp_step rfl (fun K hK => ?_)
      go_simp
      exact hK _ _ ⟨_, rfl, fun _ => ⟨_, rfl, hnew, hsz⟩, hJ.trans (hb.mono hJ.size), fun j u _ _ _ h => msq_below (fun k hk => (Bool.or_eq_false_iff.1 hk).2) hb j u h⟩
    | 1, ho, hs, hLi =>
      cases Option.some.inj ho
      cases Option.some.inj hs
      have h0 : A.tmps[0]?.getD undef = .slice pv us.length cv := (gd A 0).trans (hkept 0 (by kernel_rfl))
      refine wpOp_step rfl (fun K hK => ?_)
      go_simp
      exact hK _ _ ⟨_, rfl, rfl, hJ, fun j u _ _ _ h => msq_below (fun k hk => (Bool.or_eq_false_iff.1 hk).2) (Below.refl _ _) j u h⟩
    | 2, ho, hs, hLi =>
      cases Option.some.inj ho
      cases Option.some.inj hs
      have no7 : L 7 = true → False := fun h => by
        have := hc 7 _ rfl h ⟨2, .data⟩ (by simp) rfl
        rw [hLi] at this; cases this
      have no9 : L 9 = true → False := fun h => no7 (hc 9 _ rfl h ⟨7, .data⟩ (by simp) rfl)
      have no10 : L 10 = true → False := fun h => no9 (hc 10 _ rfl h ⟨9, .data⟩ (by simp) rfl)
      have no11 : L 11 = true → False := fun h => no10 (hc 11 _ rfl h ⟨10, .data⟩ (by simp) rfl)
      have no14 : L 14 = true → False := fun h => no11 (hc 14 _ rfl h ⟨11, .data⟩ (by simp) rfl)
      have hjs : ∀ j, j < 15 → L j = true → j ≠ 7 ∧ j ≠ 9 ∧ j ≠ 10 ∧ j ≠ 11 ∧ j < 14 := fun j hj hL => ⟨fun e => no7 (e ▸ hL), fun e => no9 (e ▸ hL), fun e => no10 (e ▸ hL), fun e => no11 (e ▸ hL), by
        have : j ≠ 14 := fun e => no14 (e ▸ hL)
        omega⟩
      obtain ⟨g, e22, hh, hB⟩ := hhas 0 22 rfl (hdep ⟨0, .data⟩ (by simp) rfl) hLi
      have x22 : A.eval (.tmp 22) = .slice (some ⟨g, 0, none⟩) 0 0 := e22
      have e23 : A.eval (.tmp 23) = .slice pv us.length cv := hhas 1 23 rfl (hdep ⟨1, .data⟩ (by simp) rfl)
      have own0 : W2.ownsRow wB.heap.size 38 6 (.slice (some ⟨g, 0, none⟩) 0 0) 0 [] := ⟨by simp, .inr ⟨g, 0, #[], rfl, hB, hh, Nat.le_refl _, by unfold maxLen; omega, by simp, by simp⟩⟩
      refine wpOp_step rfl (fun K hK => ?_)
      show Oper.wp _ _ _ _ _ _
      refine wp_append_in _ _ rfl wB.heap.size i0 hi HZ.out hz1 hz2 (.slice (some ⟨g, 0, none⟩) 0 0) 0 [] x22 own0 us pv cv e23 (HIN.out.below hJ) HP.out (by unfold maxLen; omega) (by omega) hJ.size ?_
      intro v' W' hown hgrow
      have hn : W'.ownsRow wB.heap.size 38 6 v' us.length (flatR us) := by simpa using hown
      refine hK _ _ ⟨v', rfl, fun _ => hn, hJ.grown hgrow hJ.size (fun q hq => ?_), fun j u hj hjl hLj hs => msq_grown hgrow (fun q hq => ?_) (fun _ => by simp) (fun e => absurd e hj) (fun _ => .inr ⟨fun h => (Bool.or_eq_false_iff.1 h).2, fun q hq hh' => ?_⟩) (hjs j hjl hLj) u hs⟩
      · have : g = q := Option.some.inj hq
        omega
      · have : g = q := Option.some.inj hq
        subst this
        exact ⟨_, hh⟩
      · have : g = q := Option.some.inj hq
        subst this
        rw [hh] at hh'
        injection hh' with hh'
        injection hh' with e1
        have := congrArg Array.size e1
        simp at this
    | 3, ho, hs, hLi =>
      cases Option.some.inj ho
      cases Option.some.inj hs
      have h1 : A.tmps[1]?.getD undef = .string ⟨nm.toArray⟩ := (gd A 1).trans (hkept 1 (by kernel_rfl))
      refine wpOp_step rfl (fun K hK => ?_)
      go_simp
      exact hK _ _ ⟨_, rfl, rfl, hJ, fun j u _ _ _ h => msq_below (fun k hk => (Bool.or_eq_false_iff.1 hk).2) (Below.refl _ _) j u h⟩
    | 4, ho, hs, hLi =>
      cases Option.some.inj ho
      cases Option.some.inj hs
      have x6 : A.eval (.tmp 6) = .pointer (some ⟨w.heap.size, 0, none⟩) := hkept 6 (by kernel_rfl)
      have nW := (hJ.block _ (lt_of_block nE)).trans nE
      refine wpOp_step rfl (fun K hK => ?_)
      show Oper.wp _ _ _ _ _ _
      refine wp_load_row 25 _ rfl _ x6 _ _ _ _ nW exprType5 rfl (by kernel_rfl) ?_
      exact hK _ _ ⟨_, rfl, rfl, hJ, fun j u _ _ _ h => msq_below (fun k hk => (Bool.or_eq_false_iff.1 hk).2) (Below.refl _ _) j u h⟩
    | 5, ho, hs, hLi =>
      cases Option.some.inj ho
      cases Option.some.inj hs
      have h25 : A.tmps[25]?.getD undef = .string ⟨nm.toArray⟩ := (gd A 25).trans (hhas 3 25 rfl (hdep ⟨3, .data⟩ (by simp) rfl))
      have h26 : A.tmps[26]?.getD undef = .agg #[.int .i64 e.kind, .int .i64 e.a, .int .i64 e.b, .string ⟨e.name.toArray⟩, .slice pe e.kids.length ce] := (gd A 26).trans (hhas 4 26 rfl (hdep ⟨4, .data⟩ (by simp) rfl))
      refine wpOp_step rfl (fun K hK => ?_)
      go_simp
      exact hK _ _ ⟨_, rfl, rfl, hJ, fun j u _ _ _ h => msq_below (fun k hk => (Bool.or_eq_false_iff.1 hk).2) (Below.refl _ _) j u h⟩
    | 6, ho, hs, hLi =>
      cases Option.some.inj ho
      cases Option.some.inj hs
      have h27 : A.tmps[27]?.getD undef = .agg #[.string ⟨nm.toArray⟩, .int .i64 e.kind, .int .i64 e.a, .int .i64 e.b, .string ⟨e.name.toArray⟩, .slice pe e.kids.length ce] := (gd A 27).trans (hhas 5 27 rfl (hdep ⟨5, .data⟩ (by simp) rfl))
      have hsz := hJ.size
      have hb := (Below.refl W2.heap.size W2).alloc (Nat.le_refl _) (.cells #[.string ⟨nm.toArray⟩, .int .i64 e.kind, .int .i64 e.a, .int .i64 e.b, .string ⟨e.name.toArray⟩, .slice pe e.kids.length ce] 38)
      have hnew := heap_alloc_new W2 (.cells #[.string ⟨nm.toArray⟩, .int .i64 e.kind, .int .i64 e.a, .int .i64 e.b, .string ⟨e.name.toArray⟩, .slice pe e.kids.length ce] 38)
      refine wpOp_step rfl (fun K hK => ?_)
      go_simp
      exact hK _ _ ⟨_, rfl, fun _ => ⟨_, rfl, hnew⟩, hJ.trans (hb.mono hJ.size), fun j u _ _ _ h => msq_below (fun k hk => (Bool.or_eq_false_iff.1 hk).2) hb j u h⟩
    | 7, ho, hs, hLi =>
      cases Option.some.inj ho
      cases Option.some.inj hs
      have no9 : L 9 = true → False := fun h => by
        have := hc 9 _ rfl h ⟨7, .data⟩ (by simp) rfl
        rw [hLi] at this; cases this
      have no10 : L 10 = true → False := fun h => no9 (hc 10 _ rfl h ⟨9, .data⟩ (by simp) rfl)
      have no11 : L 11 = true → False := fun h => no10 (hc 11 _ rfl h ⟨10, .data⟩ (by simp) rfl)
      have no14 : L 14 = true → False := fun h => no11 (hc 14 _ rfl h ⟨11, .data⟩ (by simp) rfl)
      have hjs : ∀ j, j < 15 → j ≠ 7 → L j = true → j ≠ 7 ∧ j ≠ 9 ∧ j ≠ 10 ∧ j ≠ 11 ∧ j < 14 := fun j hj h7 hL => ⟨h7, fun e => no9 (e ▸ hL), fun e => no10 (e ▸ hL), fun e => no11 (e ▸ hL), by
        have : j ≠ 14 := fun e => no14 (e ▸ hL)
        omega⟩
      have hL2 := (hdep ⟨2, .data⟩ (by simp) rfl)
      have own2 := hhas 2 24 rfl hL2 hLi
      obtain ⟨g, e28, hh⟩ := hhas 6 28 rfl (hdep ⟨6, .data⟩ (by simp) rfl) hLi
      have x28 : A.eval (.tmp 28) = .slice (some ⟨g, 0, none⟩) 1 1 := e28
      have hlo := own2.lt
      have hty : ∀ q, (A.tmps.getD 24 undef).ownBlock = some q → ∃ cur, W2.heap[q]? = some (.cells cur 38 (0, 0)) := fun q hq => by
        obtain ⟨_, ho2⟩ := own2
        rcases ho2 with ⟨e2, _⟩ | ⟨gb, cap, cur, e2, _, hhb, _⟩
        · rw [e2] at hq; cases hq
        · rw [e2] at hq
          have e3 : gb = q := Option.some.inj hq
          subst e3
          exact ⟨cur, hhb⟩
      refine wpOp_step rfl (fun K hK => ?_)
      show Oper.wp _ _ _ _ _ _
      refine wp_append_own W2 _ _ 22 rfl wB.heap.size 38 i0 _ 6 80 rulesType hi HZ.out hz1 hz2 rfl (by decide) (A.tmps.getD 24 undef) us.length (flatR us) rfl own2 ⟨g, 0, none⟩ 1 1 #[.string ⟨nm.toArray⟩, .int .i64 e.kind, .int .i64 e.a, .int .i64 e.b, .string ⟨e.name.toArray⟩, .slice pe e.kids.length ce].toList x28 rfl ?c1 ?c2 ?c3 ?c4 ?c5 ?_
      case c1 =>
        intro k u' hk'
        match k, hk' with
        | 0, hk' => cases hk'; exact (cell_of_row _ _ 0 _ _ _ hh).trans rfl
        | 1, hk' => cases hk'; exact (cell_of_row _ _ 1 _ _ _ hh).trans rfl
        | 2, hk' => cases hk'; exact (cell_of_row _ _ 2 _ _ _ hh).trans rfl
        | 3, hk' => cases hk'; exact (cell_of_row _ _ 3 _ _ _ hh).trans rfl
        | 4, hk' => cases hk'; exact (cell_of_row _ _ 4 _ _ _ hh).trans rfl
        | 5, hk' => cases hk'; exact (cell_of_row _ _ 5 _ _ _ hh).trans rfl
        | k + 6, hk' => simp at hk'
      case c2 =>
        intro u hu
        simp only [List.mem_cons, List.not_mem_nil, or_false] at hu
        rcases hu with rfl | rfl | rfl | rfl | rfl | rfl <;> rfl
      case c3 => unfold maxLen; omega
      case c4 => omega
      case c5 => exact hJ.size
      intro v' W' hown hgrow _
      have hn : W'.ownsRow wB.heap.size 38 6 v' us2.length (flatR us2) := by
        rw [HL2.out, ← HUS.out, flatR_snoc]
        exact hown
      exact hK _ _ ⟨v', rfl, hn, hJ.grown hgrow hJ.size (fun q hq => (hlo q hq).1), fun j u hj hjl hLj hs => msq_grown hgrow hty (fun _ => by simp [hL2]) (fun _ => by simp) (fun _ => .inl (by simp)) (hjs j hjl hj hLj) u hs⟩
    | 8, ho, hs, hLi =>
      cases Option.some.inj ho
      cases Option.some.inj hs
      have h3 : A.tmps[3]?.getD undef = .int .i64 day := (gd A 3).trans (hkept 3 (by kernel_rfl))
      refine wpOp_step rfl (fun K hK => ?_)
      go_simp
      exact hK _ _ ⟨_, rfl, rfl, hJ, fun j u _ _ _ h => msq_below (fun k hk => (Bool.or_eq_false_iff.1 hk).2) (Below.refl _ _) j u h⟩
    | 9, ho, hs, hLi =>
      cases Option.some.inj ho
      cases Option.some.inj hs
      have own7 := hhas 7 29 rfl (hdep ⟨7, .data⟩ (by simp) rfl)
      obtain ⟨v7, e29⟩ : ∃ v, A.tmps.getD 29 undef = v := ⟨_, rfl⟩
      rw [e29] at own7
      have h29 : A.tmps[29]?.getD undef = v7 := (gd A 29).trans e29
      have h30 : A.tmps[30]?.getD undef = .int .i64 day := (gd A 30).trans (hhas 8 30 rfl (hdep ⟨8, .data⟩ (by simp) rfl))
      have cM := HCM.out W2 v7 hJ own7
      refine wpOp_step rfl (fun K hK => ?_)
      go_simp
      refine cM.mono ?_
      rintro e' W' ⟨vm, rfl, hrow, hb'⟩
      exact hK _ _ ⟨_, rfl, ⟨vm, rfl, hrow⟩, hJ.trans (hb'.mono hJ.size), fun j u _ _ _ h => msq_below (fun k hk => (Bool.or_eq_false_iff.1 hk).2) hb' j u h⟩
    | 10, ho, hs, hLi =>
      cases Option.some.inj ho
      cases Option.some.inj hs
      obtain ⟨vm, e31, hrow⟩ := hhas 9 31 rfl (hdep ⟨9, .data⟩ (by simp) rfl)
      have h31 : A.tmps[31]?.getD undef = .tuple #[vm, .agg #[.int .i64 er2, .int .i64 at2]] := (gd A 31).trans e31
      refine wpOp_step rfl (fun K hK => ?_)
      go_simp
      exact hK _ _ ⟨_, rfl, ⟨vm, rfl, hrow⟩, hJ, fun j u _ _ _ h => msq_below (fun k hk => (Bool.or_eq_false_iff.1 hk).2) (Below.refl _ _) j u h⟩
    | 11, ho, hs, hLi =>
      cases Option.some.inj ho
      cases Option.some.inj hs
      obtain ⟨vm, e21, hrow⟩ := hhas 10 21 rfl (hdep ⟨10, .data⟩ (by simp) rfl)
      have h21 : A.tmps[21]?.getD undef = .tuple #[vm, .agg #[.int .i64 er2, .int .i64 at2]] := (gd A 21).trans e21
      refine wpOp_step rfl (fun K hK => ?_)
      go_simp
      exact hK _ _ ⟨_, rfl, hrow, hJ, fun j u _ _ _ h => msq_below (fun k hk => (Bool.or_eq_false_iff.1 hk).2) (Below.refl _ _) j u h⟩
    | 12, ho, hs, hLi =>
      cases Option.some.inj ho
      cases Option.some.inj hs
      obtain ⟨vm, e21, _⟩ := hhas 10 21 rfl (hdep ⟨10, .data⟩ (by simp) rfl)
      have h21 : A.tmps[21]?.getD undef = .tuple #[vm, .agg #[.int .i64 er2, .int .i64 at2]] := (gd A 21).trans e21
      refine wpOp_step rfl (fun K hK => ?_)
      go_simp
      exact hK _ _ ⟨_, rfl, rfl, hJ, fun j u _ _ _ h => msq_below (fun k hk => (Bool.or_eq_false_iff.1 hk).2) (Below.refl _ _) j u h⟩
    | 13, ho, hs, hLi =>
      cases Option.some.inj ho
      cases Option.some.inj hs
      have hsz := hJ.size
      have hb := (Below.refl W2.heap.size W2).alloc (Nat.le_refl _) (.cells #[.int .i64 0, .int .i64 0] 43)
      have hnew := heap_alloc_new W2 (.cells #[.int .i64 0, .int .i64 0] 43)
      refine wpOp_step rfl (fun K hK => ?_)
      go_simp
      exact hK _ _ ⟨_, rfl, ⟨_, rfl, hsz, hnew⟩, hJ.trans (hb.mono hJ.size), fun j u _ _ _ h => msq_below (fun k hk => (Bool.or_eq_false_iff.1 hk).2) hb j u h⟩
    | 14, ho, hs, hLi =>
      cases Option.some.inj ho
      cases Option.some.inj hs
      have hrow := hhas 11 32 rfl (hdep ⟨11, .data⟩ (by simp) rfl)
      obtain ⟨vm, e32⟩ : ∃ v, A.tmps.getD 32 undef = v := ⟨_, rfl⟩
      rw [e32] at hrow
      have h32 : A.tmps[32]?.getD undef = vm := (gd A 32).trans e32
      refine wpOp_step rfl (fun K hK => ?_)
      go_simp
      exact hK _ _ ⟨_, rfl, hrow, hJ, fun j u _ _ _ h => msq_below (fun k hk => (Bool.or_eq_false_iff.1 hk).2) (Below.refl _ _) j u h⟩
    | kk + 15, ho, hs, hLi => simp at hs
  · intro o' L W2 A ho hL hJ hhas hkept hput
    obtain ⟨g12, e12, b12, k12⟩ := hhas 13 12 rfl
    have e33 := hhas 12 33 rfl
    have hrb := hhas 14 11 rfl
    obtain ⟨x22, e22⟩ : ∃ x, A.tmps.getD 22 undef = x := ⟨_, rfl⟩
    obtain ⟨x23, e23⟩ : ∃ x, A.tmps.getD 23 undef = x := ⟨_, rfl⟩
    obtain ⟨x24, e24⟩ : ∃ x, A.tmps.getD 24 undef = x := ⟨_, rfl⟩
    obtain ⟨x25, e25⟩ : ∃ x, A.tmps.getD 25 undef = x := ⟨_, rfl⟩
    obtain ⟨x26, e26⟩ : ∃ x, A.tmps.getD 26 undef = x := ⟨_, rfl⟩
    obtain ⟨x27, e27⟩ : ∃ x, A.tmps.getD 27 undef = x := ⟨_, rfl⟩
    obtain ⟨x28, e28⟩ : ∃ x, A.tmps.getD 28 undef = x := ⟨_, rfl⟩
    obtain ⟨x29, e29⟩ : ∃ x, A.tmps.getD 29 undef = x := ⟨_, rfl⟩
    obtain ⟨x30, e30⟩ : ∃ x, A.tmps.getD 30 undef = x := ⟨_, rfl⟩
    obtain ⟨x31, e31⟩ : ∃ x, A.tmps.getD 31 undef = x := ⟨_, rfl⟩
    obtain ⟨x21, e21⟩ : ∃ x, A.tmps.getD 21 undef = x := ⟨_, rfl⟩
    obtain ⟨x32, e32⟩ : ∃ x, A.tmps.getD 32 undef = x := ⟨_, rfl⟩
    obtain ⟨vb, e11⟩ : ∃ x, A.tmps.getD 11 undef = x := ⟨_, rfl⟩
    rw [e11] at hrb
    have hA : A = putAll [(22, x22), (23, x23), (24, x24), (25, x25), (26, x26), (27, x27), (28, x28), (29, x29), (30, x30), (31, x31), (21, x21), (32, x32), (33, .agg #[.int .i64 er2, .int .i64 at2]), (12, .pointer (some ⟨g12, 0, none⟩)), (11, vb)] _ := hput _ (by kernel_rfl) (fun j s v hj => match j, hj with
      | 0, hj => by cases Option.some.inj hj; exact e22
      | 1, hj => by cases Option.some.inj hj; exact e23
      | 2, hj => by cases Option.some.inj hj; exact e24
      | 3, hj => by cases Option.some.inj hj; exact e25
      | 4, hj => by cases Option.some.inj hj; exact e26
      | 5, hj => by cases Option.some.inj hj; exact e27
      | 6, hj => by cases Option.some.inj hj; exact e28
      | 7, hj => by cases Option.some.inj hj; exact e29
      | 8, hj => by cases Option.some.inj hj; exact e30
      | 9, hj => by cases Option.some.inj hj; exact e31
      | 10, hj => by cases Option.some.inj hj; exact e21
      | 11, hj => by cases Option.some.inj hj; exact e32
      | 12, hj => by cases Option.some.inj hj; exact e33
      | 13, hj => by cases Option.some.inj hj; exact e12
      | 14, hj => by cases Option.some.inj hj; exact e11
      | kk + 15, hj => by simp at hj)
    cases Option.some.inj ho
    have hx : A.eval (.tmp 12) = .pointer (some ⟨g12, 0, none⟩) := e12
    have hy : A.eval (.tmp 33) = .agg #[.int .i64 er2, .int .i64 at2] := e33
    have n10' := (hJ.block _ (lt_of_block n10)).trans n10
    have ng : g12 ≠ w1.heap.size := fun e => by have := lt_of_block n10; omega
    have b15 := below_setRow hJ b12 #[.int .i64 er2, .int .i64 at2]
    have k12' := setRow_heap _ _ _ #[.int .i64 er2, .int .i64 at2] _ _ k12
    have k10' := (setRow_other W2 g12 _ #[.int .i64 er2, .int .i64 at2] (fun e => ng e.symm)).trans n10'
    have hrb' : RowM (W2.setRow g12 #[.int .i64 er2, .int .i64 at2]) vb fb := hrb.apart k12
    refine wpOp_step rfl (fun K hK => ?_)
    show Oper.wp _ _ _ _ _ _
    refine wp_store_row 43 _ _ rfl _ _ hx hy _ _ k12 (by kernel_rfl) (by simp) (by simp [Value.oneCell']) ?_
    refine hK _ _ ⟨⟨undef, rfl⟩, ?_⟩
    change Exit.then _ _ Exit.normal A _
    subst hA
    simp only [putAll_cons, putAll_nil, Act.put, List.setIfInBounds_toArray, List.set_cons_succ, List.set_cons_zero]
    clear hK hx hy hput hhas hkept e12 e33 k12 n10' hrb
    generalize W2.setRow g12 #[.int .i64 er2, .int .i64 at2] = W5 at *
    have hra5 := Hra.out.later b15
    have hbw5 := HBW.out.trans (b15.mono HBW.out.size)
    have z10 := (cell_of_row _ _ 0 _ _ _ k10').trans rfl
    have z12 := (cell_of_row _ _ 0 _ _ _ k12').trans rfl
    have HBF := hid5 hbw5
    clear Hra b15 hbw5 hJ b12 ng k10' k12' HCM HIN HBW HUS n10 nE
    by_cases h1 : er = 0
    · by_cases h2 : er2 = 0
      · subst h1 h2
        have hlb := meanL_len Her2.out
        have hla := meanL_len Her.out
        rw [HLL.out] at hla
        rw [Hfb.out, List.length_append, HLL.out] at hlb
        obtain ⟨pa, ca, rfl, ha40, hrowa⟩ := hra5
        obtain ⟨pb, cb, rfl, hb40, hrowb⟩ := hrb'
        have hsub : RowM W5 (.slice pb us.length cb) (meanL l day) := ⟨pb, cb, by rw [hla], ⟨ha40.1, by
          have := hb40.2
          rw [hlb] at this
          rw [hla]
          simp at this
          omega⟩, fun i f hi => hrowb i f (by rw [← Hfb.out]; exact meanL_more Her.out Her2.out hi)⟩
        have hA : RowM W5 (.slice pa us.length ca) (meanL l day) := ⟨pa, ca, by rw [hla], ha40, hrowa⟩
        have d3 := rsame_true _ _ _ W5 hA hsub
        have hcb : us.length + 1 ≤ cb := by
          have := hb40.2
          rw [hlb] at this
          simpa using this
        have h40 : us.length ≤ 40 := by rw [← hla]; exact ha40.1
        rw [hla]
        rw [show fb.length = us.length + 1 by simpa using hlb]
        have hcI : (us.length : Int) ≤ (cb : Int) := by omega
        have hnI : (us.length : Int) ≤ 40 := by omega
        clear hA hsub hrowa hrowb ha40 hb40 hla hlb Her Her2 Hfb
        go_wp2_with fail
        refine d3.mono ?_
        rintro e' w5 ⟨rfl, b5⟩
        have hb5 := HBF.out.trans (b5.mono HBF.out.size)
        clear d3 b5 z10 z12
        go_wp2_with fail
        go_ret
        exact ⟨rfl, hb5⟩
      · have h2' : (er2 != 0) = true := by simpa using h2
        subst h1
        clear h2 hra5 hrb'
        go_wp2_with fail
        go_ret
        exact ⟨rfl, HBF.out⟩
    · have h1' : (er != 0) = true := by simpa using h1
      clear h1 hra5 hrb'
      go_wp2_with fail
      go_ret
      exact ⟨rfl, HBF.out⟩
end Go.Proofs.YtllcpoibnmhghaaGreatDoor
