/- What the document's Same comes to at two rows of the same masks: true. Written by genrmi.py. -/
import Derived.Test.YtjllbklkaalafaaTa44
import Derived.Test.YtjllbklkaalafaaTa31
import Derived.Test.YtjllbklkaalafaaTa39
import Derived.Laws.StructEq
import Derived.Test.YtjllbklkaalafaaTa16
import Derived.Lib.SmallJoins
import Derived.OpenShut
namespace Go.Proofs.Ytjllbklkaalafaa
open Go.RowKit Lx Msk
theorem neq_same (f : Nat → Bool) (w : World) : (binOp .neq 58 (.agg (mv f)) (.agg (mv f))).run Try.prog w = .ok (.bool false) w := by
  rw [neq_mask, eqm_true fun _ _ => rfl]
  rfl
theorem RowM.below {w w' : World} {v : Value} {fs : List (Nat → Bool)} (h : RowM w v fs) (hb : Below w.heap.size w w') : RowM w' v fs := by
  obtain ⟨p, c, h1, h2, h3⟩ := h
  refine ⟨p, c, h1, h2, fun i f hi => ?_⟩
  obtain ⟨g, o, e, hr⟩ := h3 i f hi
  exact ⟨g, o, e, range_later hr hb⟩
set_option maxRecDepth 100000 in
set_option maxHeartbeats 1000000 in
theorem rsame_true (fs : List (Nat → Bool)) (va vb : Value) (w : World) (h : RowM w va fs) (h' : RowM w vb fs) :
    Calls Try.prog 12 #[va, vb] w fun e w' => e = .returned (.bool true) ∧ Below w.heap.size w w' := by
  obtain ⟨p, c, rfl, hl, hrow⟩ := h
  obtain ⟨p', c', rfl, _, hrow'⟩ := h'
  by_cases hn : fs = []
  · subst hn
    clear hrow hrow'
    go_enter Try.func12, Try.ntmps12
    go_wp2_with fail
    refine wp_loop_rounds 1 ?_
    rw [rounds_succ]
    go_wp2_with fail
    go_ret
    exact ⟨rfl, Below.refl _ _⟩
  · obtain ⟨f0, hf0⟩ : ∃ f, fs[0]? = some f := ⟨fs[0]'(List.length_pos_iff.2 hn), List.getElem?_eq_getElem _⟩
    obtain ⟨g, o, rfl, _⟩ := hrow 0 f0 hf0
    obtain ⟨g', o', rfl, _⟩ := hrow' 0 f0 hf0
    have HC := hid5 hrow
    have HC' := hid5 hrow'
    have hlI : (fs.length : Int) ≤ 40 := by omega
    clear hrow hrow' hn hf0
    go_enter Try.func12, Try.ntmps12
    go_wp2_with fail
    go_loopw [5, 13] (fun _ i wr => ∃ k : Nat, k ≤ fs.length ∧ i = .int .i64 k ∧ Below w.heap.size w wr) (fun _ i _ => fs.length - (intOf i).toNat)
    case atStart => exact ⟨0, Nat.zero_le _, rfl, Below.refl _ _⟩
    case round =>
      obtain ⟨k, hk, rfl, hbel⟩ := hrel
      by_cases hlt : k < fs.length
      · obtain ⟨f, hf⟩ : ∃ f, fs[k]? = some f := ⟨fs[k], List.getElem?_eq_getElem hlt⟩
        obtain ⟨q, x, e, hr⟩ := HC.out k f hf
        cases e
        obtain ⟨q, x, e, hr'⟩ := HC'.out k f hf
        cases e
        have HR := hid5 (range_later hr hbel)
        have HR' := hid5 (range_later hr' hbel)
        have hi0 : (0 : Int) ≤ (k : Int) := by omega
        have hi1 : (k : Int) < (fs.length : Int) := by omega
        clear hr hr' hf HC HC'
        go_wp2_with fail
        refine wp_region_lastK (Below wr.heap.size wr) ((Below.refl _ _).drew) (by kernel_rfl) (by kernel_rfl) (by kernel_rfl) (by kernel_rfl) 8 (by kernel_rfl) (by kernel_rfl) [(16, .slice (some ⟨g, o, none⟩) fs.length c), (17, .int .i64 (k : Int)), (18, .pointer (some ⟨g, o + k * 23, none⟩)), (19, .agg (mv f)), (20, .slice (some ⟨g', o', none⟩) fs.length c'), (21, .int .i64 (k : Int)), (22, .pointer (some ⟨g', o' + k * 23, none⟩)), (23, .agg (mv f))] (by kernel_rfl) (by kernel_rfl) ?_ ?_
        · intro i' s v o' L A W2 ho hv hdep hJ hkept hhas
          match i', ho, hv with
          | 0, ho, hv =>
            cases Option.some.inj ho
            cases Option.some.inj hv
            have h0 : A.tmps[0]?.getD undef = .slice (some ⟨g, o, none⟩) fs.length c := (gd A 0).trans (hkept 0 (by kernel_rfl))
            refine wpOp_step rfl (fun K hK => ?_)
            go_simp
            exact hK _ _ ⟨rfl, hJ⟩
          | 1, ho, hv =>
            cases Option.some.inj ho
            cases Option.some.inj hv
            have h5 : A.tmps[5]?.getD undef = .int .i64 (k : Int) := (gd A 5).trans (hkept 5 (by kernel_rfl))
            refine wpOp_step rfl (fun K hK => ?_)
            go_simp
            exact hK _ _ ⟨rfl, hJ⟩
          | 2, ho, hv =>
            cases Option.some.inj ho
            cases Option.some.inj hv
            have h16 : A.tmps[16]?.getD undef = .slice (some ⟨g, o, none⟩) fs.length c := (gd A 16).trans (hhas 0 16 _ rfl (hdep ⟨0, .data⟩ (by simp) rfl))
            have h17 : A.tmps[17]?.getD undef = .int .i64 (k : Int) := (gd A 17).trans (hhas 1 17 _ rfl (hdep ⟨1, .data⟩ (by simp) rfl))
            refine wpOp_step rfl (fun K hK => ?_)
            go_simp
            exact hK _ _ ⟨rfl, hJ⟩
          | 3, ho, hv =>
            cases Option.some.inj ho
            cases Option.some.inj hv
            have h18 : A.eval (.tmp 18) = .pointer (some ⟨g, o + k * 23, none⟩) := hhas 2 18 _ rfl (hdep ⟨2, .data⟩ (by simp) rfl)
            refine wpOp_step rfl (fun K hK => ?_)
            show Oper.wp _ _ _ _ _ _
            refine wp_load_mask _ rfl g (o + k * 23) h18 f (range_later HR.out hJ) ?_
            exact hK _ _ ⟨rfl, hJ⟩
          | 4, ho, hv =>
            cases Option.some.inj ho
            cases Option.some.inj hv
            have h1 : A.tmps[1]?.getD undef = .slice (some ⟨g', o', none⟩) fs.length c' := (gd A 1).trans (hkept 1 (by kernel_rfl))
            refine wpOp_step rfl (fun K hK => ?_)
            go_simp
            exact hK _ _ ⟨rfl, hJ⟩
          | 5, ho, hv =>
            cases Option.some.inj ho
            cases Option.some.inj hv
            have h5 : A.tmps[5]?.getD undef = .int .i64 (k : Int) := (gd A 5).trans (hkept 5 (by kernel_rfl))
            refine wpOp_step rfl (fun K hK => ?_)
            go_simp
            exact hK _ _ ⟨rfl, hJ⟩
          | 6, ho, hv =>
            cases Option.some.inj ho
            cases Option.some.inj hv
            have h20 : A.tmps[20]?.getD undef = .slice (some ⟨g', o', none⟩) fs.length c' := (gd A 20).trans (hhas 4 20 _ rfl (hdep ⟨4, .data⟩ (by simp) rfl))
            have h21 : A.tmps[21]?.getD undef = .int .i64 (k : Int) := (gd A 21).trans (hhas 5 21 _ rfl (hdep ⟨5, .data⟩ (by simp) rfl))
            refine wpOp_step rfl (fun K hK => ?_)
            go_simp
            exact hK _ _ ⟨rfl, hJ⟩
          | 7, ho, hv =>
            cases Option.some.inj ho
            cases Option.some.inj hv
            have h22 : A.eval (.tmp 22) = .pointer (some ⟨g', o' + k * 23, none⟩) := hhas 6 22 _ rfl (hdep ⟨6, .data⟩ (by simp) rfl)
            refine wpOp_step rfl (fun K hK => ?_)
            show Oper.wp _ _ _ _ _ _
            refine wp_load_mask _ rfl g' (o' + k * 23) h22 f (range_later HR'.out hJ) ?_
            exact hK _ _ ⟨rfl, hJ⟩
          | kk + 8, ho, hv => simp at hv
        · intro o' W2 A ho hJ hA
          cases Option.some.inj ho
          have h19 : A.tmps[19]?.getD undef = .agg (mv f) := by
            rw [hA]
            simp only [putAll_cons, putAll_nil, Act.put, List.setIfInBounds_toArray, List.set_cons_succ, List.set_cons_zero]
            rfl
          have h23 : A.tmps[23]?.getD undef = .agg (mv f) := by
            rw [hA]
            simp only [putAll_cons, putAll_nil, Act.put, List.setIfInBounds_toArray, List.set_cons_succ, List.set_cons_zero]
            rfl
          have HA := hid5 hA
          have hq := neq_same f
          clear hA
          refine wpOp_step rfl (fun K hK => ?_)
          go_simp
          refine hK _ _ ⟨⟨_, rfl⟩, ?_⟩
          have hA := HA.out
          clear HA hq h19 h23
          change Exit.then _ _ Exit.normal (A.put (some 24) (.bool false)) _
          subst hA
          simp only [putAll_cons, putAll_nil, Act.put, List.setIfInBounds_toArray, List.set_cons_succ, List.set_cons_zero]
          have hbN := hbel.trans (hJ.mono hbel.size)
          clear hK hJ
          go_wp2_with fail
          go_roundw
          case rel => exact ⟨k + 1, by omega, by go_num, hbN⟩
          case measure => simp [intOf]; omega
      · have hi1 : ¬ (k : Int) < (fs.length : Int) := by omega
        clear HC HC'
        go_wp2_with fail
        go_ret
        exact ⟨rfl, hbel⟩
end Go.Proofs.Ytjllbklkaalafaa

/- What the document's Uses comes to. -/
namespace Go.Proofs.Ytjllbklkaalafaa
open Go.RowKit Lx
set_option maxRecDepth 100000 in
set_option maxHeartbeats 2000000 in
theorem refU_any (us : List (Ru × Value)) (v : Value) (r : Int) (w : World) (h : InR w v us) : Calls Try.prog 9 #[v, .int .i64 r] w (OutU (usesL (us.map (fun p => p.1)) r) w) := by
  obtain ⟨l, hl⟩ : ∃ l, us.map (fun p => p.1) = l := ⟨_, rfl⟩
  have hll : l.length = us.length := by rw [← hl, List.length_map]
  obtain ⟨pv, cv, rfl⟩ := h.form
  have hlen := h.len
  have cW := refW_any us _ w h
  rw [refW_same] at cW
  rw [hl] at cW ⊢
  have HNil : Hid (∀ W, Below w.heap.size w W → OutU [] w (.returned (.slice none 0 0)) W) := fun W hW => ⟨_, rfl, ⟨none, 0, rfl, by decide, fun j n hj => by simp at hj⟩, hW⟩
  have HLL := hid5 hll
  have HLe := hid5 hl
  clear hl hll
  by_cases h1 : r < 0
  · have HU : Hid (usesL l r = []) := if_pos (.inl h1)
    clear cW h
    go_enter Try.func9, Try.ntmps9
    go_wp2_with fail
    go_ret
    rw [HU.out]
    exact HNil.out _ (Below.refl _ _)
  by_cases h2 : (us.length : Int) ≤ r
  · have HU : Hid (usesL l r = []) := if_pos (.inr (.inl (by rw [HLL.out]; exact h2)))
    clear cW h
    go_enter Try.func9, Try.ntmps9
    go_wp2_with fail
    go_ret
    rw [HU.out]
    exact HNil.out _ (Below.refl _ _)
  by_cases h3 : (chkW l).1 = 0
  · have HU : Hid (usesL l r = mkL (wars (edgE l) l.length r.toNat) l.length) := (if_neg (by rw [HLL.out]; omega)).trans (usesL_ref h3 (by rw [HLL.out]; omega)).symm
    obtain ⟨h0, _⟩ := chk_lk2 h3
    obtain ⟨h40, _⟩ := wrong_nms h0
    rw [h3] at cW
    generalize (((chkW l).2 : Nat) : Int) = at0 at *
    obtain ⟨rn, hrn⟩ : ∃ rn : Nat, r = (rn : Int) := ⟨r.toNat, by omega⟩
    subst hrn
    have hrt : ((rn : Int)).toNat = rn := by omega
    rw [hrt] at HU
    have hrl : rn < l.length := by rw [HLL.out]; omega
    obtain ⟨i0, hi, hz0, hz1, hz2⟩ := info_parts intInfo5
    have hI40 : (us.length : Int) ≤ 40 := by rw [HLL.out] at h40; omega
    have Hrl := hid5 hrl
    have HI := hid5 h
    clear hrl h40 h h0 hrt h3
    go_enter Try.func9, Try.ntmps9
    go_wp2_with fail
    refine cW.mono ?_
    rintro e w1 ⟨rfl, hb1⟩
    have d1 := reach_any us _ w1 (HI.out.below hb1) (by omega)
    rw [HLe.out] at d1
    clear cW
    go_wp2_with fail
    refine d1.mono ?_
    rintro e w4 ⟨rs, rfl, hst⟩
    have hb4w := hb1.trans (hst.bel.mono hb1.size)
    rw [HLL.out] at Hrl
    have hrl := Hrl.out
    have oi := hst.out hrl
    have hg := hst.rows rn hrl
    clear d1 hst hrl hb1
    have hr0 : (0 : Int) ≤ (rn : Int) := by omega
    generalize rs rn = g at *
    rw [HLL.out] at HU
    generalize wars (edgE l) us.length rn = m at *
    have Hbw := hid5 hb4w
    have Hg := hid5 hg
    clear hg hb4w HNil
    go_wp2_with fail
    go_loopw [5, 6, 7, 28] (fun q _ _ t wr => URel m us.length w w4 q t wr) (fun _ _ _ t _ => us.length - (intOf t).toNat)
    case atStart => exact ⟨0, rfl, by omega, World.ownsRow_nil _ _ _ _, Below.refl _ _⟩
    case round =>
      obtain ⟨j, rfl, hj, hown, hbr⟩ := hrel
      have hj0 : (0 : Int) ≤ (j : Int) := by omega
      have hml := mkL_len m j
      by_cases hlt : j < us.length
      · have hlt' : (j : Int) < (us.length : Int) := by omega
        have km := (cell_of_row _ _ j _ _ _ ((hbr.block _ (lt_of_block Hg.out)).trans Hg.out)).trans (bcells_at hlt)
        have hst := mkL_succ m j
        cases hmj : m j with
        | true =>
          rw [hmj] at km
          rw [if_pos hmj] at hst
          obtain ⟨pq, cq, hqf⟩ := row_form hown
          have bA := (Below.refl wr.heap.size wr).alloc (Nat.le_refl _) (.cells #[.int .i64 (j : Int)] 3)
          have hx4 := heap_alloc_new wr (.cells #[.int .i64 (j : Int)] 3)
          have hownA := owns_keep (w' := wr.alloc (.cells #[.int .i64 (j : Int)] 3)) hown fun b hb => bA.block b (hown.lt b hb).2
          have hbA := hbr.trans (bA.mono hbr.size)
          have hsz := hbr.size
          have hsA : (wr.alloc (.cells #[.int .i64 (j : Int)] 3)).heap.size = wr.heap.size + 1 := by simp
          have Hst := hid5 hst
          subst hqf
          clear hown hst hmj bA hbr
          generalize mkL m j = ns at *
          generalize hwA : wr.alloc (.cells #[.int .i64 (j : Int)] 3) = wA at *
          go_wp2_with (at_builtin; refine wpList_append_own _ rfl _ _ 28 rfl w4.heap.size 3 i0 (.int .i64 0) 1 8 intsType5 hi hz0 hz1 hz2 rfl (by decide) (.slice pq ns.length cq) ns.length (icells ns) rfl hownA ⟨wr.heap.size, 0, none⟩ 1 1 [.int .i64 (j : Int)] rfl rfl ?c1 ?c2 ?c3 ?c4 ?c5 ?_)
          case c1 =>
            intro k u' hk'
            match k, hk' with
            | 0, hk' => simp at hk'; subst hk'; exact (cell_of_row _ _ _ _ _ _ hx4).trans rfl
          case c2 => intro u hu; simp at hu; subst hu; rfl
          case c3 => unfold maxLen; omega
          case c4 => omega
          case c5 => omega
          intro v' w5 hown' hgrow _
          have hlo := hownA.lt
          have hb5 : Below w4.heap.size w4 w5 := hbA.grown hgrow (by omega) (fun q hq => (hlo q hq).1)
          have HN : Hid (URel m us.length w w4 v' (.int .i64 ((j + 1 : Nat) : Int)) w5) := by
            refine ⟨j + 1, rfl, by omega, ?_, hb5⟩
            rw [Hst.out, icells_snoc]
            simpa using hown'
          clear hown' hgrow hownA hx4 hwA hbA hb5 Hst hlo km
          go_wp2_with fail
          go_roundw
          case rel => first
            | exact HN.out
            | exact ⟨_, _, _, _, HN.out, rfl, rfl, rfl, rfl⟩
          case measure => simp [intOf]; omega
        | false =>
          rw [hmj] at km
          rw [if_neg (by rw [hmj]; decide)] at hst
          have HN : Hid (URel m us.length w w4 u5 (.int .i64 ((j + 1 : Nat) : Int)) wr) := ⟨j + 1, rfl, by omega, by rw [hst]; exact hown, hbr⟩
          clear hown hst hmj hbr
          go_wp2_with fail
          go_roundw
          case rel => first
            | exact HN.out
            | exact ⟨_, _, _, _, HN.out, rfl, rfl, rfl, rfl⟩
          case measure => simp [intOf]; omega
      · have hlt' : ¬ (j : Int) < (us.length : Int) := by omega
        have ej : j = us.length := by omega
        have HO : Hid (OutU (usesL l (rn : Int)) w (.returned u5) wr) := by
          rw [HU.out, ← ej]
          exact ⟨_, rfl, rowI_of_owns hown (by omega), (Hbw.out).trans (hbr.mono (Hbw.out).size)⟩
        clear hown hbr Hg ej hml
        go_wp2_with fail
        go_ret
        exact HO.out
  · have HU : Hid (usesL l r = []) := if_pos (.inr (.inr h3))
    have hne : ((chkW l).1 != 0) = true := by simpa using h3
    have Hn := HNil
    generalize (chkW l).1 = er at *
    generalize (((chkW l).2 : Nat) : Int) = at0 at *
    clear h h3 HNil
    go_enter Try.func9, Try.ntmps9
    go_wp2_with fail
    refine cW.mono ?_
    rintro e w1 ⟨rfl, hb1⟩
    clear cW
    go_wp2_with fail
    go_ret
    rw [HU.out]
    exact Hn.out _ hb1
end Go.Proofs.Ytjllbklkaalafaa

/- What the law CheckTells comes to. -/
namespace Go.Proofs.Ytjllbklkaalafaa
open Go.RowKit Lx
theorem eqFaultQ (a b : Int) (w : World) : (Op.equalIn 10000 25 (.agg #[.int .i64 a, .int .i64 b]) (.agg #[.int .i64 a, .int .i64 b])).run Try.prog w = .ok true w := by
  rw [run_equalIn_struct w 9999 25 _ _ (by kernel_rfl) (by kernel_rfl)]
  simp [Program.fieldsOf, Try.underlying25, Op.eqFields]
  go_simp
theorem eqlFaultQ (a b : Int) (w : World) : (binOp .eql 25 (.agg #[.int .i64 a, .int .i64 b]) (.agg #[.int .i64 a, .int .i64 b])).run Try.prog w = .ok (.bool true) w := by
  rw [run_eql_struct, eqFaultQ]; simp [Result.andThen]
attribute [local go_sem] eqlFaultQ
set_option maxRecDepth 100000 in
set_option maxHeartbeats 2000000 in
theorem ctells_walk (us : List (Ru × Value)) (v : Value) (r : Int) (w : World) (h : InR w v us) : Calls Try.prog 3 #[v, .int .i64 r] w fun e w' => e = .returned (.bool true) ∧ Below w.heap.size w w' := by
  obtain ⟨l, hl⟩ : ∃ l, us.map (fun p => p.1) = l := ⟨_, rfl⟩
  have c1 := fun W (hW : Below w.heap.size w W) => chk_any us v W (h.below hW)
  have c2 := fun W (hW : Below w.heap.size w W) => refW_any us v W (h.below hW)
  have c3 := fun W (hW : Below w.heap.size w W) => uses_any us v r W (h.below hW)
  have c4 := fun W (hW : Below w.heap.size w W) => refU_any us v r W (h.below hW)
  simp only [refW_same] at c2
  rw [hl] at c1 c2 c3 c4
  generalize (chkW l).1 = er at *
  generalize (((chkW l).2 : Nat) : Int) = at0 at *
  generalize usesL l r = ns at *
  clear hl h
  go_enter Try.func3, Try.ntmps3
  have d1 := c1 w (Below.refl _ _)
  clear c1
  go_wp2_with fail
  refine d1.mono ?_
  rintro e w1 ⟨rfl, b1⟩
  have d2 := c2 w1 b1
  clear d1 c2
  go_wp2_with fail
  refine d2.mono ?_
  rintro e w2 ⟨rfl, b2⟩
  have hb2 := b1.trans (b2.mono b1.size)
  have d3 := c3 w2 hb2
  clear d2 c3 b1 b2
  go_wp2_with fail
  refine d3.mono ?_
  rintro e w3 ⟨va, rfl, hra, b3⟩
  have hb3 := hb2.trans (b3.mono hb2.size)
  have d4 := c4 w3 hb3
  clear d3 c4 b3 hb2
  go_wp2_with fail
  refine d4.mono ?_
  rintro e w4 ⟨vb, rfl, hrb, b4⟩
  have hb4 := hb3.trans (b4.mono hb3.size)
  have d5 := ints_any ns va vb w4 (hra.below b4) hrb
  clear d4 b4 hb3 hra hrb
  go_wp2_with fail
  refine d5.mono ?_
  rintro e w5 ⟨rfl, b5⟩
  have hb5 := hb4.trans (b5.mono hb4.size)
  clear d5 b5 hb4
  go_wp2_with fail
  go_ret
  exact ⟨rfl, hb5⟩
end Go.Proofs.Ytjllbklkaalafaa

/- What the law MeanTells comes to. -/
namespace Go.Proofs.Ytjllbklkaalafaa
open Go.RowKit Lx
theorem faultT6 : Try.prog.underlying 25 = some (.struct (Try.prog.fieldsOf 25)) := by kernel_rfl
attribute [local go_sem] eqlFaultQ
set_option maxRecDepth 100000 in
set_option maxHeartbeats 2000000 in
theorem mtells_walk (us : List (Ru × Value)) (v : Value) (day : Int) (w : World) (h : InR w v us) : Calls Try.prog 4 #[v, .int .i64 day] w fun e w' => e = .returned (.bool true) ∧ Below w.heap.size w w' := by
  obtain ⟨l, hl⟩ : ∃ l, us.map (fun p => p.1) = l := ⟨_, rfl⟩
  have c1 := mall_any us v day w h
  have c2 := fun W (hW : Below w.heap.size w W) => rall_any us v day W (h.below hW)
  rw [hl] at c1 c2
  unfold OutMe at c1 c2
  generalize (mflt l day).1 = er at *
  generalize (((mflt l day).2 : Nat) : Int) = at0 at *
  generalize meanL l day = fs at *
  clear hl h
  go_enter Try.func4, Try.ntmps4
  go_wp2_with fail
  refine c1.mono ?_
  rintro e w1 ⟨va, rfl, hra, b1⟩
  have b1a := b1.alloc b1.size (.cells #[.int .i64 er, .int .i64 at0] 25)
  have n1 := heap_alloc_new w1 (.cells #[.int .i64 er, .int .i64 at0] 25)
  have hra1 := hra.below ((Below.refl w1.heap.size w1).alloc (Nat.le_refl _) (.cells #[.int .i64 er, .int .i64 at0] 25))
  generalize hw2 : w1.alloc (.cells #[.int .i64 er, .int .i64 at0] 25) = w2 at *
  have d2 := c2 w2 b1a
  have Hra := hid5 hra1
  clear c1 c2 b1 hra hra1
  go_wp2_with fail
  refine d2.mono ?_
  rintro e w3 ⟨vb, rfl, hrb, b3⟩
  have hb3 := b1a.trans (b3.mono b1a.size)
  have b3a := hb3.alloc hb3.size (.cells #[.int .i64 er, .int .i64 at0] 25)
  have bx := (Below.refl w3.heap.size w3).alloc (Nat.le_refl _) (.cells #[.int .i64 er, .int .i64 at0] 25)
  have n2 := heap_alloc_new w3 (.cells #[.int .i64 er, .int .i64 at0] 25)
  have n1' := (bx.block _ (by have := lt_of_block n1; have := b3.size; omega)).trans ((b3.block _ (lt_of_block n1)).trans n1)
  generalize hw4 : w3.alloc (.cells #[.int .i64 er, .int .i64 at0] 25) = w4 at *
  have d3 := rsame_true fs va vb w4 ((Hra.out.below b3).below bx) (hrb.below bx)
  clear d2 Hra hrb b3 b1a n1 hw2 bx hb3
  go_wp2_with (first
    | (refine wpList_load_row rfl 25 _ rfl _ rfl _ _ _ _ n1' faultT6 rfl (by kernel_rfl) ?_)
    | (refine wpList_load_row rfl 25 _ rfl _ rfl _ _ _ _ n2 faultT6 rfl (by kernel_rfl) ?_))
  refine d3.mono ?_
  rintro e w5 ⟨rfl, b5⟩
  have hb5 := b3a.trans (b5.mono b3a.size)
  clear d3 b5 b3a n1' n2 hw4
  go_wp2_with fail
  go_ret
  exact ⟨rfl, hb5⟩
end Go.Proofs.Ytjllbklkaalafaa

/- How rules that came in read: a tree of expressions for each, in memory as it is. -/
namespace Go.Proofs.Ytjllbklkaalafaa
open Go.ChangeShapes Go.WideShapes Go.ChangeAt Go.WideMaps Go.WideElems Go.RowKit Go.Joins Lx
variable {H : Type} {enc : TypeId × Value → H} {W : World}

theorem inE : Try.prog.cellsOf 41 = 5 := by kernel_rfl
theorem inR : Try.prog.cellsOf 43 = 6 := by kernel_rfl
theorem inI : Try.prog.cellsOf 3 = 1 := by kernel_rfl
theorem inS : Try.prog.cellsOf 9 = 1 := by kernel_rfl
theorem inL : Try.prog.cellsOf 39 = 1 := by kernel_rfl
theorem in_add (g o n : Nat) : (⟨g, o, none⟩ : Addr).add n = ⟨g, o + n, none⟩ := by
  by_cases h : n = 0
  · subst h; simp [Addr.add]
  · simp [Addr.add, h]
theorem KidsB.up {B : Nat → Prop} : ∀ {d : Nat} {w : World} {sl : Value} {ks : List Ex}, KidsB B d w sl ks → KidsB B (d + 1) w sl ks
  | 0, _, _, _, h => .inl h
  | d + 1, w, sl, ks, h => by
    rcases h with h | ⟨g, o, c, hB, hs, hl, hk⟩
    · exact .inl h
    · refine .inr ⟨g, o, c, hB, hs, hl, fun j k hj => ?_⟩
      obtain ⟨hn, sk, c0, c1, c2, c3, c4, r⟩ := hk j k hj
      exact ⟨hn, sk, c0, c1, c2, c3, c4, KidsB.up r⟩
theorem KidsB.nil (B : Nat → Prop) (d : Nat) (w : World) (p : Option Addr) (c : Nat) : KidsB B d w (.slice p 0 c) [] := by
  cases d with
  | zero => exact ⟨rfl, p, c, rfl⟩
  | succ d => exact .inl ⟨rfl, p, c, rfl⟩
theorem five {α : Type} {l : List α} (h : l.length = 5) : ∃ a b c d e, l = [a, b, c, d, e] := by
  match l, h with
  | [a, b, c, d, e], _ => exact ⟨a, b, c, d, e, rfl⟩
set_option maxRecDepth 100000 in
/-- The five parts of an expression. -/
theorem expr_parts {fuel : Nat} {cs : List Value} {y : DataW H × List MemPlace} (h : DataW.trod enc Try.prog W 0 (fun _ => true) true fuel 41 cs = some y) :
    ∃ (k a b : Int) (s : ByteArray) (sl : Value) (m : Nat) (z : DataW H × List MemPlace), fuel = m + 1 ∧ cs = [.int .i64 k, .int .i64 a, .int .i64 b, .string s, sl] ∧ s.size ≤ maxLen ∧ DataW.trod enc Try.prog W 0 (fun _ => true) true m 39 [sl] = some z := by
  obtain ⟨xs, m, hf, _, hl, hx, hall⟩ := DataW.trod_struct Try.underlying41 h
  rw [inE] at hl
  have hx5 : xs.length = 5 := hx
  obtain ⟨c0, c1, c2, c3, c4, rfl⟩ := five hl
  obtain ⟨x0, x1, x2, x3, x4, rfl⟩ := five hx5
  have h0 : DataW.trod enc Try.prog W 0 (fun _ => true) true m 3 (([c0, c1, c2, c3, c4].drop 0).take (Try.prog.cellsOf 3)) = some x0 := hall 0 _ rfl
  have h1 : DataW.trod enc Try.prog W 0 (fun _ => true) true m 3 (([c0, c1, c2, c3, c4].drop 1).take (Try.prog.cellsOf 3)) = some x1 := hall 1 _ rfl
  have h2 : DataW.trod enc Try.prog W 0 (fun _ => true) true m 3 (([c0, c1, c2, c3, c4].drop 2).take (Try.prog.cellsOf 3)) = some x2 := hall 2 _ rfl
  have h3 : DataW.trod enc Try.prog W 0 (fun _ => true) true m 9 (([c0, c1, c2, c3, c4].drop 3).take (Try.prog.cellsOf 9)) = some x3 := hall 3 _ rfl
  have h4 : DataW.trod enc Try.prog W 0 (fun _ => true) true m 39 (([c0, c1, c2, c3, c4].drop 4).take (Try.prog.cellsOf 39)) = some x4 := hall 4 _ rfl
  rw [inI] at h0 h1 h2
  rw [inS] at h3
  rw [inL] at h4
  obtain ⟨k, e0, _⟩ := DataW.trod_int Try.underlying3 h0
  obtain ⟨a, e1, _⟩ := DataW.trod_int Try.underlying3 h1
  obtain ⟨b, e2, _⟩ := DataW.trod_int Try.underlying3 h2
  obtain ⟨s, e3, _, hs⟩ := DataW.trod_string Try.underlying9 h3
  simp at e0 e1 e2 e3
  subst e0 e1 e2 e3
  exact ⟨k, a, b, s, c4, m, x4, hf, rfl, hs, h4⟩
theorem str_list (s : ByteArray) : (⟨(s.data.toList).toArray⟩ : ByteArray) = s := by simp
set_option maxRecDepth 100000 in
/-- A row of expressions that came in. -/
theorem open_kids : ∀ (fuel : Nat) (cs : List Value) (x : DataW H × List MemPlace), DataW.trod enc Try.prog W 0 (fun _ => true) true fuel 39 cs = some x →
    ∃ (sl : Value) (ks : List Ex), cs = [sl] ∧ KidsB (fun k => k < W.heap.size) fuel W sl ks := by
  intro fuel
  induction fuel using Nat.strongRecOn with
  | ind fuel ih =>
    intro cs x h
    rcases DataW.trod_slice Try.underlying39 h with ⟨e, _⟩ | ⟨a, len, cap, elems, rest, m, hf, e, _, _, hlc, hm, hlen, hel, _⟩
    · exact ⟨_, [], e, KidsB.nil _ _ _ _ _⟩
    · by_cases hz : len = 0
      · subst hz
        exact ⟨_, [], e, KidsB.nil _ _ _ _ _⟩
      · obtain ⟨g, o, s⟩ := a
        have each : ∀ i, i < len → ∃ (k : Ex) (sk : Value), s = none ∧ g < W.heap.size ∧ k.name.length ≤ 9223372036854775807 ∧
            W.cell? ⟨g, o + i * 5, none⟩ = some (.int .i64 k.kind) ∧ W.cell? ⟨g, o + i * 5 + 1, none⟩ = some (.int .i64 k.a) ∧ W.cell? ⟨g, o + i * 5 + 2, none⟩ = some (.int .i64 k.b) ∧
            W.cell? ⟨g, o + i * 5 + 3, none⟩ = some (.string ⟨k.name.toArray⟩) ∧ W.cell? ⟨g, o + i * 5 + 4, none⟩ = some sk ∧ KidsB (fun k => k < W.heap.size) m W sk k.kids := by
          have spot : s = none := by
            have h1 := hel 0 (by omega)
            rw [inE] at h1
            have hy : elems[0]? = some (elems[0]'(by omega)) := List.getElem?_eq_getElem _
            rw [hy, Option.bind_eq_some_iff] at h1
            obtain ⟨cs', hc, ht⟩ := h1
            have q := (World.cells?_some hc).2.2 0 (by omega)
            have hl' := (World.cells?_some hc).2.1
            have e0 : cs'[0]? = some (cs'[0]'(by omega)) := List.getElem?_eq_getElem _
            rw [e0] at q
            have q' := World.cell?_spot q
            simpa [Addr.add] using q'
          subst spot
          intro i hi
          have h1 := hel i hi
          rw [inE] at h1
          have hy : elems[i]? = some (elems[i]'(by omega)) := List.getElem?_eq_getElem _
          rw [hy, Option.bind_eq_some_iff] at h1
          obtain ⟨cs', hc, ht⟩ := h1
          obtain ⟨k, a, b, nm, sl, m', z, hm', hcs, hs, htk⟩ := expr_parts ht
          subst hcs
          have q := (World.cells?_some hc).2.2
          rw [in_add] at q
          have q0 := q 0 (by omega)
          have q1 := q 1 (by omega)
          have q2 := q 2 (by omega)
          have q3 := q 3 (by omega)
          have q4 := q 4 (by omega)
          simp only [in_add, Nat.add_zero] at q0 q1 q2 q3 q4
          obtain ⟨sl', ks, esl, hkk⟩ := ih m' (by omega) [sl] z htk
          have esl' : sl = sl' := by simpa using esl
          subst esl'
          subst hm'
          refine ⟨⟨k, a, b, nm.data.toList, ks⟩, sl, rfl, ?_, ?_, ?_, ?_, ?_, ?_, ?_, hkk.up⟩
          · exact block_lt_of_cell (a := ⟨g, o + i * 5, none⟩) (by simpa using q0)
          · rw [← Lib.size_eq]; unfold maxLen at hs; exact hs
          · simpa using q0
          · simpa using q1
          · simpa using q2
          · rw [str_list]; simpa using q3
          · simpa using q4
        have hs0 : s = none := by obtain ⟨_, _, h, _⟩ := each 0 (by omega); exact h
        have hg0 : g < W.heap.size := by obtain ⟨_, _, _, h, _⟩ := each 0 (by omega); exact h
        subst hs0
        let pick : Nat → Ex := fun i => if h : i < len then Classical.choose (each i h) else ex0
        have hpick : ∀ i (h : i < len), pick i = Classical.choose (each i h) := fun i h => by simp only [pick, h, dif_pos]
        refine ⟨.slice (some ⟨g, o, none⟩) len cap, (List.range len).map pick, e, ?_⟩
        subst hf
        refine .inr ⟨g, o, cap, hg0, by simp, by simp; unfold maxLen at hm; omega, fun j k hj => ?_⟩
        have hjl : j < len := by
          have := (List.getElem?_eq_some_iff.1 hj).1
          simpa using this
        have hk : k = pick j := by
          rw [List.getElem?_map, List.getElem?_range hjl] at hj
          exact (Option.some.inj hj).symm
        rw [hk, hpick j hjl]
        obtain ⟨sk, _, _, h3, h4⟩ := Classical.choose_spec (each j hjl)
        exact ⟨h3, sk, h4⟩
end Go.Proofs.Ytjllbklkaalafaa

/- How rules that came in read: the row of rules. -/
namespace Go.Proofs.Ytjllbklkaalafaa
open Go.ChangeShapes Go.WideShapes Go.ChangeAt Go.WideMaps Go.WideElems Go.RowKit Go.Joins Lx
variable {H : Type} {enc : TypeId × Value → H} {W : World}

theorem six {α : Type} {l : List α} (h : l.length = 6) : ∃ a b c d e f, l = [a, b, c, d, e, f] := by
  match l, h with
  | [a, b, c, d, e, f], _ => exact ⟨a, b, c, d, e, f, rfl⟩
theorem pair2 {α : Type} {l : List α} (h : l.length = 2) : ∃ a b, l = [a, b] := by
  match l, h with
  | [a, b], _ => exact ⟨a, b, rfl⟩
set_option maxRecDepth 100000 in
/-- The parts of a rule. -/
theorem rule_parts {fuel : Nat} {cs : List Value} {y : DataW H × List MemPlace} (h : DataW.trod enc Try.prog W 0 (fun _ => true) true fuel 43 cs = some y) :
    ∃ (nm : ByteArray) (k a b : Int) (s : ByteArray) (sl : Value) (m : Nat) (z : DataW H × List MemPlace), cs = [.string nm, .int .i64 k, .int .i64 a, .int .i64 b, .string s, sl] ∧ nm.size ≤ maxLen ∧ s.size ≤ maxLen ∧ DataW.trod enc Try.prog W 0 (fun _ => true) true m 39 [sl] = some z := by
  obtain ⟨xs, m, hf, _, hl, hx, hall⟩ := DataW.trod_struct Try.underlying43 h
  rw [inR] at hl
  have hx2 : xs.length = 2 := hx
  obtain ⟨c0, c1, c2, c3, c4, c5, rfl⟩ := six hl
  obtain ⟨x0, x1, rfl⟩ := pair2 hx2
  have h0 : DataW.trod enc Try.prog W 0 (fun _ => true) true m 9 (([c0, c1, c2, c3, c4, c5].drop 0).take (Try.prog.cellsOf 9)) = some x0 := hall 0 _ rfl
  have h1 : DataW.trod enc Try.prog W 0 (fun _ => true) true m 41 (([c0, c1, c2, c3, c4, c5].drop 1).take (Try.prog.cellsOf 41)) = some x1 := hall 1 _ rfl
  rw [inS] at h0
  rw [inE] at h1
  obtain ⟨nm, e0, _, hn⟩ := DataW.trod_string Try.underlying9 h0
  obtain ⟨k, a, b, s, sl, m', z, _, e1, hs, ht⟩ := expr_parts h1
  simp at e0 e1
  obtain ⟨q1, q2, q3, q4, q5⟩ := e1
  subst e0 q1 q2 q3 q4 q5
  exact ⟨nm, k, a, b, s, c5, m', z, rfl, hn, hs, ht⟩
set_option maxRecDepth 100000 in
/-- A row of rules that came in. -/
theorem open_rules {r : Reach} {b0 : Nat} {v : Value} {d : DataW H} {p : List MemPlace}
    (hv : Value.okWide Try.prog W r b0 22 v) (h : DataW.Trod enc Try.prog W 0 (fun _ => true) true 22 v d p) : ∃ us, InR W v us := by
  obtain ⟨ao, k0, c0, rfl⟩ := okWide_slice Try.underlying22 hv
  obtain ⟨fuel, hf⟩ := h
  have zero : ∀ (q : Option Addr) (c : Nat), ∃ us, InR W (.slice q 0 c) us := fun q c => ⟨[], .inl ⟨rfl, q, c, rfl⟩, by decide, fun p hp => by cases hp⟩
  rcases DataW.trod_slice Try.underlying22 hf with ⟨e, _⟩ | ⟨a, len, cap, elems, rest, m, _, e, _, _, hlc, hm, hlen, hel, _⟩
  · have e' : Value.slice ao k0 c0 = .slice none 0 0 := by simpa [Value.cells] using e
    rw [e']; exact zero _ _
  · have e' : Value.slice ao k0 c0 = .slice (some a) len cap := by simpa [Value.cells] using e
    rw [e']
    by_cases hz : len = 0
    · subst hz; exact zero _ _
    obtain ⟨g, o, s⟩ := a
    have spot : s = none := by
      have h1 := hel 0 (by omega)
      rw [inR] at h1
      have hy : elems[0]? = some (elems[0]'(by omega)) := List.getElem?_eq_getElem _
      rw [hy, Option.bind_eq_some_iff] at h1
      obtain ⟨cs', hc, ht⟩ := h1
      have q := (World.cells?_some hc).2.2 0 (by omega)
      have hl' := (World.cells?_some hc).2.1
      have e0 : cs'[0]? = some (cs'[0]'(by omega)) := List.getElem?_eq_getElem _
      rw [e0] at q
      have q' := World.cell?_spot q
      simpa [Addr.add] using q'
    subst spot
    have each : ∀ i, i < len → ∃ u : Ru × Value, RuleIn W u ∧
        W.cell? ⟨g, o + i * 6, none⟩ = some (.string ⟨u.1.1.toArray⟩) ∧ W.cell? ⟨g, o + i * 6 + 1, none⟩ = some (.int .i64 u.1.2.kind) ∧ W.cell? ⟨g, o + i * 6 + 2, none⟩ = some (.int .i64 u.1.2.a) ∧ W.cell? ⟨g, o + i * 6 + 3, none⟩ = some (.int .i64 u.1.2.b) ∧
        W.cell? ⟨g, o + i * 6 + 4, none⟩ = some (.string ⟨u.1.2.name.toArray⟩) ∧ W.cell? ⟨g, o + i * 6 + 5, none⟩ = some u.2 := by
      intro i hi
      have h1 := hel i hi
      rw [inR] at h1
      have hy : elems[i]? = some (elems[i]'(by omega)) := List.getElem?_eq_getElem _
      rw [hy, Option.bind_eq_some_iff] at h1
      obtain ⟨cs', hc, ht⟩ := h1
      obtain ⟨nm, k, a, b, x, sl, m', z, hcs, hn, hs, htk⟩ := rule_parts ht
      subst hcs
      have q := (World.cells?_some hc).2.2
      rw [in_add] at q
      have q0 := q 0 (by omega)
      have q1 := q 1 (by omega)
      have q2 := q 2 (by omega)
      have q3 := q 3 (by omega)
      have q4 := q 4 (by omega)
      have q5 := q 5 (by omega)
      simp only [in_add, Nat.add_zero] at q0 q1 q2 q3 q4 q5
      obtain ⟨sl', ks, esl, hkk⟩ := open_kids m' [sl] z htk
      have esl' : sl = sl' := by simpa using esl
      subst esl'
      refine ⟨((nm.data.toList, ⟨k, a, b, x.data.toList, ks⟩), sl), ⟨?_, ?_, m', hkk⟩, ?_, ?_, ?_, ?_, ?_, ?_⟩
      · show nm.data.toList.length ≤ _; rw [← Lib.size_eq]; unfold maxLen at hn; exact hn
      · show x.data.toList.length ≤ _; rw [← Lib.size_eq]; unfold maxLen at hs; exact hs
      · rw [str_list]; simpa using q0
      · simpa using q1
      · simpa using q2
      · simpa using q3
      · rw [str_list]; simpa using q4
      · simpa using q5
    let pick : Nat → Ru × Value := fun i => if h : i < len then Classical.choose (each i h) else (([], ex0), .slice none 0 0)
    have hpick : ∀ i (h : i < len), pick i = Classical.choose (each i h) := fun i h => by simp only [pick, h, dif_pos]
    have hat : ∀ (j : Nat) (u : Ru × Value), ((List.range len).map pick)[j]? = some u → ∃ h : j < len, u = Classical.choose (each j h) := fun j u hj => by
      have hjl : j < len := by
        have := (List.getElem?_eq_some_iff.1 hj).1
        simpa using this
      rw [List.getElem?_map, List.getElem?_range hjl] at hj
      exact ⟨hjl, (Option.some.inj hj).symm.trans (hpick j hjl)⟩
    have hl2 : len < 9223372036854775808 := by unfold maxLen at hm; omega
    refine ⟨(List.range len).map pick, .inr ⟨g, o, cap, by simp, by simpa using hl2, fun j u hj => ?_⟩, by simpa using hl2, fun u hu => ?_⟩
    · obtain ⟨hjl, e1⟩ := hat j u hj
      rw [e1]
      exact (Classical.choose_spec (each j hjl)).2
    · obtain ⟨j, hj⟩ := List.getElem?_of_mem hu
      obtain ⟨hjl, e1⟩ := hat j u hj
      rw [e1]
      exact (Classical.choose_spec (each j hjl)).1
end Go.Proofs.Ytjllbklkaalafaa
