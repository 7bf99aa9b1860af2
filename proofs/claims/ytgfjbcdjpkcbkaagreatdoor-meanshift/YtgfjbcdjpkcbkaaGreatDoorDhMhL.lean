/- The law MeanShift holds at all rules, expressions, minutes and days: shifted twice the same way is shifted by both, and a sum is shifted as its parts are; the condition is on the listed tables of months and of days' names. -/
import Derived.Test.YtgfjbcdjpkcbkaaGreatDoorDh21
import Derived.Test.YtgfjbcdjpkcbkaaGreatDoorDh22
import Derived.SizedLaws
import Derived.Carry
namespace Go.Proofs.YtgfjbcdjpkcbkaaGreatDoor
open Go.ChangeShapes Go.WideShapes Go.ChangeAt Go.WideMaps Go.WideElems Go.RowKit Go.Joins Lx
theorem rules_stayH {H : Type} {enc : TypeId × Value → H} {W W' : World} {v : Value} {d : DataW H} {p : List MemPlace} (h : DataW.Trod enc Tryz.prog W 0 (fun _ => true) true 22 v d p) (hb : Below W.heap.size W W') (hlt : ∀ x ∈ p, x.block < W.heap.size) :
    DataW.Trod enc Tryz.prog W' 0 (fun b => decide (b < W.heap.size)) true 22 v d p :=
  Below.trod (by kernel_rfl) (by kernel_rfl) (of_decide_eq_true (by kernel_rfl)) h hb hlt
theorem pt2_of_laidH {W : World} (h : laidMetH Tryz.prog laid2 W) : PT2 W := fun _ hb =>
  ⟨fun i hi => (hb.cell (block_lt_of_cell (ctab_of_laid h i hi))).trans (ctab_of_laid h i hi), fun i hi => (hb.cell (block_lt_of_cell (dtab_of_laid h i hi))).trans (dtab_of_laid h i hi)⟩
theorem trodAll_sixH {H : Type} {enc : TypeId × Value → H} {P : Program} {w : World} {base : Nat} {spare : Nat → Bool} {held : Bool} {t0 t1 t2 t3 t4 t5 : TypeId} {args : Array Value} {ds : List (DataW H)} {ps : List MemPlace} (h : DataW.TrodAll enc P w base spare held [t0, t1, t2, t3, t4, t5] args.toList ds ps) :
    ∃ v0 v1 v2 v3 v4 v5 d0 d1 d2 d3 d4 d5 p0 p1 p2 p3 p4 p5, args = #[v0, v1, v2, v3, v4, v5] ∧ ds = [d0, d1, d2, d3, d4, d5] ∧ ps = p0 ++ (p1 ++ (p2 ++ (p3 ++ (p4 ++ p5)))) ∧ DataW.Trod enc P w base spare held t0 v0 d0 p0 ∧ DataW.Trod enc P w base spare held t1 v1 d1 p1 ∧ DataW.Trod enc P w base spare held t2 v2 d2 p2 ∧ DataW.Trod enc P w base spare held t3 v3 d3 p3 ∧ DataW.Trod enc P w base spare held t4 v4 d4 p4 ∧ DataW.Trod enc P w base spare held t5 v5 d5 p5 := by
  obtain ⟨v0, vs, d0, ds', p0, q, hargs, rfl, rfl, h0, hr⟩ := trodAll_cons h
  obtain ⟨v1, vs1, d1, ds1, p1, q1, rfl, rfl, rfl, h1, hr1⟩ := trodAll_cons hr
  obtain ⟨v2, vs2, d2, ds2, p2, q2, rfl, rfl, rfl, h2, hr2⟩ := trodAll_cons hr1
  obtain ⟨v3, vs3, d3, ds3, p3, q3, rfl, rfl, rfl, h3, hr3⟩ := trodAll_cons hr2
  obtain ⟨v4, vs4, d4, ds4, p4, q4, rfl, rfl, rfl, h4, hr4⟩ := trodAll_cons hr3
  obtain ⟨v5, vs5, d5, ds5, p5, q5, rfl, rfl, rfl, h5, hr5⟩ := trodAll_cons hr4
  obtain ⟨rfl, rfl, rfl⟩ := trodAll_nil hr5
  exact ⟨v0, v1, v2, v3, v4, v5, d0, d1, d2, d3, d4, d5, p0, p1, p2, p3, p4, p5, by cases args; simp_all, rfl, by simp, h0, h1, h2, h3, h4, h5⟩
theorem trodAll_mk6H {H : Type} {enc : TypeId × Value → H} {P : Program} {w : World} {base : Nat} {spare : Nat → Bool} {held : Bool} {t0 t1 t2 t3 t4 t5 : TypeId} {v0 v1 v2 v3 v4 v5 : Value} {d0 d1 d2 d3 d4 d5 : DataW H} {p0 p1 p2 p3 p4 p5 : List MemPlace} (h0 : DataW.Trod enc P w base spare held t0 v0 d0 p0) (h1 : DataW.Trod enc P w base spare held t1 v1 d1 p1) (h2 : DataW.Trod enc P w base spare held t2 v2 d2 p2)
    (h3 : DataW.Trod enc P w base spare held t3 v3 d3 p3) (h4 : DataW.Trod enc P w base spare held t4 v4 d4 p4) (h5 : DataW.Trod enc P w base spare held t5 v5 d5 p5) : DataW.TrodAll enc P w base spare held [t0, t1, t2, t3, t4, t5] [v0, v1, v2, v3, v4, v5] [d0, d1, d2, d3, d4, d5] (p0 ++ (p1 ++ (p2 ++ (p3 ++ (p4 ++ p5))))) := ⟨p0, _, h0, ⟨p1, _, h1, trodAll_mk4 h2 h3 h4 h5, rfl⟩, rfl⟩
set_option maxRecDepth 100000 in
theorem open_exprH {H : Type} {enc : TypeId × Value → H} {W : World} {r : Reach} {b0 : Nat} {v : Value} {d : DataW H} {p : List MemPlace}
    (hv : Value.okWide Tryz.prog W r b0 31 v) (h : DataW.Trod enc Tryz.prog W 0 (fun _ => true) true 31 v d p) : ∃ (e : Ex) (pe : Option Addr) (ce dd : Nat), v = exV e (.slice pe e.kids.length ce) ∧ KidsB (fun k => k < W.heap.size) dd W (.slice pe e.kids.length ce) e.kids ∧ e.name.length ≤ 9223372036854775807 := by
  obtain ⟨cs, rfl, _⟩ := okWide_struct Tryz.underlying31 hv
  obtain ⟨fuel, hf⟩ := h
  obtain ⟨k, a, b, s, sl, m, z, _, hcs, hs, htk⟩ := expr_parts hf
  obtain ⟨sl', ks, esl, hkk⟩ := open_kids m [sl] z htk
  have esl' : sl = sl' := by simpa using esl
  subst esl'
  obtain ⟨pe, ce, rfl⟩ := hkk.form
  have hcs' : cs = #[.int .i64 k, .int .i64 a, .int .i64 b, .string s, .slice pe ks.length ce] := by
    have h1 : cs.toList = [.int .i64 k, .int .i64 a, .int .i64 b, .string s, .slice pe ks.length ce] := hcs
    rw [← Array.toArray_toList (xs := cs), h1]
  subst hcs'
  refine ⟨⟨k, a, b, s.data.toList, ks⟩, pe, ce, m, ?_, hkk, ?_⟩
  · unfold exV
    dsimp only
  · show s.data.toList.length ≤ _
    rw [← Lib.size_eq]; unfold maxLen at hs; exact hs
theorem expr_stayH {H : Type} {enc : TypeId × Value → H} {W W' : World} {v : Value} {d : DataW H} {p : List MemPlace} (h : DataW.Trod enc Tryz.prog W 0 (fun _ => true) true 31 v d p) (hb : Below W.heap.size W W') (hlt : ∀ x ∈ p, x.block < W.heap.size) :
    DataW.Trod enc Tryz.prog W' 0 (fun b => decide (b < W.heap.size)) true 31 v d p :=
  Below.trod (by kernel_rfl) (by kernel_rfl) (of_decide_eq_true (by kernel_rfl)) h hb hlt
set_option maxRecDepth 100000 in
theorem mshift_lifted (os : Os) (started : os.Started) (H : Type) (enc : TypeId × Value → H) :
    ReturnsInHanded {} Tryz.checked os 4 .any (fun w args => (Rows.meanShiftSpec.pre enc Tryz.prog Tryz.f4 [] false w args ∧ laidMetH Tryz.prog laid2 w) ∧ sizedMet enc Tryz.prog Tryz.f4 (OpenSpec.ofChange Rows.meanShiftSpec) false w args)
      (Rows.meanShiftSpec.post enc Tryz.prog Tryz.f4 false true false false) := by
  refine returnsInHanded_of_change_and (C := Tryz.checked) (X := fun w _ => laidMetH Tryz.prog laid2 w) (fun _ _ _ hh h => h.of_heap hh) own started (by kernel_rfl) Tryz.func4
    (ChangeSpec.witness_shaped (enc := enc) (C := Tryz.checked) (os := os) (X := fun w _ => laidMetH Tryz.prog laid2 w) false (World.doorLaid Tryz.prog 400 os) #[.slice none 0 0, .agg #[.int .i64 0, .int .i64 0, .int .i64 0, .string ⟨#[]⟩, .slice none 0 0], .agg #[.int .i64 0, .int .i64 0, .int .i64 0, .string ⟨#[]⟩, .slice none 0 0], .int .i64 0, .int .i64 0, .int .i64 0] 8 rfl (World.shaped_of_RefB (by kernel_rfl) (by kernel_rfl)) (by kernel_rfl) (by kernel_rfl) (by kernel_rfl) (door_met os _)) ?_
  intro W base args ds gs before hval0 hW _ hsz0 hL _
  have hval : ∀ (j : Nat) t v, Tryz.f4.params[j]? = some t → args[j]? = some v → Value.okWide Tryz.prog W .any base t v := hval0
  have hW' := hW
  obtain ⟨p, q, hA0, hV, rfl, hfz, hnd⟩ := hW
  have hA : DataW.TrodAll enc Tryz.prog W 0 (fun _ => true) true Tryz.f4.params.toList args.toList ds p := hA0
  have hsz : (DataW.weightsEach Tryz.prog (Tryz.f4.params.toList ++ []) (ds ++ gs)).all (· ≤ reachBytes) = true := hsz0
  rw [Tryz.params4] at hA hval hsz
  obtain ⟨v0, v1, v2, v3, v4, v5, d0, d1, d2, d3, d4, d5, p0, p1, p2, p3, p4, p5, rfl, rfl, rfl, h0, h1, h2, h3, h4, h5⟩ := trodAll_sixH hA
  obtain ⟨rfl, rfl⟩ := trodVars_none hV
  obtain ⟨a3, rfl, rfl, rfl, w3⟩ := open_int Tryz.underlying3 (hval 3 3 v3 rfl rfl) h3
  obtain ⟨a4, rfl, rfl, rfl, w4⟩ := open_int Tryz.underlying3 (hval 4 3 v4 rfl rfl) h4
  obtain ⟨a5, rfl, rfl, rfl, w5⟩ := open_int Tryz.underlying3 (hval 5 3 v5 rfl rfl) h5
  obtain ⟨ex, pe, ce, dd, rfl, hk, hnm⟩ := open_exprH (hval 1 31 v1 rfl rfl) h1
  obtain ⟨ex2, pe2, ce2, dd2, rfl, hk2, hnm2⟩ := open_exprH (hval 2 31 v2 rfl rfl) h2
  obtain ⟨us, hIn⟩ := open_rules (hval 0 22 v0 rfl rfl) h0
  have hT := pt2_of_laidH hL
  have hsl : (∀ n c, v0 = .slice none n c → c = 0) ∧ us.length * 80 ≤ 140737488351232 := by
    obtain ⟨pv, cv, hv0⟩ := hIn.form
    obtain ⟨fuel, hf⟩ := h0
    rcases DataW.trod_slice Tryz.underlying22 hf with ⟨e, _⟩ | ⟨a, len, cap, elems, rest, m, _, e, ex, _, _, _, hlen, _⟩
    · have e' : v0 = .slice none 0 0 := by rw [hv0] at e ⊢; simpa [Value.cells] using e
      refine ⟨fun n c h => ?_, ?_⟩
      · rw [e'] at h; cases h; rfl
      · rw [hv0] at e'
        injection e' with _ e2
        omega
    · have e' : v0 = .slice (some a) len cap := by rw [hv0] at e ⊢; simpa [Value.cells] using e
      refine ⟨fun n c h => ?_, ?_⟩
      · rw [e'] at h; cases h
      · have ed : d0 = .slice (elems.map (·.1)) (rest.map (·.1)) := congrArg Prod.fst ex
        subst ed
        have hb := sized_slice hsz (j := 0) (t := 22) rfl rfl Tryz.underlying22
        rw [show Tryz.prog.bytesOf 33 = 80 by kernel_rfl, List.length_map, List.length_map] at hb
        rw [hv0] at e'
        injection e' with _ e2
        unfold reachBytes at hb
        omega
  clear hA0 hval0
  simp only [List.append_nil] at hW'
  have hlt : ∀ x ∈ p0, x.block < W.heap.size := fun x hx => by simpa using hW'.lt x (List.mem_append.2 (.inl hx))
  have hlt1 : ∀ x ∈ p1, x.block < W.heap.size := fun x hx => by simpa using hW'.lt x (by simp [hx])
  have hlt2 : ∀ x ∈ p2, x.block < W.heap.size := fun x hx => by simpa using hW'.lt x (by simp [hx])
  refine (mshift_walk us v0 ex ex2 pe pe2 ce ce2 a3 a4 a5 W hIn ⟨by show zzn.length ≤ _; decide, hnm, dd, hk⟩ ⟨by show zzn.length ≤ _; decide, hnm2, dd2, hk2⟩ hsl.2 hsl.1 hT).mono fun e W' ⟨he, bel⟩ => ?_
  subst he
  exact ⟨_, rfl, _, _, _, [], p0 ++ (p1 ++ (p2 ++ ([] ++ ([] ++ [])))), [], hW', trodAll_mk1 (shut_bool Tryz.underlying4 _), trodAll_mk6H (rules_stayH h0 bel hlt) (expr_stayH h1 bel hlt1) (expr_stayH h2 bel hlt2) (shut_int Tryz.underlying3 w3) (shut_int Tryz.underlying3 w4) (shut_int Tryz.underlying3 w5), rfl, bel.frame _, fun h => by cases h⟩
theorem mshift_row : Rows.MeanShiftSaid :=
  OpenClaim.holds_of_wide 4 Tryz.f4 rfl rfl rfl rfl rfl rfl rfl ⟨rfl, rfl, rfl, rfl, rfl⟩ rfl rfl rfl rfl rfl (by kernel_rfl) Tryz.func4 (by kernel_rfl)
    (of_decide_eq_true (by kernel_rfl)) (by unfold Func.isWrapper; first | (rw [if_pos (by decide +kernel)]; kernel_rfl) | (rw [if_neg (by decide +kernel)]; exact ⟨rfl, rfl⟩))
    (fun os started H enc _ => mshift_lifted os started H enc)
theorem mshift_holds : Rows.MeanShiftCardSaid :=
  Claim7.holds_tied_plain_at .later [] [.data, .data] true Rows.meanShiftCard.stood.harness true
    mshift_row (fun _ h => by cases h) (by kernel_rfl) (fun _ h => by cases h) meanShift_row_tie rfl ⟨rfl, rfl⟩ (by kernel_rfl) rfl
    (fun f fn hf hfn => by
      obtain rfl : f = 4 := Option.some.inj ((show Tryz.prog.funcNamed Rows.meanShiftRow.func = some 4 by kernel_rfl).symm.trans hf) |>.symm
      obtain rfl : fn = Tryz.f4 := (Option.some.inj (Tryz.func4.symm.trans hfn)).symm
      exact ⟨by kernel_rfl, fun j t ht => by
        rw [Tryz.params4] at ht
        have hm : t ∈ [22, 31, 31, 3, 3, 3] := by simpa using Array.mem_of_getElem? ht
        have hall : ([22, 31, 31, 3, 3, 3].all fun u => !Tryz.prog.wantsStandIn u) = true := by kernel_rfl
        exact (show Tryz.prog.wantsStandIn t = false by simpa using List.all_eq_true.1 hall t hm)⟩)
    (by kernel_rfl)
#print axioms mshift_holds
end Go.Proofs.YtgfjbcdjpkcbkaaGreatDoor

