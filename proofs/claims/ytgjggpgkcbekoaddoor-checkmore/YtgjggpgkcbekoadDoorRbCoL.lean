/- The law CheckMore holds at all rules and names: a rule more of a new name, that nobody speaks of and that speaks of none, leaves rules as they were; the condition is on the listed tables of months and of days' names. -/
import Derived.Test.YtgjggpgkcbekoadDoorRb34
import Derived.Test.YtgjggpgkcbekoadDoorRb33
import Derived.SizedLaws
namespace Go.Proofs.YtgjggpgkcbekoadDoor
open Go.ChangeShapes Go.WideShapes Go.ChangeAt Go.WideMaps Go.WideElems Go.RowKit Go.Joins Lx

theorem rules_stayM {H : Type} {enc : TypeId × Value → H} {W W' : World} {v : Value} {d : DataW H} {p : List MemPlace} (h : DataW.Trod enc Tryd.prog W 0 (fun _ => true) true 22 v d p) (hb : Below W.heap.size W W') (hlt : ∀ x ∈ p, x.block < W.heap.size) :
    DataW.Trod enc Tryd.prog W' 0 (fun b => decide (b < W.heap.size)) true 22 v d p :=
  Below.trod (by kernel_rfl) (by kernel_rfl) (of_decide_eq_true (by kernel_rfl)) h hb hlt
theorem pt2_of_laidM {W : World} (h : laidMetH Tryd.prog laid2 W) : PT2 W := fun _ hb =>
  ⟨fun i hi => (hb.cell (block_lt_of_cell (ctab_of_laid h i hi))).trans (ctab_of_laid h i hi), fun i hi => (hb.cell (block_lt_of_cell (dtab_of_laid h i hi))).trans (dtab_of_laid h i hi)⟩
set_option maxRecDepth 100000 in
theorem cmore_lifted (os : Os) (started : os.Started) (H : Type) (enc : TypeId × Value → H) :
    ReturnsInHanded {} Tryd.checked os 4 .any (fun w args => (Rows.checkMoreSpec.pre enc Tryd.prog Tryd.f4 [] false w args ∧ laidMetH Tryd.prog laid2 w) ∧ sizedMet enc Tryd.prog Tryd.f4 (OpenSpec.ofChange Rows.checkMoreSpec) false w args)
      (Rows.checkMoreSpec.post enc Tryd.prog Tryd.f4 false true false false) := by
  refine returnsInHanded_of_change_and (C := Tryd.checked) (X := fun w _ => laidMetH Tryd.prog laid2 w) (fun _ _ _ hh h => h.of_heap hh) own started (by kernel_rfl) Tryd.func4
    (ChangeSpec.witness_shaped (enc := enc) (C := Tryd.checked) (os := os) (X := fun w _ => laidMetH Tryd.prog laid2 w) false (World.doorLaid Tryd.prog 400 os) #[.slice none 0 0, .string ⟨#[]⟩] 8 rfl (World.shaped_of_RefB (by kernel_rfl) (by kernel_rfl)) (by kernel_rfl) (by kernel_rfl) (by kernel_rfl) (door_met os _)) ?_
  intro W base args ds gs before hval0 hW _ hsz0 hL _
  have hval : ∀ (j : Nat) t v, Tryd.f4.params[j]? = some t → args[j]? = some v → Value.okWide Tryd.prog W .any base t v := hval0
  have hW' := hW
  obtain ⟨p, q, hA0, hV, rfl, hfz, hnd⟩ := hW
  have hA : DataW.TrodAll enc Tryd.prog W 0 (fun _ => true) true Tryd.f4.params.toList args.toList ds p := hA0
  have hsz : (DataW.weightsEach Tryd.prog (Tryd.f4.params.toList ++ []) (ds ++ gs)).all (· ≤ reachBytes) = true := hsz0
  rw [Tryd.params4] at hA hval hsz
  obtain ⟨v0, v1, d0, d1, p0, p1, rfl, rfl, rfl, h0, h1⟩ := trodAll_two hA
  obtain ⟨rfl, rfl⟩ := trodVars_none hV
  obtain ⟨s1, rfl, rfl, rfl, w1⟩ := Go.ChangeMaps.open_string Tryd.underlying9 (hval 1 9 v1 rfl rfl) h1
  obtain ⟨us, hIn⟩ := open_rules (hval 0 22 v0 rfl rfl) h0
  have hT := pt2_of_laidM hL
  have hl1 : s1.data.toList.length ≤ reachBytes := sized_string hsz (j := 1) (t := 9) rfl rfl
  have hsl : (∀ n c, v0 = .slice none n c → c = 0) ∧ us.length * 80 ≤ 140737488351232 := by
    obtain ⟨pv, cv, hv0⟩ := hIn.form
    obtain ⟨fuel, hf⟩ := h0
    rcases DataW.trod_slice Tryd.underlying22 hf with ⟨e, _⟩ | ⟨a, len, cap, elems, rest, m, _, e, ex, _, _, _, hlen, _⟩
    · have e' : v0 = .slice none 0 0 := by rw [hv0] at e ⊢; simpa [Value.cells] using e
      refine ⟨fun n c h => ?_, ?_⟩
      · rw [e'] at h; cases h; rfl
      · rw [hv0] at e'
        injection e' with _ e2
        omega
    · have e' : v0 = .slice (some a) len cap := by rw [hv0] at e ⊢; simpa [Value.cells] using e
      refine ⟨fun n c h => ?_, ?_⟩
      · rw [e'] at h; cases h
      · have ed : d0 = .slice (elems.map (·.1)) (rest.map (·.1)) := congrArg Prod.fst ex
        subst ed
        have hb := sized_slice hsz (j := 0) (t := 22) rfl rfl Tryd.underlying22
        rw [show Tryd.prog.bytesOf 36 = 80 by kernel_rfl, List.length_map, List.length_map] at hb
        rw [hv0] at e'
        injection e' with _ e2
        unfold reachBytes at hb
        omega
  clear hA0 hval0
  simp only [List.append_nil] at hW'
  have hlt : ∀ x ∈ p0, x.block < W.heap.size := fun x hx => by simpa using hW'.lt x (by simpa using hx)
  have hs1 : s1 = ⟨s1.data.toList.toArray⟩ := by simp
  have hcall := cmore_walk us v0 s1.data.toList W hIn hsl.2 (by unfold reachBytes at hl1; omega) hsl.1 hT
  rw [← hs1] at hcall
  refine hcall.mono fun e W' ⟨he, bel⟩ => ?_
  subst he
  exact ⟨_, rfl, _, _, _, [], p0 ++ [], [], hW', trodAll_mk1 (shut_bool Tryd.underlying4 _), trodAll_mk2 (rules_stayM h0 bel hlt) (Go.ChangeMaps.shut_string Tryd.underlying9 w1), rfl, bel.frame _, fun h => by cases h⟩

theorem cmore_row : Rows.CheckMoreSaid :=
  OpenClaim.holds_of_wide 4 Tryd.f4 rfl rfl rfl rfl rfl rfl rfl ⟨rfl, rfl, rfl, rfl, rfl⟩ rfl rfl rfl rfl rfl (by kernel_rfl) Tryd.func4 (by kernel_rfl)
    (of_decide_eq_true (by kernel_rfl)) (by unfold Func.isWrapper; first | (rw [if_pos (by decide +kernel)]; kernel_rfl) | (rw [if_neg (by decide +kernel)]; exact ⟨rfl, rfl⟩))
    (fun os started H enc _ => cmore_lifted os started H enc)

theorem cmore_holds : Rows.CheckMoreCardSaid :=
  Claim7.holds_tied_plain_at .later [] [.data, .data] true Rows.checkMoreCard.stood.harness true
    cmore_row (fun _ h => by cases h) (by kernel_rfl) (fun _ h => by cases h) checkMore_row_tie rfl ⟨rfl, rfl⟩ (by kernel_rfl) rfl
    (fun f fn hf hfn => by
      obtain rfl : f = 4 := Option.some.inj ((show Tryd.prog.funcNamed Rows.checkMoreRow.func = some 4 by kernel_rfl).symm.trans hf) |>.symm
      obtain rfl : fn = Tryd.f4 := (Option.some.inj (Tryd.func4.symm.trans hfn)).symm
      exact ⟨by kernel_rfl, fun j t ht => by
        rw [Tryd.params4] at ht
        have hm : t ∈ [22, 9] := by simpa using Array.mem_of_getElem? ht
        have hall : ([22, 9].all fun u => !Tryd.prog.wantsStandIn u) = true := by kernel_rfl
        exact (show Tryd.prog.wantsStandIn t = false by simpa using List.all_eq_true.1 hall t hm)⟩)
    (by kernel_rfl)
#print axioms cmore_holds
end Go.Proofs.YtgjggpgkcbekoadDoor
