/- The document's Calls: who calls whom. Written by genvrb.py. -/
import Derived.Test.YtaeengpppehlfaaCt15
import Derived.Test.YtaeengpppehlfaaCt16
namespace Go.Proofs.Ytaeengpppehlfaa
open Go.RowKit Msk Vx

def KA (cs : List Cd) (w : World) (t : Value) (wr : World) : Prop := ∃ (i : Nat) (rs : Nat → Nat), t = .int .i64 (i : Int) ∧ i ≤ cs.length ∧ RcM w cs.length i rs (cE cs i 0) wr
def KB (cs : List Cd) (rs : Nat → Nat) (i n : Nat) (w : World) (t : Value) (wr : World) : Prop := ∃ j : Nat, t = .int .i64 (j : Int) ∧ j ≤ n ∧ RcM w cs.length (i + 1) rs (cE cs i j) wr
def KC (cs : List Cd) (rs : Nat → Nat) (w : World) (t : Value) (wr : World) : Prop := ∃ m : Nat, t = .int .i64 (m : Int) ∧ m ≤ cs.length ∧ RcM w cs.length cs.length rs (sW (callE cs) m 0 0) wr
def KD (cs : List Cd) (rs : Nat → Nat) (m : Nat) (w : World) (t : Value) (wr : World) : Prop := ∃ i : Nat, t = .int .i64 (i : Int) ∧ i ≤ cs.length ∧ RcM w cs.length cs.length rs (sW (callE cs) m i 0) wr
def KE (cs : List Cd) (rs : Nat → Nat) (m i : Nat) (w : World) (t : Value) (wr : World) : Prop := ∃ k : Nat, t = .int .i64 (k : Int) ∧ k ≤ cs.length ∧ RcM w cs.length cs.length rs (sW (callE cs) m i k) wr
def OutK (cs : List Cd) (w : World) (e : Ending) (w' : World) : Prop := ∃ rs, e = .returned (.slice (some ⟨w.heap.size, 0, none⟩) cs.length cs.length) ∧ RcM w cs.length cs.length rs (wars (callE cs) cs.length) w'
set_option maxRecDepth 100000 in
set_option maxHeartbeats 8000000 in
theorem rcalls_any (cs : List Cd) (lv : Value) (w : World) (h : InV w lv cs) (h40 : cs.length ≤ 40) (hok : ∀ (i : Nat) (c : Cd), cs[i]? = some c → aloneE c cs.length = 0) : Calls Try.prog 37 #[lv] w (OutK cs w) := by
  obtain ⟨p, cp, rfl, hlen, hc⟩ := h.form
  have HC := hidv hc
  have HK := hidv hok
  have hmk := run_make_row' (P := Try.prog) 78 80 (.slice none 0 0) 24 boolssType9 slInfo9 rfl .i64 .i64 cs.length (by omega) (by omega)
  have hmr := run_make_row' (P := Try.prog) 80 4 (.bool false) 1 boolsType9 boolInfo9 rfl .i64 .i64 cs.length (by omega) (by omega)
  rw [ocells_none _ (fun _ => 0)] at hmk
  rw [bcells_none] at hmr
  have bA := (Below.refl w.heap.size w).alloc (Nat.le_refl _) (.cells (ocells cs.length 0 (fun _ => 0)) 80)
  have hst : RcM w cs.length 0 (fun _ => 0) (cE cs 0 0) (w.alloc (.cells (ocells cs.length 0 (fun _ => 0)) 80)) := ⟨bA, heap_alloc_new w _, fun j hj => by omega, fun j k hj => by omega, fun j hj => by omega, by omega⟩
  have hI40 : (cs.length : Int) ≤ 40 := by omega
  have hI0 : (0 : Int) ≤ (cs.length : Int) := by omega
  generalize hwA : w.alloc (.cells (ocells cs.length 0 (fun _ => 0)) 80) = wA at *
  clear h hc hok bA
  go_enter Try.func37, Try.ntmps37
  go_wp2_with fail
  clear hmk hwA
  go_loopw [15] (fun t wr => KA cs w t wr) (fun t _ => cs.length - (intOf t).toNat)
  case atStart => exact ⟨0, _, rfl, by omega, hst⟩
  case round =>
    obtain ⟨ri, rs0, rfl, hi, hsA⟩ := hrel
    clear hst
    have hi0 : (0 : Int) ≤ (ri : Int) := by omega
    by_cases hlt : ri < cs.length
    · have hlt' : (ri : Int) < (cs.length : Int) := by omega
      obtain ⟨u, hiu⟩ : ∃ u, cs[ri]? = some u := ⟨cs[ri], List.getElem?_eq_getElem hlt⟩
      obtain ⟨sv, hin, g, o, hpe, c0, _, _⟩ := HC.out ri _ hiu
      have hcd := cd_at hiu
      have hal := alone_ins (HK.out ri _ hiu)
      obtain ⟨ul, hi, st⟩ := u
      dsimp only at hin c0 hal
      obtain ⟨pu, cu, rfl, hlu, hcu⟩ := hin.form
      subst hpe
      have hadd := (hsA.add hlt).same (M' := cE cs ri 0) fun j k hj hk => by
        by_cases e : j = ri
        · rw [if_pos e]
          unfold cE
          rw [if_neg (by omega), if_pos e]
          simp
        · rw [if_neg e]
      have bA := (Below.refl wr.heap.size wr).alloc (Nat.le_refl _) (.cells (bcells cs.length (fun _ => false)) 4)
      have ko := (cell_of_row _ _ ri _ _ _ (hsA.below bA).outer).trans (ocells_not (Nat.le_refl ri) hlt)
      have yo := frozen_of_row _ _ ri _ _ (hsA.below bA).outer
      generalize hwB : wr.alloc (.cells (bcells cs.length (fun _ => false)) 4) = wB at *
      have c0w := (hadd.bel.cell (block_lt_of_cell c0)).trans c0
      have hul0 : (0 : Int) ≤ (ul.length : Int) := by omega
      have hul1 : ul.length ≤ 2000 := hal.1.2
      have HAL := hidv hal.2.2
      have HCD := hidv hcd
      have HCU := hidv hcu
      have Hadd := hidv hadd
      clear hal hcd hcu hsA hin hiu c0 hadd bA
      generalize hwC : wB.setCell ⟨w.heap.size, ri, none⟩ (.slice (some ⟨wr.heap.size, 0, none⟩) cs.length cs.length) = wC at *
      go_wp2_with fail
      clear ko yo hwB c0w hwC
      have hadd := Hadd.out
      clear Hadd
      generalize (fun j => if j = ri then wr.heap.size else rs0 j) = rs at hadd
      obtain ⟨b8, hb8⟩ : ∃ b, wr.heap.size = b := ⟨_, rfl⟩
      simp only [hb8]
      clear hb8
      go_loopw [30] (fun t wr => KB cs rs ri ul.length w t wr) (fun t _ => ul.length - (intOf t).toNat)
      case atStart => exact ⟨0, rfl, by omega, hadd⟩
      case round =>
        obtain ⟨j, rfl, hj, hst⟩ := hrel
        clear hadd
        have hj0 : (0 : Int) ≤ (j : Int) := by omega
        have hip : ri < ri + 1 := Nat.lt_succ_self ri
        by_cases hltj : j < ul.length
        · have hltj' : (j : Int) < (ul.length : Int) := by omega
          obtain ⟨x, hjx⟩ : ∃ x, ul[j]? = some x := ⟨ul[j], List.getElem?_eq_getElem hltj⟩
          obtain ⟨sk, hrow, g2, o2, hpe, e0, e1, e2, e3, e4⟩ := HCU.out j _ hjx
          subst hpe
          have hie := HAL.out j _ hjx
          have hjx' : (cs.getD ri cd0).ins[j]? = some x := by rw [HCD.out]; exact hjx
          have d0 := (hst.bel.cell (block_lt_of_cell e0)).trans e0
          have d1 := (hst.bel.cell (block_lt_of_cell e1)).trans e1
          have d2 := (hst.bel.cell (block_lt_of_cell e2)).trans e2
          have d3 := (hst.bel.cell (block_lt_of_cell e3)).trans e3
          have d4 := (hst.bel.cell (block_lt_of_cell e4)).trans e4
          have hcall : x.op = 8 → 0 ≤ x.a ∧ x.a < cs.length := fun ho => ins_call hie ho
          obtain ⟨op, a, b, t, sp⟩ := x
          dsimp only at d0 d1 d2 d3 d4 hrow hcall
          obtain ⟨ps, ck, rfl, _, _⟩ := hrow.form
          have bI := (Below.refl wr.heap.size wr).alloc (Nat.le_refl _) (.cells #[.int .i64 op, .int .i64 a, .int .i64 b, .int .i64 t, .slice ps sp.length ck] 65)
          have hxI := heap_alloc_new wr (.cells #[.int .i64 op, .int .i64 a, .int .i64 b, .int .i64 t, .slice ps sp.length ck] 65)
          have z0 := (cell_of_row _ _ 0 _ _ _ hxI).trans rfl
          have z1 := (cell_of_row _ _ 1 _ _ _ hxI).trans rfl
          have hst1 := hst.below bI
          by_cases ho : op = 8
          · subst ho
            obtain ⟨a0, a1⟩ := hcall rfl
            obtain ⟨an, rfl⟩ : ∃ an : Nat, a = (an : Int) := ⟨a.toNat, by omega⟩
            have hanl : an < cs.length := by omega
            have ha0 : (0 : Int) ≤ (an : Int) := by omega
            have ha1 : (an : Int) < (cs.length : Int) := by omega
            have HNX : Hid (∀ W, RcM w cs.length (ri + 1) rs (upd2 (cE cs ri j) ri an true) W → KB cs rs ri ul.length w (.int .i64 ((j + 1 : Nat) : Int)) W) := fun W hW => ⟨j + 1, rfl, by omega, hW.same fun r k _ _ => by
              rw [← cE_call hjx' rfl rfl r k]
              unfold upd2 updR
              by_cases e : r = ri
              · subst e
                by_cases e2 : k = an
                · simp [e2]
                · simp [e2]
              · simp [e]⟩
            have hst := hst1
            generalize cE cs ri j = St at *
            have oi := hst.out hip
            have mik := hst.cell hip hanl
            generalize hwI : wr.alloc (.cells #[.int .i64 8, .int .i64 (an : Int), .int .i64 b, .int .i64 t, .slice ps sp.length ck] 65) = wI at *
            clear hst1 bI hxI hie hjx hjx' hrow hcall e0 e1 e2 e3 e4 HCU HAL HCD HC HK
            go_wp2_with fail
            obtain ⟨gx, hgx⟩ : ∃ b, wr.heap.size = b := ⟨_, rfl⟩
            rw [hgx] at z1
            simp only [hgx]
            clear hwI hgx z0 d0 d1 d2 d3 d4
            have zx := z1
            clear z1
            refine wp_region_last (by kernel_rfl) (by kernel_rfl) (by kernel_rfl) (by kernel_rfl) 7 (by kernel_rfl) (by kernel_rfl) [(37, .slice (some ⟨w.heap.size, 0, none⟩) cs.length cs.length), (38, .int .i64 (ri : Int)), (39, .pointer (some ⟨w.heap.size, ri, none⟩)), (40, .slice (some ⟨rs ri, 0, none⟩) cs.length cs.length), (41, .pointer (some ⟨gx, 1, none⟩)), (42, .int .i64 (an : Int)), (43, .pointer (some ⟨rs ri, an, none⟩))] (by kernel_rfl) (by kernel_rfl) ?_ ?_
            · intro i' s v o' L A W ho hv hdep hJ hkept hhas
              match i', ho, hv with
              | 0, ho, hv =>
                cases Option.some.inj ho
                cases Option.some.inj hv
                have h3 : A.tmps[3]?.getD undef = .slice (some ⟨w.heap.size, 0, none⟩) cs.length cs.length := (gd A 3).trans (hkept 3 (by kernel_rfl))
                refine wpOp_step rfl (fun K hK => ?_)
                go_simp
                exact hK _ _ ⟨rfl, Below.refl _ _⟩
              | 1, ho, hv =>
                cases Option.some.inj ho
                cases Option.some.inj hv
                have h4 : A.tmps[4]?.getD undef = .int .i64 (ri : Int) := (gd A 4).trans (hkept 4 (by kernel_rfl))
                refine wpOp_step rfl (fun K hK => ?_)
                go_simp
                exact hK _ _ ⟨rfl, Below.refl _ _⟩
              | 2, ho, hv =>
                cases Option.some.inj ho
                cases Option.some.inj hv
                have h37 : A.tmps[37]?.getD undef = .slice (some ⟨w.heap.size, 0, none⟩) cs.length cs.length := (gd A 37).trans (hhas 0 37 _ rfl (hdep ⟨0, .data⟩ (by simp) rfl))
                have h38 : A.tmps[38]?.getD undef = .int .i64 (ri : Int) := (gd A 38).trans (hhas 1 38 _ rfl (hdep ⟨1, .data⟩ (by simp) rfl))
                refine wpOp_step rfl (fun K hK => ?_)
                go_simp
                exact hK _ _ ⟨rfl, Below.refl _ _⟩
              | 3, ho, hv =>
                cases Option.some.inj ho
                cases Option.some.inj hv
                have h39 : A.tmps[39]?.getD undef = .pointer (some ⟨w.heap.size, ri, none⟩) := (gd A 39).trans (hhas 2 39 _ rfl (hdep ⟨2, .data⟩ (by simp) rfl))
                have z := (hJ.cell (block_lt_of_cell oi)).trans oi
                refine wpOp_step rfl (fun K hK => ?_)
                go_simp
                exact hK _ _ ⟨rfl, Below.refl _ _⟩
              | 4, ho, hv =>
                cases Option.some.inj ho
                cases Option.some.inj hv
                have h6 : A.tmps[6]?.getD undef = .pointer (some ⟨gx, 0, none⟩) := (gd A 6).trans (hkept 6 (by kernel_rfl))
                have z := (hJ.cell (block_lt_of_cell zx)).trans zx
                refine wpOp_step rfl (fun K hK => ?_)
                go_simp
                exact hK _ _ ⟨rfl, Below.refl _ _⟩
              | 5, ho, hv =>
                cases Option.some.inj ho
                cases Option.some.inj hv
                have h41 : A.tmps[41]?.getD undef = .pointer (some ⟨gx, 1, none⟩) := (gd A 41).trans (hhas 4 41 _ rfl (hdep ⟨4, .data⟩ (by simp) rfl))
                have z := (hJ.cell (block_lt_of_cell zx)).trans zx
                refine wpOp_step rfl (fun K hK => ?_)
                go_simp
                exact hK _ _ ⟨rfl, Below.refl _ _⟩
              | 6, ho, hv =>
                cases Option.some.inj ho
                cases Option.some.inj hv
                have h40 : A.tmps[40]?.getD undef = .slice (some ⟨rs ri, 0, none⟩) cs.length cs.length := (gd A 40).trans (hhas 3 40 _ rfl (hdep ⟨3, .data⟩ (by simp) rfl))
                have h42 : A.tmps[42]?.getD undef = .int .i64 (an : Int) := (gd A 42).trans (hhas 5 42 _ rfl (hdep ⟨5, .data⟩ (by simp) rfl))
                refine wpOp_step rfl (fun K hK => ?_)
                go_simp
                exact hK _ _ ⟨rfl, Below.refl _ _⟩
              | kk + 7, ho, hv => simp at hv
            · intro o' W ho hJ
              cases Option.some.inj ho
              simp only [putAll_cons, putAll_nil, Act.put, List.setIfInBounds_toArray, List.set_cons_succ, List.set_cons_zero]
              refine wpOp_step rfl (fun K hK => ?_)
              have hW := (hst.below hJ).set (k := an) (b := true) hip
              have z := (hJ.cell (block_lt_of_cell mik)).trans mik
              have y := (hst.below hJ).frz hip an
              have HN := hidv (HNX.out _ hW)
              clear hst HNX hW
              go_simp
              refine hK _ _ ⟨⟨undef, rfl⟩, ?_⟩
              clear hK hJ z y
              go_wp2_with fail
              go_roundw
              case rel => first
                | exact HN.out
                | ((repeat apply Exists.intro); exact ⟨HN.out, rfl⟩)
              case measure => simp [intOf]; omega

          · have hob : (op == 8) = false := beq_eq_false_iff_ne.2 ho
            have HN : Hid (KB cs rs ri ul.length w (.int .i64 ((j + 1 : Nat) : Int)) (wr.alloc (.cells #[.int .i64 op, .int .i64 a, .int .i64 b, .int .i64 t, .slice ps sp.length ck] 65))) := ⟨j + 1, rfl, by omega, by rw [← cE_skip hjx' ho]; exact hst1⟩
            generalize hwI : wr.alloc (.cells #[.int .i64 op, .int .i64 a, .int .i64 b, .int .i64 t, .slice ps sp.length ck] 65) = wI at *
            clear hst1 bI hxI hie hjx hjx' hrow hcall e0 e1 e2 e3 e4 HCU HAL HCD HC HK hst ho
            go_wp2_with fail
            go_roundw
            case rel => first
              | exact HN.out
              | ((repeat apply Exists.intro); exact ⟨HN.out, rfl⟩)
            case measure => simp [intOf]; omega
        · have hltj' : ¬ (j : Int) < (ul.length : Int) := by omega
          have HN : Hid (KA cs w (.int .i64 ((ri + 1 : Nat) : Int)) wr) := ⟨ri + 1, rs, rfl, by omega, by rw [← cE_row (j := j) (by rw [HCD.out]; show ul.length ≤ j; omega)]; exact hst⟩
          clear hst HCU HAL HCD HC HK
          go_wp2_with fail
          go_roundw
          case rel => first
            | exact HN.out
            | ((repeat apply Exists.intro); exact ⟨HN.out, rfl⟩)
          case measure => simp [intOf]; omega
    · have hlt' : ¬ (ri : Int) < (cs.length : Int) := by omega
      have er : ri = cs.length := by omega
      subst er
      have hsC : RcM w cs.length cs.length rs0 (sW (callE cs) 0 0 0) wr := hsA.same fun r k hr _ => by
        unfold cE sW
        rw [if_pos (by omega), if_neg (by omega)]
        rfl
      have HSC := hidv hsC
      clear hsA HC HK hsC
      generalize rs0 = rs at *
      go_wp2_with fail
      have hst := HSC.out
      clear HSC
      go_loopw [48] (fun t wr => KC cs rs w t wr) (fun t _ => cs.length - (intOf t).toNat)
      case atStart => exact ⟨0, rfl, by omega, hst⟩
      case round =>
        obtain ⟨m, rfl, hm, hsM⟩ := hrel
        clear hst
        have hm0 : (0 : Int) ≤ (m : Int) := by omega
        by_cases hltm : m < cs.length
        · have hltm' : (m : Int) < (cs.length : Int) := by omega
          have HSM := hidv hsM
          clear hsM
          go_wp2_with fail
          have hsM := HSM.out
          clear HSM
          go_loopw [53] (fun t wr => KD cs rs m w t wr) (fun t _ => cs.length - (intOf t).toNat)
          case atStart => exact ⟨0, rfl, by omega, hsM⟩
          case round =>
            obtain ⟨ri, rfl, hi, hsI⟩ := hrel
            clear hsM
            have hr0 : (0 : Int) ≤ (ri : Int) := by omega
            by_cases hltr : ri < cs.length
            · have hltr' : (ri : Int) < (cs.length : Int) := by omega
              have HSI := hidv hsI
              clear hsI
              go_wp2_with fail
              have hsI := HSI.out
              clear HSI
              go_loopw [58] (fun t wr => KE cs rs m ri w t wr) (fun t _ => cs.length - (intOf t).toNat)
              case atStart => exact ⟨0, rfl, by omega, hsI⟩
              case round =>
                obtain ⟨k, rfl, hk, hst⟩ := hrel
                clear hsI
                have hk0 : (0 : Int) ≤ (k : Int) := by omega
                by_cases hltk : k < cs.length
                · have hltk' : (k : Int) < (cs.length : Int) := by omega
                  have oi := hst.out hltr
                  have om := hst.out hltm
                  have mik := hst.cell hltr hltk
                  have mim := hst.cell hltr hltm
                  have mmk := hst.cell hltm hltk
                  have HNX0 : Hid (∀ W x, x = (sW (callE cs) m ri k ri k || (sW (callE cs) m ri k ri m && sW (callE cs) m ri k m k)) → RcM w cs.length cs.length rs (upd2 (sW (callE cs) m ri k) ri k x) W → KE cs rs m ri w (.int .i64 ((k + 1 : Nat) : Int)) W) := fun W x hx hW => ⟨k + 1, rfl, by omega, by rw [hx, sW_next] at hW; exact hW⟩
                  generalize sW (callE cs) m ri k = St at *
                  go_wp2_with fail
                  cases hb0 : St ri k with
                  | true =>
                    rw [hb0] at mik
                    have HNX : Hid (∀ W, RcM w cs.length cs.length rs (upd2 St ri k true) W → KE cs rs m ri w (.int .i64 ((k + 1 : Nat) : Int)) W) := fun W hW => HNX0.out W _ (by rw [hb0]; rfl) hW
                    clear hb0 HNX0
                    refine wp_region_last (by kernel_rfl) (by kernel_rfl) (by kernel_rfl) (by kernel_rfl) 31 (by kernel_rfl) (by kernel_rfl) [(61, .slice (some ⟨w.heap.size, 0, none⟩) cs.length cs.length), (62, .int .i64 (ri : Int)), (63, .pointer (some ⟨w.heap.size, ri, none⟩)), (64, .slice (some ⟨rs ri, 0, none⟩) cs.length cs.length), (65, .int .i64 (k : Int)), (66, .slice (some ⟨w.heap.size, 0, none⟩) cs.length cs.length), (67, .int .i64 (ri : Int)), (68, .pointer (some ⟨w.heap.size, ri, none⟩)), (69, .slice (some ⟨rs ri, 0, none⟩) cs.length cs.length), (70, .int .i64 (k : Int)), (71, .pointer (some ⟨rs ri, k, none⟩)), (72, .bool true), (73, .bool true), (74, undef), (75, undef), (76, undef), (77, undef), (78, undef), (79, undef), (80, undef), (81, undef), (82, undef), (83, undef), (84, undef), (85, undef), (86, undef), (87, undef), (88, undef), (89, undef), (90, .bool true), (91, .pointer (some ⟨rs ri, k, none⟩))] (by kernel_rfl) (by kernel_rfl) ?_ ?_
                    · intro i' s v o' L A W ho hv hdep hJ hkept hhas
                      match i', ho, hv with
                      | 0, ho, hv =>
                        cases Option.some.inj ho
                        cases Option.some.inj hv
                        have h3 : A.tmps[3]?.getD undef = .slice (some ⟨w.heap.size, 0, none⟩) cs.length cs.length := (gd A 3).trans (hkept 3 (by kernel_rfl))
                        refine wpOp_step rfl (fun K hK => ?_)
                        go_simp
                        exact hK _ _ ⟨rfl, Below.refl _ _⟩
                      | 1, ho, hv =>
                        cases Option.some.inj ho
                        cases Option.some.inj hv
                        have h8 : A.tmps[8]?.getD undef = .int .i64 (ri : Int) := (gd A 8).trans (hkept 8 (by kernel_rfl))
                        refine wpOp_step rfl (fun K hK => ?_)
                        go_simp
                        exact hK _ _ ⟨rfl, Below.refl _ _⟩
                      | 2, ho, hv =>
                        cases Option.some.inj ho
                        cases Option.some.inj hv
                        have h61 : A.tmps[61]?.getD undef = .slice (some ⟨w.heap.size, 0, none⟩) cs.length cs.length := (gd A 61).trans (hhas 0 61 _ rfl (hdep ⟨0, .data⟩ (by simp) rfl))
                        have h62 : A.tmps[62]?.getD undef = .int .i64 (ri : Int) := (gd A 62).trans (hhas 1 62 _ rfl (hdep ⟨1, .data⟩ (by simp) rfl))
                        refine wpOp_step rfl (fun K hK => ?_)
                        go_simp
                        exact hK _ _ ⟨rfl, Below.refl _ _⟩
                      | 3, ho, hv =>
                        cases Option.some.inj ho
                        cases Option.some.inj hv
                        have h63 : A.tmps[63]?.getD undef = .pointer (some ⟨w.heap.size, ri, none⟩) := (gd A 63).trans (hhas 2 63 _ rfl (hdep ⟨2, .data⟩ (by simp) rfl))
                        have z := (hJ.cell (block_lt_of_cell oi)).trans oi
                        refine wpOp_step rfl (fun K hK => ?_)
                        go_simp
                        exact hK _ _ ⟨rfl, Below.refl _ _⟩
                      | 4, ho, hv =>
                        cases Option.some.inj ho
                        cases Option.some.inj hv
                        have h9 : A.tmps[9]?.getD undef = .int .i64 (k : Int) := (gd A 9).trans (hkept 9 (by kernel_rfl))
                        refine wpOp_step rfl (fun K hK => ?_)
                        go_simp
                        exact hK _ _ ⟨rfl, Below.refl _ _⟩
                      | 5, ho, hv =>
                        cases Option.some.inj ho
                        cases Option.some.inj hv
                        have h3 : A.tmps[3]?.getD undef = .slice (some ⟨w.heap.size, 0, none⟩) cs.length cs.length := (gd A 3).trans (hkept 3 (by kernel_rfl))
                        refine wpOp_step rfl (fun K hK => ?_)
                        go_simp
                        exact hK _ _ ⟨rfl, Below.refl _ _⟩
                      | 6, ho, hv =>
                        cases Option.some.inj ho
                        cases Option.some.inj hv
                        have h8 : A.tmps[8]?.getD undef = .int .i64 (ri : Int) := (gd A 8).trans (hkept 8 (by kernel_rfl))
                        refine wpOp_step rfl (fun K hK => ?_)
                        go_simp
                        exact hK _ _ ⟨rfl, Below.refl _ _⟩
                      | 7, ho, hv =>
                        cases Option.some.inj ho
                        cases Option.some.inj hv
                        have h66 : A.tmps[66]?.getD undef = .slice (some ⟨w.heap.size, 0, none⟩) cs.length cs.length := (gd A 66).trans (hhas 5 66 _ rfl (hdep ⟨5, .data⟩ (by simp) rfl))
                        have h67 : A.tmps[67]?.getD undef = .int .i64 (ri : Int) := (gd A 67).trans (hhas 6 67 _ rfl (hdep ⟨6, .data⟩ (by simp) rfl))
                        refine wpOp_step rfl (fun K hK => ?_)
                        go_simp
                        exact hK _ _ ⟨rfl, Below.refl _ _⟩
                      | 8, ho, hv =>
                        cases Option.some.inj ho
                        cases Option.some.inj hv
                        have h68 : A.tmps[68]?.getD undef = .pointer (some ⟨w.heap.size, ri, none⟩) := (gd A 68).trans (hhas 7 68 _ rfl (hdep ⟨7, .data⟩ (by simp) rfl))
                        have z := (hJ.cell (block_lt_of_cell oi)).trans oi
                        refine wpOp_step rfl (fun K hK => ?_)
                        go_simp
                        exact hK _ _ ⟨rfl, Below.refl _ _⟩
                      | 9, ho, hv =>
                        cases Option.some.inj ho
                        cases Option.some.inj hv
                        have h9 : A.tmps[9]?.getD undef = .int .i64 (k : Int) := (gd A 9).trans (hkept 9 (by kernel_rfl))
                        refine wpOp_step rfl (fun K hK => ?_)
                        go_simp
                        exact hK _ _ ⟨rfl, Below.refl _ _⟩
                      | 10, ho, hv =>
                        cases Option.some.inj ho
                        cases Option.some.inj hv
                        have h69 : A.tmps[69]?.getD undef = .slice (some ⟨rs ri, 0, none⟩) cs.length cs.length := (gd A 69).trans (hhas 8 69 _ rfl (hdep ⟨8, .data⟩ (by simp) rfl))
                        have h70 : A.tmps[70]?.getD undef = .int .i64 (k : Int) := (gd A 70).trans (hhas 9 70 _ rfl (hdep ⟨9, .data⟩ (by simp) rfl))
                        refine wpOp_step rfl (fun K hK => ?_)
                        go_simp
                        exact hK _ _ ⟨rfl, Below.refl _ _⟩
                      | 11, ho, hv =>
                        cases Option.some.inj ho
                        cases Option.some.inj hv
                        have h71 : A.tmps[71]?.getD undef = .pointer (some ⟨rs ri, k, none⟩) := (gd A 71).trans (hhas 10 71 _ rfl (hdep ⟨10, .data⟩ (by simp) rfl))
                        have z := (hJ.cell (block_lt_of_cell mik)).trans mik
                        refine wpOp_step rfl (fun K hK => ?_)
                        go_simp
                        exact hK _ _ ⟨rfl, Below.refl _ _⟩
                      | 12, ho, hv =>
                        cases Option.some.inj ho
                        cases Option.some.inj hv
                        have h72 : A.tmps[72]?.getD undef = .bool true := (gd A 72).trans (hhas 11 72 _ rfl (hdep ⟨11, .data⟩ (by simp) rfl))
                        refine wpOp_step rfl (fun K hK => ?_)
                        go_simp
                        exact hK _ _ ⟨rfl, Below.refl _ _⟩
                      | 13, ho, hv =>
                        cases Option.some.inj ho
                        cases Option.some.inj hv
                        have hG : A.tmps[73]? = some (.bool true) := gdb (hhas 12 73 _ rfl (hdep ⟨12, .guard⟩ (by simp) rfl))
                        refine wpOp_step rfl (fun K hK => ?_)
                        go_simp
                        exact hK _ _ ⟨rfl, Below.refl _ _⟩
                      | 14, ho, hv =>
                        cases Option.some.inj ho
                        cases Option.some.inj hv
                        have hG : A.tmps[73]? = some (.bool true) := gdb (hhas 12 73 _ rfl (hdep ⟨12, .guard⟩ (by simp) rfl))
                        refine wpOp_step rfl (fun K hK => ?_)
                        go_simp
                        exact hK _ _ ⟨rfl, Below.refl _ _⟩
                      | 15, ho, hv =>
                        cases Option.some.inj ho
                        cases Option.some.inj hv
                        have hG : A.tmps[73]? = some (.bool true) := gdb (hhas 12 73 _ rfl (hdep ⟨12, .guard⟩ (by simp) rfl))
                        refine wpOp_step rfl (fun K hK => ?_)
                        go_simp
                        exact hK _ _ ⟨rfl, Below.refl _ _⟩
                      | 16, ho, hv =>
                        cases Option.some.inj ho
                        cases Option.some.inj hv
                        have hG : A.tmps[73]? = some (.bool true) := gdb (hhas 12 73 _ rfl (hdep ⟨12, .guard⟩ (by simp) rfl))
                        refine wpOp_step rfl (fun K hK => ?_)
                        go_simp
                        exact hK _ _ ⟨rfl, Below.refl _ _⟩
                      | 17, ho, hv =>
                        cases Option.some.inj ho
                        cases Option.some.inj hv
                        have hG : A.tmps[73]? = some (.bool true) := gdb (hhas 12 73 _ rfl (hdep ⟨12, .guard⟩ (by simp) rfl))
                        refine wpOp_step rfl (fun K hK => ?_)
                        go_simp
                        exact hK _ _ ⟨rfl, Below.refl _ _⟩
                      | 18, ho, hv =>
                        cases Option.some.inj ho
                        cases Option.some.inj hv
                        have hG : A.tmps[73]? = some (.bool true) := gdb (hhas 12 73 _ rfl (hdep ⟨12, .guard⟩ (by simp) rfl))
                        refine wpOp_step rfl (fun K hK => ?_)
                        go_simp
                        exact hK _ _ ⟨rfl, Below.refl _ _⟩
                      | 19, ho, hv =>
                        cases Option.some.inj ho
                        cases Option.some.inj hv
                        have hG : A.tmps[73]? = some (.bool true) := gdb (hhas 12 73 _ rfl (hdep ⟨12, .guard⟩ (by simp) rfl))
                        refine wpOp_step rfl (fun K hK => ?_)
                        go_simp
                        exact hK _ _ ⟨rfl, Below.refl _ _⟩
                      | 20, ho, hv =>
                        cases Option.some.inj ho
                        cases Option.some.inj hv
                        have hG : A.tmps[73]? = some (.bool true) := gdb (hhas 12 73 _ rfl (hdep ⟨12, .guard⟩ (by simp) rfl))
                        refine wpOp_step rfl (fun K hK => ?_)
                        go_simp
                        exact hK _ _ ⟨rfl, Below.refl _ _⟩
                      | 21, ho, hv =>
                        cases Option.some.inj ho
                        cases Option.some.inj hv
                        have hG : A.tmps[81]?.getD undef = undef := (gd A 81).trans (hhas 20 81 _ rfl (hdep ⟨20, .guard⟩ (by simp) rfl))
                        refine wpOp_step rfl (fun K hK => ?_)
                        rw [if_neg (unw9 (by rfl) (by rfl) hG)]
                        exact hK _ _ ⟨rfl, Below.refl _ _⟩
                      | 22, ho, hv =>
                        cases Option.some.inj ho
                        cases Option.some.inj hv
                        have hG : A.tmps[81]?.getD undef = undef := (gd A 81).trans (hhas 20 81 _ rfl (hdep ⟨20, .guard⟩ (by simp) rfl))
                        refine wpOp_step rfl (fun K hK => ?_)
                        rw [if_neg (unw9 (by rfl) (by rfl) hG)]
                        exact hK _ _ ⟨rfl, Below.refl _ _⟩
                      | 23, ho, hv =>
                        cases Option.some.inj ho
                        cases Option.some.inj hv
                        have hG : A.tmps[81]?.getD undef = undef := (gd A 81).trans (hhas 20 81 _ rfl (hdep ⟨20, .guard⟩ (by simp) rfl))
                        refine wpOp_step rfl (fun K hK => ?_)
                        rw [if_neg (unw9 (by rfl) (by rfl) hG)]
                        exact hK _ _ ⟨rfl, Below.refl _ _⟩
                      | 24, ho, hv =>
                        cases Option.some.inj ho
                        cases Option.some.inj hv
                        have hG : A.tmps[81]?.getD undef = undef := (gd A 81).trans (hhas 20 81 _ rfl (hdep ⟨20, .guard⟩ (by simp) rfl))
                        refine wpOp_step rfl (fun K hK => ?_)
                        rw [if_neg (unw9 (by rfl) (by rfl) hG)]
                        exact hK _ _ ⟨rfl, Below.refl _ _⟩
                      | 25, ho, hv =>
                        cases Option.some.inj ho
                        cases Option.some.inj hv
                        have hG : A.tmps[81]?.getD undef = undef := (gd A 81).trans (hhas 20 81 _ rfl (hdep ⟨20, .guard⟩ (by simp) rfl))
                        refine wpOp_step rfl (fun K hK => ?_)
                        rw [if_neg (unw9 (by rfl) (by rfl) hG)]
                        exact hK _ _ ⟨rfl, Below.refl _ _⟩
                      | 26, ho, hv =>
                        cases Option.some.inj ho
                        cases Option.some.inj hv
                        have hG : A.tmps[81]?.getD undef = undef := (gd A 81).trans (hhas 20 81 _ rfl (hdep ⟨20, .guard⟩ (by simp) rfl))
                        refine wpOp_step rfl (fun K hK => ?_)
                        rw [if_neg (unw9 (by rfl) (by rfl) hG)]
                        exact hK _ _ ⟨rfl, Below.refl _ _⟩
                      | 27, ho, hv =>
                        cases Option.some.inj ho
                        cases Option.some.inj hv
                        have hG : A.tmps[81]?.getD undef = undef := (gd A 81).trans (hhas 20 81 _ rfl (hdep ⟨20, .guard⟩ (by simp) rfl))
                        refine wpOp_step rfl (fun K hK => ?_)
                        rw [if_neg (unw9 (by rfl) (by rfl) hG)]
                        exact hK _ _ ⟨rfl, Below.refl _ _⟩
                      | 28, ho, hv =>
                        cases Option.some.inj ho
                        cases Option.some.inj hv
                        have hG : A.tmps[73]? = some (.bool true) := gdb (hhas 12 73 _ rfl (hdep ⟨12, .guard⟩ (by simp) rfl))
                        refine wpOp_step rfl (fun K hK => ?_)
                        go_simp
                        exact hK _ _ ⟨rfl, Below.refl _ _⟩
                      | 29, ho, hv =>
                        cases Option.some.inj ho
                        cases Option.some.inj hv
                        have h73 : A.tmps[73]?.getD undef = .bool true := (gd A 73).trans (hhas 12 73 _ rfl (hdep ⟨12, .data⟩ (by simp) rfl))
                        refine wpOp_step rfl (fun K hK => ?_)
                        go_simp
                        exact hK _ _ ⟨rfl, Below.refl _ _⟩
                      | 30, ho, hv =>
                        cases Option.some.inj ho
                        cases Option.some.inj hv
                        have h64 : A.tmps[64]?.getD undef = .slice (some ⟨rs ri, 0, none⟩) cs.length cs.length := (gd A 64).trans (hhas 3 64 _ rfl (hdep ⟨3, .data⟩ (by simp) rfl))
                        have h65 : A.tmps[65]?.getD undef = .int .i64 (k : Int) := (gd A 65).trans (hhas 4 65 _ rfl (hdep ⟨4, .data⟩ (by simp) rfl))
                        refine wpOp_step rfl (fun K hK => ?_)
                        go_simp
                        exact hK _ _ ⟨rfl, Below.refl _ _⟩
                      | kk + 31, ho, hv => simp at hv
                    · intro o' W ho hJ
                      cases Option.some.inj ho
                      simp only [putAll_cons, putAll_nil, Act.put, List.setIfInBounds_toArray, List.set_cons_succ, List.set_cons_zero]
                      refine wpOp_step rfl (fun K hK => ?_)
                      have hW := (hst.below hJ).set (k := k) (b := true) hltr
                      have z := (hJ.cell (block_lt_of_cell mik)).trans mik
                      have y := (hst.below hJ).frz hltr k
                      have HN := hidv (HNX.out _ hW)
                      clear hst HNX hW
                      go_simp
                      refine hK _ _ ⟨⟨undef, rfl⟩, ?_⟩
                      clear hK hJ z y
                      go_wp2_with fail
                      go_roundw
                      case rel => first
                        | exact HN.out
                        | ((repeat apply Exists.intro); exact ⟨HN.out, rfl⟩)
                      case measure => simp [intOf]; omega
                  | false =>
                    rw [hb0] at mik
                    cases hb1 : St ri m with
                    | false =>
                      rw [hb1] at mim
                      have HNX : Hid (∀ W, RcM w cs.length cs.length rs (upd2 St ri k false) W → KE cs rs m ri w (.int .i64 ((k + 1 : Nat) : Int)) W) := fun W hW => HNX0.out W _ (by rw [hb0, hb1]; rfl) hW
                      clear hb0 hb1 HNX0
                      refine wp_region_last (by kernel_rfl) (by kernel_rfl) (by kernel_rfl) (by kernel_rfl) 31 (by kernel_rfl) (by kernel_rfl) [(61, .slice (some ⟨w.heap.size, 0, none⟩) cs.length cs.length), (62, .int .i64 (ri : Int)), (63, .pointer (some ⟨w.heap.size, ri, none⟩)), (64, .slice (some ⟨rs ri, 0, none⟩) cs.length cs.length), (65, .int .i64 (k : Int)), (66, .slice (some ⟨w.heap.size, 0, none⟩) cs.length cs.length), (67, .int .i64 (ri : Int)), (68, .pointer (some ⟨w.heap.size, ri, none⟩)), (69, .slice (some ⟨rs ri, 0, none⟩) cs.length cs.length), (70, .int .i64 (k : Int)), (71, .pointer (some ⟨rs ri, k, none⟩)), (72, .bool false), (73, .bool false), (74, .slice (some ⟨w.heap.size, 0, none⟩) cs.length cs.length), (75, .int .i64 (ri : Int)), (76, .pointer (some ⟨w.heap.size, ri, none⟩)), (77, .slice (some ⟨rs ri, 0, none⟩) cs.length cs.length), (78, .int .i64 (m : Int)), (79, .pointer (some ⟨rs ri, m, none⟩)), (80, .bool false), (81, .bool false), (82, undef), (83, undef), (84, undef), (85, undef), (86, undef), (87, undef), (88, undef), (89, .bool false), (90, .bool false), (91, .pointer (some ⟨rs ri, k, none⟩))] (by kernel_rfl) (by kernel_rfl) ?_ ?_
                      · intro i' s v o' L A W ho hv hdep hJ hkept hhas
                        match i', ho, hv with
                        | 0, ho, hv =>
                          cases Option.some.inj ho
                          cases Option.some.inj hv
                          have h3 : A.tmps[3]?.getD undef = .slice (some ⟨w.heap.size, 0, none⟩) cs.length cs.length := (gd A 3).trans (hkept 3 (by kernel_rfl))
                          refine wpOp_step rfl (fun K hK => ?_)
                          go_simp
                          exact hK _ _ ⟨rfl, Below.refl _ _⟩
                        | 1, ho, hv =>
                          cases Option.some.inj ho
                          cases Option.some.inj hv
                          have h8 : A.tmps[8]?.getD undef = .int .i64 (ri : Int) := (gd A 8).trans (hkept 8 (by kernel_rfl))
                          refine wpOp_step rfl (fun K hK => ?_)
                          go_simp
                          exact hK _ _ ⟨rfl, Below.refl _ _⟩
                        | 2, ho, hv =>
                          cases Option.some.inj ho
                          cases Option.some.inj hv
                          have h61 : A.tmps[61]?.getD undef = .slice (some ⟨w.heap.size, 0, none⟩) cs.length cs.length := (gd A 61).trans (hhas 0 61 _ rfl (hdep ⟨0, .data⟩ (by simp) rfl))
                          have h62 : A.tmps[62]?.getD undef = .int .i64 (ri : Int) := (gd A 62).trans (hhas 1 62 _ rfl (hdep ⟨1, .data⟩ (by simp) rfl))
                          refine wpOp_step rfl (fun K hK => ?_)
                          go_simp
                          exact hK _ _ ⟨rfl, Below.refl _ _⟩
                        | 3, ho, hv =>
                          cases Option.some.inj ho
                          cases Option.some.inj hv
                          have h63 : A.tmps[63]?.getD undef = .pointer (some ⟨w.heap.size, ri, none⟩) := (gd A 63).trans (hhas 2 63 _ rfl (hdep ⟨2, .data⟩ (by simp) rfl))
                          have z := (hJ.cell (block_lt_of_cell oi)).trans oi
                          refine wpOp_step rfl (fun K hK => ?_)
                          go_simp
                          exact hK _ _ ⟨rfl, Below.refl _ _⟩
                        | 4, ho, hv =>
                          cases Option.some.inj ho
                          cases Option.some.inj hv
                          have h9 : A.tmps[9]?.getD undef = .int .i64 (k : Int) := (gd A 9).trans (hkept 9 (by kernel_rfl))
                          refine wpOp_step rfl (fun K hK => ?_)
                          go_simp
                          exact hK _ _ ⟨rfl, Below.refl _ _⟩
                        | 5, ho, hv =>
                          cases Option.some.inj ho
                          cases Option.some.inj hv
                          have h3 : A.tmps[3]?.getD undef = .slice (some ⟨w.heap.size, 0, none⟩) cs.length cs.length := (gd A 3).trans (hkept 3 (by kernel_rfl))
                          refine wpOp_step rfl (fun K hK => ?_)
                          go_simp
                          exact hK _ _ ⟨rfl, Below.refl _ _⟩
                        | 6, ho, hv =>
                          cases Option.some.inj ho
                          cases Option.some.inj hv
                          have h8 : A.tmps[8]?.getD undef = .int .i64 (ri : Int) := (gd A 8).trans (hkept 8 (by kernel_rfl))
                          refine wpOp_step rfl (fun K hK => ?_)
                          go_simp
                          exact hK _ _ ⟨rfl, Below.refl _ _⟩
                        | 7, ho, hv =>
                          cases Option.some.inj ho
                          cases Option.some.inj hv
                          have h66 : A.tmps[66]?.getD undef = .slice (some ⟨w.heap.size, 0, none⟩) cs.length cs.length := (gd A 66).trans (hhas 5 66 _ rfl (hdep ⟨5, .data⟩ (by simp) rfl))
                          have h67 : A.tmps[67]?.getD undef = .int .i64 (ri : Int) := (gd A 67).trans (hhas 6 67 _ rfl (hdep ⟨6, .data⟩ (by simp) rfl))
                          refine wpOp_step rfl (fun K hK => ?_)
                          go_simp
                          exact hK _ _ ⟨rfl, Below.refl _ _⟩
                        | 8, ho, hv =>
                          cases Option.some.inj ho
                          cases Option.some.inj hv
                          have h68 : A.tmps[68]?.getD undef = .pointer (some ⟨w.heap.size, ri, none⟩) := (gd A 68).trans (hhas 7 68 _ rfl (hdep ⟨7, .data⟩ (by simp) rfl))
                          have z := (hJ.cell (block_lt_of_cell oi)).trans oi
                          refine wpOp_step rfl (fun K hK => ?_)
                          go_simp
                          exact hK _ _ ⟨rfl, Below.refl _ _⟩
                        | 9, ho, hv =>
                          cases Option.some.inj ho
                          cases Option.some.inj hv
                          have h9 : A.tmps[9]?.getD undef = .int .i64 (k : Int) := (gd A 9).trans (hkept 9 (by kernel_rfl))
                          refine wpOp_step rfl (fun K hK => ?_)
                          go_simp
                          exact hK _ _ ⟨rfl, Below.refl _ _⟩
                        | 10, ho, hv =>
                          cases Option.some.inj ho
                          cases Option.some.inj hv
                          have h69 : A.tmps[69]?.getD undef = .slice (some ⟨rs ri, 0, none⟩) cs.length cs.length := (gd A 69).trans (hhas 8 69 _ rfl (hdep ⟨8, .data⟩ (by simp) rfl))
                          have h70 : A.tmps[70]?.getD undef = .int .i64 (k : Int) := (gd A 70).trans (hhas 9 70 _ rfl (hdep ⟨9, .data⟩ (by simp) rfl))
                          refine wpOp_step rfl (fun K hK => ?_)
                          go_simp
                          exact hK _ _ ⟨rfl, Below.refl _ _⟩
                        | 11, ho, hv =>
                          cases Option.some.inj ho
                          cases Option.some.inj hv
                          have h71 : A.tmps[71]?.getD undef = .pointer (some ⟨rs ri, k, none⟩) := (gd A 71).trans (hhas 10 71 _ rfl (hdep ⟨10, .data⟩ (by simp) rfl))
                          have z := (hJ.cell (block_lt_of_cell mik)).trans mik
                          refine wpOp_step rfl (fun K hK => ?_)
                          go_simp
                          exact hK _ _ ⟨rfl, Below.refl _ _⟩
                        | 12, ho, hv =>
                          cases Option.some.inj ho
                          cases Option.some.inj hv
                          have h72 : A.tmps[72]?.getD undef = .bool false := (gd A 72).trans (hhas 11 72 _ rfl (hdep ⟨11, .data⟩ (by simp) rfl))
                          refine wpOp_step rfl (fun K hK => ?_)
                          go_simp
                          exact hK _ _ ⟨rfl, Below.refl _ _⟩
                        | 13, ho, hv =>
                          cases Option.some.inj ho
                          cases Option.some.inj hv
                          have hG : A.tmps[73]? = some (.bool false) := gdb (hhas 12 73 _ rfl (hdep ⟨12, .guard⟩ (by simp) rfl))
                          have h3 : A.tmps[3]?.getD undef = .slice (some ⟨w.heap.size, 0, none⟩) cs.length cs.length := (gd A 3).trans (hkept 3 (by kernel_rfl))
                          refine wpOp_step rfl (fun K hK => ?_)
                          go_simp
                          exact hK _ _ ⟨rfl, Below.refl _ _⟩
                        | 14, ho, hv =>
                          cases Option.some.inj ho
                          cases Option.some.inj hv
                          have hG : A.tmps[73]? = some (.bool false) := gdb (hhas 12 73 _ rfl (hdep ⟨12, .guard⟩ (by simp) rfl))
                          have h8 : A.tmps[8]?.getD undef = .int .i64 (ri : Int) := (gd A 8).trans (hkept 8 (by kernel_rfl))
                          refine wpOp_step rfl (fun K hK => ?_)
                          go_simp
                          exact hK _ _ ⟨rfl, Below.refl _ _⟩
                        | 15, ho, hv =>
                          cases Option.some.inj ho
                          cases Option.some.inj hv
                          have hG : A.tmps[73]? = some (.bool false) := gdb (hhas 12 73 _ rfl (hdep ⟨12, .guard⟩ (by simp) rfl))
                          have h74 : A.tmps[74]?.getD undef = .slice (some ⟨w.heap.size, 0, none⟩) cs.length cs.length := (gd A 74).trans (hhas 13 74 _ rfl (hdep ⟨13, .data⟩ (by simp) rfl))
                          have h75 : A.tmps[75]?.getD undef = .int .i64 (ri : Int) := (gd A 75).trans (hhas 14 75 _ rfl (hdep ⟨14, .data⟩ (by simp) rfl))
                          refine wpOp_step rfl (fun K hK => ?_)
                          go_simp
                          exact hK _ _ ⟨rfl, Below.refl _ _⟩
                        | 16, ho, hv =>
                          cases Option.some.inj ho
                          cases Option.some.inj hv
                          have hG : A.tmps[73]? = some (.bool false) := gdb (hhas 12 73 _ rfl (hdep ⟨12, .guard⟩ (by simp) rfl))
                          have h76 : A.tmps[76]?.getD undef = .pointer (some ⟨w.heap.size, ri, none⟩) := (gd A 76).trans (hhas 15 76 _ rfl (hdep ⟨15, .data⟩ (by simp) rfl))
                          have z := (hJ.cell (block_lt_of_cell oi)).trans oi
                          refine wpOp_step rfl (fun K hK => ?_)
                          go_simp
                          exact hK _ _ ⟨rfl, Below.refl _ _⟩
                        | 17, ho, hv =>
                          cases Option.some.inj ho
                          cases Option.some.inj hv
                          have hG : A.tmps[73]? = some (.bool false) := gdb (hhas 12 73 _ rfl (hdep ⟨12, .guard⟩ (by simp) rfl))
                          have h7 : A.tmps[7]?.getD undef = .int .i64 (m : Int) := (gd A 7).trans (hkept 7 (by kernel_rfl))
                          refine wpOp_step rfl (fun K hK => ?_)
                          go_simp
                          exact hK _ _ ⟨rfl, Below.refl _ _⟩
                        | 18, ho, hv =>
                          cases Option.some.inj ho
                          cases Option.some.inj hv
                          have hG : A.tmps[73]? = some (.bool false) := gdb (hhas 12 73 _ rfl (hdep ⟨12, .guard⟩ (by simp) rfl))
                          have h77 : A.tmps[77]?.getD undef = .slice (some ⟨rs ri, 0, none⟩) cs.length cs.length := (gd A 77).trans (hhas 16 77 _ rfl (hdep ⟨16, .data⟩ (by simp) rfl))
                          have h78 : A.tmps[78]?.getD undef = .int .i64 (m : Int) := (gd A 78).trans (hhas 17 78 _ rfl (hdep ⟨17, .data⟩ (by simp) rfl))
                          refine wpOp_step rfl (fun K hK => ?_)
                          go_simp
                          exact hK _ _ ⟨rfl, Below.refl _ _⟩
                        | 19, ho, hv =>
                          cases Option.some.inj ho
                          cases Option.some.inj hv
                          have hG : A.tmps[73]? = some (.bool false) := gdb (hhas 12 73 _ rfl (hdep ⟨12, .guard⟩ (by simp) rfl))
                          have h79 : A.tmps[79]?.getD undef = .pointer (some ⟨rs ri, m, none⟩) := (gd A 79).trans (hhas 18 79 _ rfl (hdep ⟨18, .data⟩ (by simp) rfl))
                          have z := (hJ.cell (block_lt_of_cell mim)).trans mim
                          refine wpOp_step rfl (fun K hK => ?_)
                          go_simp
                          exact hK _ _ ⟨rfl, Below.refl _ _⟩
                        | 20, ho, hv =>
                          cases Option.some.inj ho
                          cases Option.some.inj hv
                          have hG : A.tmps[73]? = some (.bool false) := gdb (hhas 12 73 _ rfl (hdep ⟨12, .guard⟩ (by simp) rfl))
                          have h80 : A.tmps[80]?.getD undef = .bool false := (gd A 80).trans (hhas 19 80 _ rfl (hdep ⟨19, .data⟩ (by simp) rfl))
                          refine wpOp_step rfl (fun K hK => ?_)
                          go_simp
                          exact hK _ _ ⟨rfl, Below.refl _ _⟩
                        | 21, ho, hv =>
                          cases Option.some.inj ho
                          cases Option.some.inj hv
                          have hG : A.tmps[81]? = some (.bool false) := gdb (hhas 20 81 _ rfl (hdep ⟨20, .guard⟩ (by simp) rfl))
                          refine wpOp_step rfl (fun K hK => ?_)
                          go_simp
                          exact hK _ _ ⟨rfl, Below.refl _ _⟩
                        | 22, ho, hv =>
                          cases Option.some.inj ho
                          cases Option.some.inj hv
                          have hG : A.tmps[81]? = some (.bool false) := gdb (hhas 20 81 _ rfl (hdep ⟨20, .guard⟩ (by simp) rfl))
                          refine wpOp_step rfl (fun K hK => ?_)
                          go_simp
                          exact hK _ _ ⟨rfl, Below.refl _ _⟩
                        | 23, ho, hv =>
                          cases Option.some.inj ho
                          cases Option.some.inj hv
                          have hG : A.tmps[81]? = some (.bool false) := gdb (hhas 20 81 _ rfl (hdep ⟨20, .guard⟩ (by simp) rfl))
                          refine wpOp_step rfl (fun K hK => ?_)
                          go_simp
                          exact hK _ _ ⟨rfl, Below.refl _ _⟩
                        | 24, ho, hv =>
                          cases Option.some.inj ho
                          cases Option.some.inj hv
                          have hG : A.tmps[81]? = some (.bool false) := gdb (hhas 20 81 _ rfl (hdep ⟨20, .guard⟩ (by simp) rfl))
                          refine wpOp_step rfl (fun K hK => ?_)
                          go_simp
                          exact hK _ _ ⟨rfl, Below.refl _ _⟩
                        | 25, ho, hv =>
                          cases Option.some.inj ho
                          cases Option.some.inj hv
                          have hG : A.tmps[81]? = some (.bool false) := gdb (hhas 20 81 _ rfl (hdep ⟨20, .guard⟩ (by simp) rfl))
                          refine wpOp_step rfl (fun K hK => ?_)
                          go_simp
                          exact hK _ _ ⟨rfl, Below.refl _ _⟩
                        | 26, ho, hv =>
                          cases Option.some.inj ho
                          cases Option.some.inj hv
                          have hG : A.tmps[81]? = some (.bool false) := gdb (hhas 20 81 _ rfl (hdep ⟨20, .guard⟩ (by simp) rfl))
                          refine wpOp_step rfl (fun K hK => ?_)
                          go_simp
                          exact hK _ _ ⟨rfl, Below.refl _ _⟩
                        | 27, ho, hv =>
                          cases Option.some.inj ho
                          cases Option.some.inj hv
                          have hG : A.tmps[81]? = some (.bool false) := gdb (hhas 20 81 _ rfl (hdep ⟨20, .guard⟩ (by simp) rfl))
                          refine wpOp_step rfl (fun K hK => ?_)
                          go_simp
                          exact hK _ _ ⟨rfl, Below.refl _ _⟩
                        | 28, ho, hv =>
                          cases Option.some.inj ho
                          cases Option.some.inj hv
                          have hG : A.tmps[73]? = some (.bool false) := gdb (hhas 12 73 _ rfl (hdep ⟨12, .guard⟩ (by simp) rfl))
                          have h81 : A.tmps[81]?.getD undef = .bool false := (gd A 81).trans (hhas 20 81 _ rfl (hdep ⟨20, .data⟩ (by simp) rfl))
                          refine wpOp_step rfl (fun K hK => ?_)
                          go_simp
                          exact hK _ _ ⟨rfl, Below.refl _ _⟩
                        | 29, ho, hv =>
                          cases Option.some.inj ho
                          cases Option.some.inj hv
                          have h73 : A.tmps[73]?.getD undef = .bool false := (gd A 73).trans (hhas 12 73 _ rfl (hdep ⟨12, .data⟩ (by simp) rfl))
                          have h89 : A.tmps[89]?.getD undef = .bool false := (gd A 89).trans (hhas 28 89 _ rfl (hdep ⟨28, .data⟩ (by simp) rfl))
                          refine wpOp_step rfl (fun K hK => ?_)
                          go_simp
                          exact hK _ _ ⟨rfl, Below.refl _ _⟩
                        | 30, ho, hv =>
                          cases Option.some.inj ho
                          cases Option.some.inj hv
                          have h64 : A.tmps[64]?.getD undef = .slice (some ⟨rs ri, 0, none⟩) cs.length cs.length := (gd A 64).trans (hhas 3 64 _ rfl (hdep ⟨3, .data⟩ (by simp) rfl))
                          have h65 : A.tmps[65]?.getD undef = .int .i64 (k : Int) := (gd A 65).trans (hhas 4 65 _ rfl (hdep ⟨4, .data⟩ (by simp) rfl))
                          refine wpOp_step rfl (fun K hK => ?_)
                          go_simp
                          exact hK _ _ ⟨rfl, Below.refl _ _⟩
                        | kk + 31, ho, hv => simp at hv
                      · intro o' W ho hJ
                        cases Option.some.inj ho
                        simp only [putAll_cons, putAll_nil, Act.put, List.setIfInBounds_toArray, List.set_cons_succ, List.set_cons_zero]
                        refine wpOp_step rfl (fun K hK => ?_)
                        have hW := (hst.below hJ).set (k := k) (b := false) hltr
                        have z := (hJ.cell (block_lt_of_cell mik)).trans mik
                        have y := (hst.below hJ).frz hltr k
                        have HN := hidv (HNX.out _ hW)
                        clear hst HNX hW
                        go_simp
                        refine hK _ _ ⟨⟨undef, rfl⟩, ?_⟩
                        clear hK hJ z y
                        go_wp2_with fail
                        go_roundw
                        case rel => first
                          | exact HN.out
                          | ((repeat apply Exists.intro); exact ⟨HN.out, rfl⟩)
                        case measure => simp [intOf]; omega
                    | true =>
                      rw [hb1] at mim
                      have HNX : Hid (∀ W, RcM w cs.length cs.length rs (upd2 St ri k (St m k)) W → KE cs rs m ri w (.int .i64 ((k + 1 : Nat) : Int)) W) := fun W hW => HNX0.out W _ (by rw [hb0, hb1]; rfl) hW
                      clear hb0 hb1 HNX0
                      generalize St m k = b2 at *
                      refine wp_region_last (by kernel_rfl) (by kernel_rfl) (by kernel_rfl) (by kernel_rfl) 31 (by kernel_rfl) (by kernel_rfl) [(61, .slice (some ⟨w.heap.size, 0, none⟩) cs.length cs.length), (62, .int .i64 (ri : Int)), (63, .pointer (some ⟨w.heap.size, ri, none⟩)), (64, .slice (some ⟨rs ri, 0, none⟩) cs.length cs.length), (65, .int .i64 (k : Int)), (66, .slice (some ⟨w.heap.size, 0, none⟩) cs.length cs.length), (67, .int .i64 (ri : Int)), (68, .pointer (some ⟨w.heap.size, ri, none⟩)), (69, .slice (some ⟨rs ri, 0, none⟩) cs.length cs.length), (70, .int .i64 (k : Int)), (71, .pointer (some ⟨rs ri, k, none⟩)), (72, .bool false), (73, .bool false), (74, .slice (some ⟨w.heap.size, 0, none⟩) cs.length cs.length), (75, .int .i64 (ri : Int)), (76, .pointer (some ⟨w.heap.size, ri, none⟩)), (77, .slice (some ⟨rs ri, 0, none⟩) cs.length cs.length), (78, .int .i64 (m : Int)), (79, .pointer (some ⟨rs ri, m, none⟩)), (80, .bool true), (81, .bool true), (82, .slice (some ⟨w.heap.size, 0, none⟩) cs.length cs.length), (83, .int .i64 (m : Int)), (84, .pointer (some ⟨w.heap.size, m, none⟩)), (85, .slice (some ⟨rs m, 0, none⟩) cs.length cs.length), (86, .int .i64 (k : Int)), (87, .pointer (some ⟨rs m, k, none⟩)), (88, .bool b2), (89, .bool b2), (90, .bool b2), (91, .pointer (some ⟨rs ri, k, none⟩))] (by kernel_rfl) (by kernel_rfl) ?_ ?_
                      · intro i' s v o' L A W ho hv hdep hJ hkept hhas
                        match i', ho, hv with
                        | 0, ho, hv =>
                          cases Option.some.inj ho
                          cases Option.some.inj hv
                          have h3 : A.tmps[3]?.getD undef = .slice (some ⟨w.heap.size, 0, none⟩) cs.length cs.length := (gd A 3).trans (hkept 3 (by kernel_rfl))
                          refine wpOp_step rfl (fun K hK => ?_)
                          go_simp
                          exact hK _ _ ⟨rfl, Below.refl _ _⟩
                        | 1, ho, hv =>
                          cases Option.some.inj ho
                          cases Option.some.inj hv
                          have h8 : A.tmps[8]?.getD undef = .int .i64 (ri : Int) := (gd A 8).trans (hkept 8 (by kernel_rfl))
                          refine wpOp_step rfl (fun K hK => ?_)
                          go_simp
                          exact hK _ _ ⟨rfl, Below.refl _ _⟩
                        | 2, ho, hv =>
                          cases Option.some.inj ho
                          cases Option.some.inj hv
                          have h61 : A.tmps[61]?.getD undef = .slice (some ⟨w.heap.size, 0, none⟩) cs.length cs.length := (gd A 61).trans (hhas 0 61 _ rfl (hdep ⟨0, .data⟩ (by simp) rfl))
                          have h62 : A.tmps[62]?.getD undef = .int .i64 (ri : Int) := (gd A 62).trans (hhas 1 62 _ rfl (hdep ⟨1, .data⟩ (by simp) rfl))
                          refine wpOp_step rfl (fun K hK => ?_)
                          go_simp
                          exact hK _ _ ⟨rfl, Below.refl _ _⟩
                        | 3, ho, hv =>
                          cases Option.some.inj ho
                          cases Option.some.inj hv
                          have h63 : A.tmps[63]?.getD undef = .pointer (some ⟨w.heap.size, ri, none⟩) := (gd A 63).trans (hhas 2 63 _ rfl (hdep ⟨2, .data⟩ (by simp) rfl))
                          have z := (hJ.cell (block_lt_of_cell oi)).trans oi
                          refine wpOp_step rfl (fun K hK => ?_)
                          go_simp
                          exact hK _ _ ⟨rfl, Below.refl _ _⟩
                        | 4, ho, hv =>
                          cases Option.some.inj ho
                          cases Option.some.inj hv
                          have h9 : A.tmps[9]?.getD undef = .int .i64 (k : Int) := (gd A 9).trans (hkept 9 (by kernel_rfl))
                          refine wpOp_step rfl (fun K hK => ?_)
                          go_simp
                          exact hK _ _ ⟨rfl, Below.refl _ _⟩
                        | 5, ho, hv =>
                          cases Option.some.inj ho
                          cases Option.some.inj hv
                          have h3 : A.tmps[3]?.getD undef = .slice (some ⟨w.heap.size, 0, none⟩) cs.length cs.length := (gd A 3).trans (hkept 3 (by kernel_rfl))
                          refine wpOp_step rfl (fun K hK => ?_)
                          go_simp
                          exact hK _ _ ⟨rfl, Below.refl _ _⟩
                        | 6, ho, hv =>
                          cases Option.some.inj ho
                          cases Option.some.inj hv
                          have h8 : A.tmps[8]?.getD undef = .int .i64 (ri : Int) := (gd A 8).trans (hkept 8 (by kernel_rfl))
                          refine wpOp_step rfl (fun K hK => ?_)
                          go_simp
                          exact hK _ _ ⟨rfl, Below.refl _ _⟩
                        | 7, ho, hv =>
                          cases Option.some.inj ho
                          cases Option.some.inj hv
                          have h66 : A.tmps[66]?.getD undef = .slice (some ⟨w.heap.size, 0, none⟩) cs.length cs.length := (gd A 66).trans (hhas 5 66 _ rfl (hdep ⟨5, .data⟩ (by simp) rfl))
                          have h67 : A.tmps[67]?.getD undef = .int .i64 (ri : Int) := (gd A 67).trans (hhas 6 67 _ rfl (hdep ⟨6, .data⟩ (by simp) rfl))
                          refine wpOp_step rfl (fun K hK => ?_)
                          go_simp
                          exact hK _ _ ⟨rfl, Below.refl _ _⟩
                        | 8, ho, hv =>
                          cases Option.some.inj ho
                          cases Option.some.inj hv
                          have h68 : A.tmps[68]?.getD undef = .pointer (some ⟨w.heap.size, ri, none⟩) := (gd A 68).trans (hhas 7 68 _ rfl (hdep ⟨7, .data⟩ (by simp) rfl))
                          have z := (hJ.cell (block_lt_of_cell oi)).trans oi
                          refine wpOp_step rfl (fun K hK => ?_)
                          go_simp
                          exact hK _ _ ⟨rfl, Below.refl _ _⟩
                        | 9, ho, hv =>
                          cases Option.some.inj ho
                          cases Option.some.inj hv
                          have h9 : A.tmps[9]?.getD undef = .int .i64 (k : Int) := (gd A 9).trans (hkept 9 (by kernel_rfl))
                          refine wpOp_step rfl (fun K hK => ?_)
                          go_simp
                          exact hK _ _ ⟨rfl, Below.refl _ _⟩
                        | 10, ho, hv =>
                          cases Option.some.inj ho
                          cases Option.some.inj hv
                          have h69 : A.tmps[69]?.getD undef = .slice (some ⟨rs ri, 0, none⟩) cs.length cs.length := (gd A 69).trans (hhas 8 69 _ rfl (hdep ⟨8, .data⟩ (by simp) rfl))
                          have h70 : A.tmps[70]?.getD undef = .int .i64 (k : Int) := (gd A 70).trans (hhas 9 70 _ rfl (hdep ⟨9, .data⟩ (by simp) rfl))
                          refine wpOp_step rfl (fun K hK => ?_)
                          go_simp
                          exact hK _ _ ⟨rfl, Below.refl _ _⟩
                        | 11, ho, hv =>
                          cases Option.some.inj ho
                          cases Option.some.inj hv
                          have h71 : A.tmps[71]?.getD undef = .pointer (some ⟨rs ri, k, none⟩) := (gd A 71).trans (hhas 10 71 _ rfl (hdep ⟨10, .data⟩ (by simp) rfl))
                          have z := (hJ.cell (block_lt_of_cell mik)).trans mik
                          refine wpOp_step rfl (fun K hK => ?_)
                          go_simp
                          exact hK _ _ ⟨rfl, Below.refl _ _⟩
                        | 12, ho, hv =>
                          cases Option.some.inj ho
                          cases Option.some.inj hv
                          have h72 : A.tmps[72]?.getD undef = .bool false := (gd A 72).trans (hhas 11 72 _ rfl (hdep ⟨11, .data⟩ (by simp) rfl))
                          refine wpOp_step rfl (fun K hK => ?_)
                          go_simp
                          exact hK _ _ ⟨rfl, Below.refl _ _⟩
                        | 13, ho, hv =>
                          cases Option.some.inj ho
                          cases Option.some.inj hv
                          have hG : A.tmps[73]? = some (.bool false) := gdb (hhas 12 73 _ rfl (hdep ⟨12, .guard⟩ (by simp) rfl))
                          have h3 : A.tmps[3]?.getD undef = .slice (some ⟨w.heap.size, 0, none⟩) cs.length cs.length := (gd A 3).trans (hkept 3 (by kernel_rfl))
                          refine wpOp_step rfl (fun K hK => ?_)
                          go_simp
                          exact hK _ _ ⟨rfl, Below.refl _ _⟩
                        | 14, ho, hv =>
                          cases Option.some.inj ho
                          cases Option.some.inj hv
                          have hG : A.tmps[73]? = some (.bool false) := gdb (hhas 12 73 _ rfl (hdep ⟨12, .guard⟩ (by simp) rfl))
                          have h8 : A.tmps[8]?.getD undef = .int .i64 (ri : Int) := (gd A 8).trans (hkept 8 (by kernel_rfl))
                          refine wpOp_step rfl (fun K hK => ?_)
                          go_simp
                          exact hK _ _ ⟨rfl, Below.refl _ _⟩
                        | 15, ho, hv =>
                          cases Option.some.inj ho
                          cases Option.some.inj hv
                          have hG : A.tmps[73]? = some (.bool false) := gdb (hhas 12 73 _ rfl (hdep ⟨12, .guard⟩ (by simp) rfl))
                          have h74 : A.tmps[74]?.getD undef = .slice (some ⟨w.heap.size, 0, none⟩) cs.length cs.length := (gd A 74).trans (hhas 13 74 _ rfl (hdep ⟨13, .data⟩ (by simp) rfl))
                          have h75 : A.tmps[75]?.getD undef = .int .i64 (ri : Int) := (gd A 75).trans (hhas 14 75 _ rfl (hdep ⟨14, .data⟩ (by simp) rfl))
                          refine wpOp_step rfl (fun K hK => ?_)
                          go_simp
                          exact hK _ _ ⟨rfl, Below.refl _ _⟩
                        | 16, ho, hv =>
                          cases Option.some.inj ho
                          cases Option.some.inj hv
                          have hG : A.tmps[73]? = some (.bool false) := gdb (hhas 12 73 _ rfl (hdep ⟨12, .guard⟩ (by simp) rfl))
                          have h76 : A.tmps[76]?.getD undef = .pointer (some ⟨w.heap.size, ri, none⟩) := (gd A 76).trans (hhas 15 76 _ rfl (hdep ⟨15, .data⟩ (by simp) rfl))
                          have z := (hJ.cell (block_lt_of_cell oi)).trans oi
                          refine wpOp_step rfl (fun K hK => ?_)
                          go_simp
                          exact hK _ _ ⟨rfl, Below.refl _ _⟩
                        | 17, ho, hv =>
                          cases Option.some.inj ho
                          cases Option.some.inj hv
                          have hG : A.tmps[73]? = some (.bool false) := gdb (hhas 12 73 _ rfl (hdep ⟨12, .guard⟩ (by simp) rfl))
                          have h7 : A.tmps[7]?.getD undef = .int .i64 (m : Int) := (gd A 7).trans (hkept 7 (by kernel_rfl))
                          refine wpOp_step rfl (fun K hK => ?_)
                          go_simp
                          exact hK _ _ ⟨rfl, Below.refl _ _⟩
                        | 18, ho, hv =>
                          cases Option.some.inj ho
                          cases Option.some.inj hv
                          have hG : A.tmps[73]? = some (.bool false) := gdb (hhas 12 73 _ rfl (hdep ⟨12, .guard⟩ (by simp) rfl))
                          have h77 : A.tmps[77]?.getD undef = .slice (some ⟨rs ri, 0, none⟩) cs.length cs.length := (gd A 77).trans (hhas 16 77 _ rfl (hdep ⟨16, .data⟩ (by simp) rfl))
                          have h78 : A.tmps[78]?.getD undef = .int .i64 (m : Int) := (gd A 78).trans (hhas 17 78 _ rfl (hdep ⟨17, .data⟩ (by simp) rfl))
                          refine wpOp_step rfl (fun K hK => ?_)
                          go_simp
                          exact hK _ _ ⟨rfl, Below.refl _ _⟩
                        | 19, ho, hv =>
                          cases Option.some.inj ho
                          cases Option.some.inj hv
                          have hG : A.tmps[73]? = some (.bool false) := gdb (hhas 12 73 _ rfl (hdep ⟨12, .guard⟩ (by simp) rfl))
                          have h79 : A.tmps[79]?.getD undef = .pointer (some ⟨rs ri, m, none⟩) := (gd A 79).trans (hhas 18 79 _ rfl (hdep ⟨18, .data⟩ (by simp) rfl))
                          have z := (hJ.cell (block_lt_of_cell mim)).trans mim
                          refine wpOp_step rfl (fun K hK => ?_)
                          go_simp
                          exact hK _ _ ⟨rfl, Below.refl _ _⟩
                        | 20, ho, hv =>
                          cases Option.some.inj ho
                          cases Option.some.inj hv
                          have hG : A.tmps[73]? = some (.bool false) := gdb (hhas 12 73 _ rfl (hdep ⟨12, .guard⟩ (by simp) rfl))
                          have h80 : A.tmps[80]?.getD undef = .bool true := (gd A 80).trans (hhas 19 80 _ rfl (hdep ⟨19, .data⟩ (by simp) rfl))
                          refine wpOp_step rfl (fun K hK => ?_)
                          go_simp
                          exact hK _ _ ⟨rfl, Below.refl _ _⟩
                        | 21, ho, hv =>
                          cases Option.some.inj ho
                          cases Option.some.inj hv
                          have hG : A.tmps[81]? = some (.bool true) := gdb (hhas 20 81 _ rfl (hdep ⟨20, .guard⟩ (by simp) rfl))
                          have h3 : A.tmps[3]?.getD undef = .slice (some ⟨w.heap.size, 0, none⟩) cs.length cs.length := (gd A 3).trans (hkept 3 (by kernel_rfl))
                          refine wpOp_step rfl (fun K hK => ?_)
                          go_simp
                          exact hK _ _ ⟨rfl, Below.refl _ _⟩
                        | 22, ho, hv =>
                          cases Option.some.inj ho
                          cases Option.some.inj hv
                          have hG : A.tmps[81]? = some (.bool true) := gdb (hhas 20 81 _ rfl (hdep ⟨20, .guard⟩ (by simp) rfl))
                          have h7 : A.tmps[7]?.getD undef = .int .i64 (m : Int) := (gd A 7).trans (hkept 7 (by kernel_rfl))
                          refine wpOp_step rfl (fun K hK => ?_)
                          go_simp
                          exact hK _ _ ⟨rfl, Below.refl _ _⟩
                        | 23, ho, hv =>
                          cases Option.some.inj ho
                          cases Option.some.inj hv
                          have hG : A.tmps[81]? = some (.bool true) := gdb (hhas 20 81 _ rfl (hdep ⟨20, .guard⟩ (by simp) rfl))
                          have h82 : A.tmps[82]?.getD undef = .slice (some ⟨w.heap.size, 0, none⟩) cs.length cs.length := (gd A 82).trans (hhas 21 82 _ rfl (hdep ⟨21, .data⟩ (by simp) rfl))
                          have h83 : A.tmps[83]?.getD undef = .int .i64 (m : Int) := (gd A 83).trans (hhas 22 83 _ rfl (hdep ⟨22, .data⟩ (by simp) rfl))
                          refine wpOp_step rfl (fun K hK => ?_)
                          go_simp
                          exact hK _ _ ⟨rfl, Below.refl _ _⟩
                        | 24, ho, hv =>
                          cases Option.some.inj ho
                          cases Option.some.inj hv
                          have hG : A.tmps[81]? = some (.bool true) := gdb (hhas 20 81 _ rfl (hdep ⟨20, .guard⟩ (by simp) rfl))
                          have h84 : A.tmps[84]?.getD undef = .pointer (some ⟨w.heap.size, m, none⟩) := (gd A 84).trans (hhas 23 84 _ rfl (hdep ⟨23, .data⟩ (by simp) rfl))
                          have z := (hJ.cell (block_lt_of_cell om)).trans om
                          refine wpOp_step rfl (fun K hK => ?_)
                          go_simp
                          exact hK _ _ ⟨rfl, Below.refl _ _⟩
                        | 25, ho, hv =>
                          cases Option.some.inj ho
                          cases Option.some.inj hv
                          have hG : A.tmps[81]? = some (.bool true) := gdb (hhas 20 81 _ rfl (hdep ⟨20, .guard⟩ (by simp) rfl))
                          have h9 : A.tmps[9]?.getD undef = .int .i64 (k : Int) := (gd A 9).trans (hkept 9 (by kernel_rfl))
                          refine wpOp_step rfl (fun K hK => ?_)
                          go_simp
                          exact hK _ _ ⟨rfl, Below.refl _ _⟩
                        | 26, ho, hv =>
                          cases Option.some.inj ho
                          cases Option.some.inj hv
                          have hG : A.tmps[81]? = some (.bool true) := gdb (hhas 20 81 _ rfl (hdep ⟨20, .guard⟩ (by simp) rfl))
                          have h85 : A.tmps[85]?.getD undef = .slice (some ⟨rs m, 0, none⟩) cs.length cs.length := (gd A 85).trans (hhas 24 85 _ rfl (hdep ⟨24, .data⟩ (by simp) rfl))
                          have h86 : A.tmps[86]?.getD undef = .int .i64 (k : Int) := (gd A 86).trans (hhas 25 86 _ rfl (hdep ⟨25, .data⟩ (by simp) rfl))
                          refine wpOp_step rfl (fun K hK => ?_)
                          go_simp
                          exact hK _ _ ⟨rfl, Below.refl _ _⟩
                        | 27, ho, hv =>
                          cases Option.some.inj ho
                          cases Option.some.inj hv
                          have hG : A.tmps[81]? = some (.bool true) := gdb (hhas 20 81 _ rfl (hdep ⟨20, .guard⟩ (by simp) rfl))
                          have h87 : A.tmps[87]?.getD undef = .pointer (some ⟨rs m, k, none⟩) := (gd A 87).trans (hhas 26 87 _ rfl (hdep ⟨26, .data⟩ (by simp) rfl))
                          have z := (hJ.cell (block_lt_of_cell mmk)).trans mmk
                          refine wpOp_step rfl (fun K hK => ?_)
                          go_simp
                          exact hK _ _ ⟨rfl, Below.refl _ _⟩
                        | 28, ho, hv =>
                          cases Option.some.inj ho
                          cases Option.some.inj hv
                          have hG : A.tmps[73]? = some (.bool false) := gdb (hhas 12 73 _ rfl (hdep ⟨12, .guard⟩ (by simp) rfl))
                          have h81 : A.tmps[81]?.getD undef = .bool true := (gd A 81).trans (hhas 20 81 _ rfl (hdep ⟨20, .data⟩ (by simp) rfl))
                          have h88 : A.tmps[88]?.getD undef = .bool b2 := (gd A 88).trans (hhas 27 88 _ rfl (hdep ⟨27, .data⟩ (by simp) rfl))
                          refine wpOp_step rfl (fun K hK => ?_)
                          go_simp
                          exact hK _ _ ⟨rfl, Below.refl _ _⟩
                        | 29, ho, hv =>
                          cases Option.some.inj ho
                          cases Option.some.inj hv
                          have h73 : A.tmps[73]?.getD undef = .bool false := (gd A 73).trans (hhas 12 73 _ rfl (hdep ⟨12, .data⟩ (by simp) rfl))
                          have h89 : A.tmps[89]?.getD undef = .bool b2 := (gd A 89).trans (hhas 28 89 _ rfl (hdep ⟨28, .data⟩ (by simp) rfl))
                          refine wpOp_step rfl (fun K hK => ?_)
                          go_simp
                          exact hK _ _ ⟨rfl, Below.refl _ _⟩
                        | 30, ho, hv =>
                          cases Option.some.inj ho
                          cases Option.some.inj hv
                          have h64 : A.tmps[64]?.getD undef = .slice (some ⟨rs ri, 0, none⟩) cs.length cs.length := (gd A 64).trans (hhas 3 64 _ rfl (hdep ⟨3, .data⟩ (by simp) rfl))
                          have h65 : A.tmps[65]?.getD undef = .int .i64 (k : Int) := (gd A 65).trans (hhas 4 65 _ rfl (hdep ⟨4, .data⟩ (by simp) rfl))
                          refine wpOp_step rfl (fun K hK => ?_)
                          go_simp
                          exact hK _ _ ⟨rfl, Below.refl _ _⟩
                        | kk + 31, ho, hv => simp at hv
                      · intro o' W ho hJ
                        cases Option.some.inj ho
                        simp only [putAll_cons, putAll_nil, Act.put, List.setIfInBounds_toArray, List.set_cons_succ, List.set_cons_zero]
                        refine wpOp_step rfl (fun K hK => ?_)
                        have hW := (hst.below hJ).set (k := k) (b := b2) hltr
                        have z := (hJ.cell (block_lt_of_cell mik)).trans mik
                        have y := (hst.below hJ).frz hltr k
                        have HN := hidv (HNX.out _ hW)
                        clear hst HNX hW
                        go_simp
                        refine hK _ _ ⟨⟨undef, rfl⟩, ?_⟩
                        clear hK hJ z y
                        go_wp2_with fail
                        go_roundw
                        case rel => first
                          | exact HN.out
                          | ((repeat apply Exists.intro); exact ⟨HN.out, rfl⟩)
                        case measure => simp [intOf]; omega
                · have hltk' : ¬ (k : Int) < (cs.length : Int) := by omega
                  have HN : Hid (KD cs rs m w (.int .i64 ((ri + 1 : Nat) : Int)) wr) := ⟨ri + 1, rfl, by omega, hst.same fun r q _ hq => by
                    unfold sW
                    by_cases e : r < ri ∨ (r = ri ∧ q < k)
                    · rw [if_pos e, if_pos (by omega)]
                    · rw [if_neg e, if_neg (by omega)]⟩
                  clear hst
                  go_wp2_with fail
                  go_roundw
                  case rel => first
                    | exact HN.out
                    | ((repeat apply Exists.intro); exact ⟨HN.out, rfl⟩)
                  case measure => simp [intOf]; omega
            · have hltr' : ¬ (ri : Int) < (cs.length : Int) := by omega
              have HN : Hid (KC cs rs w (.int .i64 ((m + 1 : Nat) : Int)) wr) := ⟨m + 1, rfl, by omega, hsI.same fun r q hr _ => by
                unfold sW
                rw [if_pos (by omega), if_neg (by omega)]⟩
              clear hsI
              go_wp2_with fail
              go_roundw
              case rel => first
                | exact HN.out
                | ((repeat apply Exists.intro); exact ⟨HN.out, rfl⟩)
              case measure => simp [intOf]; omega
        · have hltm' : ¬ (m : Int) < (cs.length : Int) := by omega
          have HN : Hid (RcM w cs.length cs.length rs (wars (callE cs) cs.length) wr) := by
            show RcM _ _ _ _ _ _
            have e : m = cs.length := by omega
            subst e
            exact hsM.same fun r k _ _ => by unfold sW; rw [if_neg (by omega)]
          clear hsM
          go_wp2_with fail
          go_ret
          exact ⟨rs, rfl, HN.out⟩
end Go.Proofs.Ytaeengpppehlfaa
