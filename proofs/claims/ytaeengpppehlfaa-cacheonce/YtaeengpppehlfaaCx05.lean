/- vm.reached: who calls whom, bit by bit. Written by genvme.py. -/
import Derived.Test.YtaeengpppehlfaaCx04
import Derived.Laws.EntriesVeiled
import Derived.Deep.OwnRows
import Derived.Test.YtaeengpppehlfaaCx02
namespace Go.Proofs.Ytaeengpppehlfaa
open Go.RowKit Msk Vx

theorem wd_put (f : Nat → Bool) (a : Nat) (ha : a < 64) : bits BinOp.or IntKind.u64 (wd f 0 : Int) (IntKind.u64.wrap (2 ^ a)) = (wd (fun k => f k || decide (k = a)) 0 : Int) := by
  have hp : (2 : Nat) ^ a < 18446744073709551616 := by
    have := Nat.pow_lt_pow_right (a := 2) (by omega) ha
    simpa using this
  have e1 : IntKind.u64.wrap ((2 : Int) ^ a) = ((2 ^ a : Nat) : Int) := by
    rw [IntKind.wrap_u64]
    have : ((2 : Int) ^ a) = ((2 ^ a : Nat) : Int) := by push_cast; rfl
    rw [this]
    generalize (2 ^ a : Nat) = y at *
    omega
  rw [e1, bits_or_u64_nat _ _ (wd_lt f 0) hp]
  congr 1
  refine wd_eq _ 0 _ (Nat.or_lt_two_pow (n := 64) (wd_lt f 0) hp) fun j hj => ?_
  rw [Nat.testBit_or, wd_bit, decide_eq_true hj, Bool.true_and, Nat.mul_zero, Nat.zero_add, Nat.testBit_two_pow]
  congr 1
  by_cases e : a = j
  · simp [e]
  · simp [e, show ¬ j = a from fun h => e h.symm]
theorem wd_both (f g : Nat → Bool) : bits BinOp.or IntKind.u64 (wd f 0 : Int) (wd g 0 : Int) = (wd (fun k => f k || g k) 0 : Int) := by
  rw [bits_or_u64_nat _ _ (wd_lt f 0) (wd_lt g 0), wd_or]
/-- Who calls whom, so far. -/
def cE (cs : List Cd) (i j : Nat) : Nat → Nat → Bool := fun r k => if r < i then callE cs r k else if r = i then (((cs.getD i cd0).ins.take j).any fun x => decide (x.op = 8) && decide (x.a = (k : Int))) else false
theorem cE_nil (cs : List Cd) : cE cs 0 0 = fun _ _ => false := by
  funext r k
  unfold cE
  rw [if_neg (by omega)]
  split <;> simp
theorem cE_call {cs : List Cd} {i j an : Nat} {x : In} (hx : (cs.getD i cd0).ins[j]? = some x) (ho : x.op = 8) (ha : x.a = (an : Int)) (r k : Nat) : updR (cE cs i j) i (fun k => cE cs i j i k || decide (k = an)) r k = cE cs i (j + 1) r k := by
  unfold updR
  by_cases e : r = i
  · subst e
    rw [if_pos rfl]
    show (cE cs r j r k || decide (k = an)) = cE cs r (j + 1) r k
    unfold cE
    rw [if_neg (by omega), if_pos rfl, if_neg (by omega), if_pos rfl, List.take_add_one, hx, Option.toList_some, List.any_append]
    simp only [List.any_cons, List.any_nil, Bool.or_false, ho, ha, decide_true, Bool.true_and]
    congr 1
    by_cases h : k = an
    · simp [h]
    · have h2 : ¬ (an : Int) = (k : Int) := by omega
      simp [h, h2]
  · rw [if_neg e]
    unfold cE
    by_cases h : r < i
    · rw [if_pos h, if_pos h]
    · rw [if_neg h, if_neg h, if_neg e, if_neg e]
theorem cE_skip {cs : List Cd} {i j : Nat} {x : In} (hx : (cs.getD i cd0).ins[j]? = some x) (ho : x.op ≠ 8) : cE cs i j = cE cs i (j + 1) := by
  funext r k
  unfold cE
  rw [List.take_add_one, hx, Option.toList_some, List.any_append]
  simp [ho]
theorem cE_row {cs : List Cd} {i j : Nat} (hj : (cs.getD i cd0).ins.length ≤ j) : cE cs i j = cE cs (i + 1) 0 := by
  funext r k
  unfold cE
  rw [List.take_of_length_le hj]
  by_cases h : r < i
  · rw [if_pos h, if_pos (by omega)]
  · rw [if_neg h]
    by_cases e : r = i
    · rw [if_pos e, if_pos (by omega)]
      subst e
      rfl
    · rw [if_neg e, if_neg (by omega)]
      split <;> simp
/-- All ways at once, so far. -/
def wE (E : Nat → Nat → Bool) (m i : Nat) : Nat → Nat → Bool := fun r k => if r < i then wars E (m + 1) r k else wars E m r k
theorem wars_self (E : Nat → Nat → Bool) (m k : Nat) : wars E (m + 1) m k = wars E m m k := by
  simp only [wars]
  cases wars E m m k <;> simp
theorem wE_at (E : Nat → Nat → Bool) (m i k : Nat) : wE E m i m k = wars E m m k := by
  unfold wE
  split
  · exact wars_self E m k
  · rfl
theorem wE_cur (E : Nat → Nat → Bool) (m i k : Nat) : wE E m i i k = wars E m i k := if_neg (by omega)
theorem wE_yes {E : Nat → Nat → Bool} {m i : Nat} (h : wE E m i i m = true) (r k : Nat) : updR (wE E m i) i (fun k => wE E m i i k || wE E m i m k) r k = wE E m (i + 1) r k := by
  unfold updR
  rw [wE_cur] at h
  by_cases e : r = i
  · subst e
    rw [if_pos rfl]
    show (wE E m r r k || wE E m r m k) = _
    rw [wE_cur, wE_at]
    unfold wE
    rw [if_pos (by omega)]
    simp only [wars, h, Bool.true_and]
  · rw [if_neg e]
    unfold wE
    by_cases h : r < i
    · rw [if_pos h, if_pos (by omega)]
    · rw [if_neg h, if_neg (by omega)]
theorem wE_no {E : Nat → Nat → Bool} {m i : Nat} (h : wE E m i i m = false) (r k : Nat) : wE E m i r k = wE E m (i + 1) r k := by
  rw [wE_cur] at h
  unfold wE
  by_cases e : r = i
  · subst e
    rw [if_neg (by omega), if_pos (by omega)]
    simp only [wars, h, Bool.false_and, Bool.or_false]
  · by_cases h : r < i
    · rw [if_pos h, if_pos (by omega)]
    · rw [if_neg h, if_neg (by omega)]
def EA (cs : List Cd) (w : World) (t : Value) (wr : World) : Prop := ∃ i : Nat, t = .int .i64 (i : Int) ∧ i ≤ cs.length ∧ UcM w cs.length (cE cs i 0) wr
def EB (cs : List Cd) (i n : Nat) (w : World) (t : Value) (wr : World) : Prop := ∃ j : Nat, t = .int .i64 (j : Int) ∧ j ≤ n ∧ UcM w cs.length (cE cs i j) wr
def EC (cs : List Cd) (w : World) (t : Value) (wr : World) : Prop := ∃ m : Nat, t = .int .i64 (m : Int) ∧ m ≤ cs.length ∧ UcM w cs.length (wE (callE cs) m 0) wr
def ED (cs : List Cd) (m : Nat) (w : World) (t : Value) (wr : World) : Prop := ∃ i : Nat, t = .int .i64 (i : Int) ∧ i ≤ cs.length ∧ UcM w cs.length (wE (callE cs) m i) wr
def OutUV (cs : List Cd) (w : World) (e : Ending) (w' : World) : Prop := e = .returned (.slice (some ⟨w.heap.size, 0, none⟩) cs.length cs.length) ∧ UcM w cs.length (wars (callE cs) cs.length) w'
theorem u64Info : (Try.prog.info? 23).map (fun i => (i.zero, i.size, i.bytes)) = some (some (.int .u64 0), 1, 8) := by kernel_rfl
theorem u64sType : Try.prog.underlying 72 = some (.slice 23) := by kernel_rfl
set_option maxRecDepth 100000 in
set_option maxHeartbeats 4000000 in
theorem vreached_any (cs : List Cd) (lv : Value) (w : World) (h : InV w lv cs) (h40 : cs.length ≤ 40) (hok : ∀ (i : Nat) (c : Cd), cs[i]? = some c → aloneE c cs.length = 0) : Calls Try.prog 31 #[lv] w (OutUV cs w) := by
  obtain ⟨p, cp, rfl, hlen, hc⟩ := h.form
  have HC := hidv hc
  have HK := hidv hok
  have hmk := run_make_row' (P := Try.prog) 72 23 (.int .u64 0) 8 u64sType u64Info rfl .i64 .i64 cs.length (by omega) (by omega)
  rw [ucells_none] at hmk
  have bA := (Below.refl w.heap.size w).alloc (Nat.le_refl _) (.cells (ucells cs.length (fun _ _ => false)) 23)
  have hst : UcM w cs.length (cE cs 0 0) (w.alloc (.cells (ucells cs.length (fun _ _ => false)) 23)) := ⟨bA, by rw [cE_nil]; exact heap_alloc_new w _⟩
  have hI40 : (cs.length : Int) ≤ 40 := by omega
  have hI0 : (0 : Int) ≤ (cs.length : Int) := by omega
  generalize hwA : w.alloc (.cells (ucells cs.length (fun _ _ => false)) 23) = wA at *
  clear h hc hok bA
  go_enter Try.func31, Try.ntmps31
  go_wp2_with fail
  clear hmk hwA
  go_loopw [15] (fun t wr => EA cs w t wr) (fun t _ => cs.length - (intOf t).toNat)
  case atStart => exact ⟨0, rfl, by omega, hst⟩
  case round =>
    obtain ⟨ri, rfl, hi, hsA⟩ := hrel
    clear hst
    have hi0 : (0 : Int) ≤ (ri : Int) := by omega
    by_cases hlt : ri < cs.length
    · have hlt' : (ri : Int) < (cs.length : Int) := by omega
      obtain ⟨u, hiu⟩ : ∃ u, cs[ri]? = some u := ⟨cs[ri], List.getElem?_eq_getElem hlt⟩
      obtain ⟨sv, hin, g, o, hpe, c0, c1, c2⟩ := HC.out ri _ hiu
      have hcd := cd_at hiu
      have hal := alone_ins (HK.out ri _ hiu)
      obtain ⟨ul, hi, st⟩ := u
      dsimp only at hin c0 c1 c2 hal
      obtain ⟨pu, cu, rfl, hlu, hcu⟩ := hin.form
      subst hpe
      have d0 := (hsA.bel.cell (block_lt_of_cell c0)).trans c0
      have d1 := (hsA.bel.cell (block_lt_of_cell c1)).trans c1
      have d2 := (hsA.bel.cell (block_lt_of_cell c2)).trans c2
      have bI := (Below.refl wr.heap.size wr).alloc (Nat.le_refl _) (.cells #[.slice pu ul.length cu, .int .i64 hi, .int .i64 st] 36)
      have hsB := hsA.below bI
      have hxC := heap_alloc_new wr (.cells #[.slice pu ul.length cu, .int .i64 hi, .int .i64 st] 36)
      have zc := (cell_of_row _ _ 0 _ _ _ hxC).trans rfl
      generalize hwC : wr.alloc (.cells #[.slice pu ul.length cu, .int .i64 hi, .int .i64 st] 36) = wC at *
      have hul0 : (0 : Int) ≤ (ul.length : Int) := by omega
      have hul1 : ul.length ≤ 2000 := hal.1.2
      have HAL := hidv hal.2.2
      have HCD := hidv hcd
      have HCU := hidv hcu
      have HSB := hidv hsB
      clear hal hcd hcu hsA hin hiu c0 c1 c2 bI hsB hxC
      go_wp2_with fail
      clear d0 d1 d2 zc hwC
      have hsB := HSB.out
      clear HSB
      go_loopw [23] (fun t wr => EB cs ri ul.length w t wr) (fun t _ => ul.length - (intOf t).toNat)
      case atStart => exact ⟨0, rfl, by omega, hsB⟩
      case round =>
        obtain ⟨j, rfl, hj, hst⟩ := hrel
        clear hsB
        have hj0 : (0 : Int) ≤ (j : Int) := by omega
        by_cases hltj : j < ul.length
        · have hltj' : (j : Int) < (ul.length : Int) := by omega
          obtain ⟨x, hjx⟩ : ∃ x, ul[j]? = some x := ⟨ul[j], List.getElem?_eq_getElem hltj⟩
          obtain ⟨sk, hrow, g2, o2, hpe, e0, e1, e2, e3, e4⟩ := HCU.out j _ hjx
          subst hpe
          have hie := HAL.out j _ hjx
          have hjx' : (cs.getD ri cd0).ins[j]? = some x := by rw [HCD.out]; exact hjx
          have d0 := (hst.bel.cell (block_lt_of_cell e0)).trans e0
          have d1 := (hst.bel.cell (block_lt_of_cell e1)).trans e1
          have d2 := (hst.bel.cell (block_lt_of_cell e2)).trans e2
          have d3 := (hst.bel.cell (block_lt_of_cell e3)).trans e3
          have d4 := (hst.bel.cell (block_lt_of_cell e4)).trans e4
          have hcall : x.op = 8 → 0 ≤ x.a ∧ x.a < cs.length := fun ho => ins_call hie ho
          obtain ⟨op, a, b, t, sp⟩ := x
          dsimp only at d0 d1 d2 d3 d4 hrow hcall
          obtain ⟨ps, ck, rfl, _, _⟩ := hrow.form
          have bI := (Below.refl wr.heap.size wr).alloc (Nat.le_refl _) (.cells #[.int .i64 op, .int .i64 a, .int .i64 b, .int .i64 t, .slice ps sp.length ck] 65)
          have hxI := heap_alloc_new wr (.cells #[.int .i64 op, .int .i64 a, .int .i64 b, .int .i64 t, .slice ps sp.length ck] 65)
          have z0 := (cell_of_row _ _ 0 _ _ _ hxI).trans rfl
          have z1 := (cell_of_row _ _ 1 _ _ _ hxI).trans rfl
          have hst1 := hst.below bI
          by_cases ho : op = 8
          · subst ho
            obtain ⟨a0, a1⟩ := hcall rfl
            obtain ⟨an, rfl⟩ : ∃ an : Nat, a = (an : Int) := ⟨a.toNat, by omega⟩
            have han : an < 64 := by omega
            have ha0 : (0 : Int) ≤ (an : Int) := by omega
            have ha1 : (an : Int) < 64 := by omega
            have HNX : Hid (∀ W, UcM w cs.length (updR (cE cs ri j) ri (fun k => cE cs ri j ri k || decide (k = an))) W → EB cs ri ul.length w (.int .i64 ((j + 1 : Nat) : Int)) W) := fun W hW => ⟨j + 1, rfl, by omega, hW.same fun r k _ _ => cE_call hjx' rfl rfl r k⟩
            have hst := hst1
            generalize cE cs ri j = St at *
            have HOR := hidv (wd_put (St ri) an han)
            have rc := hst.cell hlt
            generalize hwI : wr.alloc (.cells #[.int .i64 8, .int .i64 (an : Int), .int .i64 b, .int .i64 t, .slice ps sp.length ck] 65) = wI at *
            clear hst1 bI hxI hie hjx hjx' hrow hcall e0 e1 e2 e3 e4 HCU HAL HCD HC HK
            go_wp2_with fail
            obtain ⟨gx, hgx⟩ : ∃ b, wr.heap.size = b := ⟨_, rfl⟩
            rw [hgx] at z1
            simp only [hgx]
            clear hwI hgx z0 d0 d1 d2 d3 d4
            have zx := z1
            clear z1
            refine wp_region_last (by kernel_rfl) (by kernel_rfl) (by kernel_rfl) (by kernel_rfl) 9 (by kernel_rfl) (by kernel_rfl) [(30, .slice (some ⟨w.heap.size, 0, none⟩) cs.length cs.length), (31, .int .i64 (ri : Int)), (32, .pointer (some ⟨w.heap.size, ri, none⟩)), (33, .int .u64 (wd (St ri) 0 : Int)), (34, .pointer (some ⟨gx, 1, none⟩)), (35, .int .i64 (an : Int)), (36, .int .u64 (IntKind.u64.wrap (2 ^ an))), (37, .int .u64 (wd (fun k => St ri k || decide (k = an)) 0 : Int)), (38, .pointer (some ⟨w.heap.size, ri, none⟩))] (by kernel_rfl) (by kernel_rfl) ?_ ?_
            · intro i s v o L A W ho hv hdep hJ hkept hhas
              match i, ho, hv with
              | 0, ho, hv =>
                cases Option.some.inj ho
                cases Option.some.inj hv
                have h3 : A.tmps[3]?.getD undef = .slice (some ⟨w.heap.size, 0, none⟩) cs.length cs.length := (gd A 3).trans (hkept 3 (by kernel_rfl))
                refine wpOp_step rfl (fun K hK => ?_)
                go_simp
                exact hK _ _ ⟨rfl, Below.refl _ _⟩
              | 1, ho, hv =>
                cases Option.some.inj ho
                cases Option.some.inj hv
                have h4 : A.tmps[4]?.getD undef = .int .i64 (ri : Int) := (gd A 4).trans (hkept 4 (by kernel_rfl))
                refine wpOp_step rfl (fun K hK => ?_)
                go_simp
                exact hK _ _ ⟨rfl, Below.refl _ _⟩
              | 2, ho, hv =>
                cases Option.some.inj ho
                cases Option.some.inj hv
                have h30 : A.tmps[30]?.getD undef = .slice (some ⟨w.heap.size, 0, none⟩) cs.length cs.length := (gd A 30).trans (hhas 0 30 _ rfl (hdep ⟨0, .data⟩ (by simp) rfl))
                have h31 : A.tmps[31]?.getD undef = .int .i64 (ri : Int) := (gd A 31).trans (hhas 1 31 _ rfl (hdep ⟨1, .data⟩ (by simp) rfl))
                refine wpOp_step rfl (fun K hK => ?_)
                go_simp
                exact hK _ _ ⟨rfl, Below.refl _ _⟩
              | 3, ho, hv =>
                cases Option.some.inj ho
                cases Option.some.inj hv
                have h32 : A.tmps[32]?.getD undef = .pointer (some ⟨w.heap.size, ri, none⟩) := (gd A 32).trans (hhas 2 32 _ rfl (hdep ⟨2, .data⟩ (by simp) rfl))
                have z := (hJ.cell (block_lt_of_cell rc)).trans rc
                refine wpOp_step rfl (fun K hK => ?_)
                go_simp
                exact hK _ _ ⟨rfl, Below.refl _ _⟩
              | 4, ho, hv =>
                cases Option.some.inj ho
                cases Option.some.inj hv
                have h7 : A.tmps[7]?.getD undef = .pointer (some ⟨gx, 0, none⟩) := (gd A 7).trans (hkept 7 (by kernel_rfl))
                have z := (hJ.cell (block_lt_of_cell zx)).trans zx
                refine wpOp_step rfl (fun K hK => ?_)
                go_simp
                exact hK _ _ ⟨rfl, Below.refl _ _⟩
              | 5, ho, hv =>
                cases Option.some.inj ho
                cases Option.some.inj hv
                have h34 : A.tmps[34]?.getD undef = .pointer (some ⟨gx, 1, none⟩) := (gd A 34).trans (hhas 4 34 _ rfl (hdep ⟨4, .data⟩ (by simp) rfl))
                have z := (hJ.cell (block_lt_of_cell zx)).trans zx
                refine wpOp_step rfl (fun K hK => ?_)
                go_simp
                exact hK _ _ ⟨rfl, Below.refl _ _⟩
              | 6, ho, hv =>
                cases Option.some.inj ho
                cases Option.some.inj hv
                have h35 : A.tmps[35]?.getD undef = .int .i64 (an : Int) := (gd A 35).trans (hhas 5 35 _ rfl (hdep ⟨5, .data⟩ (by simp) rfl))
                refine wpOp_step rfl (fun K hK => ?_)
                go_simp
                exact hK _ _ ⟨rfl, Below.refl _ _⟩
              | 7, ho, hv =>
                cases Option.some.inj ho
                cases Option.some.inj hv
                have h33 : A.tmps[33]?.getD undef = .int .u64 (wd (St ri) 0 : Int) := (gd A 33).trans (hhas 3 33 _ rfl (hdep ⟨3, .data⟩ (by simp) rfl))
                have h36 : A.tmps[36]?.getD undef = .int .u64 (IntKind.u64.wrap (2 ^ an)) := (gd A 36).trans (hhas 6 36 _ rfl (hdep ⟨6, .data⟩ (by simp) rfl))
                have hor := HOR.out
                refine wpOp_step rfl (fun K hK => ?_)
                go_simp
                exact hK _ _ ⟨rfl, Below.refl _ _⟩
              | 8, ho, hv =>
                cases Option.some.inj ho
                cases Option.some.inj hv
                have h30 : A.tmps[30]?.getD undef = .slice (some ⟨w.heap.size, 0, none⟩) cs.length cs.length := (gd A 30).trans (hhas 0 30 _ rfl (hdep ⟨0, .data⟩ (by simp) rfl))
                have h31 : A.tmps[31]?.getD undef = .int .i64 (ri : Int) := (gd A 31).trans (hhas 1 31 _ rfl (hdep ⟨1, .data⟩ (by simp) rfl))
                refine wpOp_step rfl (fun K hK => ?_)
                go_simp
                exact hK _ _ ⟨rfl, Below.refl _ _⟩
              | k + 9, ho, hv => simp at hv
            · intro o W ho hJ
              cases Option.some.inj ho
              simp only [putAll_cons, putAll_nil, Act.put, List.setIfInBounds_toArray, List.set_cons_succ, List.set_cons_zero]
              refine wpOp_step rfl (fun K hK => ?_)
              have hW := (hst.below hJ).set ri (fun k => St ri k || decide (k = an))
              have z := (hJ.cell (block_lt_of_cell rc)).trans rc
              have y := (hst.below hJ).frz ri
              have HN := hidv (HNX.out _ hW)
              clear hst HNX hW
              go_simp
              refine hK _ _ ⟨⟨undef, rfl⟩, ?_⟩
              clear hK hJ z y
              go_wp2_with fail
              go_roundw
              case rel => first
                | exact HN.out
                | ((repeat apply Exists.intro); exact ⟨HN.out, rfl⟩)
              case measure => simp [intOf]; omega

          · have hob : (op == 8) = false := beq_eq_false_iff_ne.2 ho
            have HN : Hid (EB cs ri ul.length w (.int .i64 ((j + 1 : Nat) : Int)) (wr.alloc (.cells #[.int .i64 op, .int .i64 a, .int .i64 b, .int .i64 t, .slice ps sp.length ck] 65))) := ⟨j + 1, rfl, by omega, by rw [← cE_skip hjx' ho]; exact hst1⟩
            generalize hwI : wr.alloc (.cells #[.int .i64 op, .int .i64 a, .int .i64 b, .int .i64 t, .slice ps sp.length ck] 65) = wI at *
            clear hst1 bI hxI hie hjx hjx' hrow hcall e0 e1 e2 e3 e4 HCU HAL HCD HC HK hst ho
            go_wp2_with fail
            go_roundw
            case rel => first
              | exact HN.out
              | ((repeat apply Exists.intro); exact ⟨HN.out, rfl⟩)
            case measure => simp [intOf]; omega
        · have hltj' : ¬ (j : Int) < (ul.length : Int) := by omega
          have HN : Hid (EA cs w (.int .i64 ((ri + 1 : Nat) : Int)) wr) := ⟨ri + 1, rfl, by omega, by rw [← cE_row (j := j) (by rw [HCD.out]; show ul.length ≤ j; omega)]; exact hst⟩
          clear hst HCU HAL HCD HC HK
          go_wp2_with fail
          go_roundw
          case rel => first
            | exact HN.out
            | ((repeat apply Exists.intro); exact ⟨HN.out, rfl⟩)
          case measure => simp [intOf]; omega
    · have hlt' : ¬ (ri : Int) < (cs.length : Int) := by omega
      have hsC : UcM w cs.length (wE (callE cs) 0 0) wr := hsA.same fun r k hr _ => by
        unfold cE wE
        rw [if_pos (by omega), if_neg (by omega)]
        rfl
      have HSC := hidv hsC
      clear hsA HC HK hsC
      go_wp2_with fail
      have hst := HSC.out
      clear HSC
      go_loopw [43] (fun t wr => EC cs w t wr) (fun t _ => cs.length - (intOf t).toNat)
      case atStart => exact ⟨0, rfl, by omega, hst⟩
      case round =>
        obtain ⟨m, rfl, hm, hsM⟩ := hrel
        clear hst
        have hm0 : (0 : Int) ≤ (m : Int) := by omega
        by_cases hltm : m < cs.length
        · have hltm' : (m : Int) < (cs.length : Int) := by omega
          have HSM := hidv hsM
          clear hsM
          go_wp2_with fail
          have hsM := HSM.out
          clear HSM
          go_loopw [48] (fun t wr => ED cs m w t wr) (fun t _ => cs.length - (intOf t).toNat)
          case atStart => exact ⟨0, rfl, by omega, hsM⟩
          case round =>
            obtain ⟨ri, rfl, hi, hst⟩ := hrel
            clear hsM
            have hr0 : (0 : Int) ≤ (ri : Int) := by omega
            by_cases hltr : ri < cs.length
            · have hltr' : (ri : Int) < (cs.length : Int) := by omega
              have rc := hst.cell hltr
              have rm := hst.cell hltm
              have cH := has_any (wE (callE cs) m ri ri) m (by omega) wr
              cases hb : wE (callE cs) m ri ri m with
              | true =>
                rw [hb] at cH
                have HNX : Hid (∀ W, UcM w cs.length (updR (wE (callE cs) m ri) ri (fun k => wE (callE cs) m ri ri k || wE (callE cs) m ri m k)) W → ED cs m w (.int .i64 ((ri + 1 : Nat) : Int)) W) := fun W hW => ⟨ri + 1, rfl, by omega, hW.same fun r k _ _ => wE_yes hb r k⟩
                clear hb
                generalize wE (callE cs) m ri = St at *
                have HOR := hidv (wd_both (St ri) (St m))
                go_wp2_with fail
                refine cH.mono ?_
                rintro e w1 ⟨rfl, rfl⟩
                clear cH
                go_wp2_with fail
                refine wp_region_last (by kernel_rfl) (by kernel_rfl) (by kernel_rfl) (by kernel_rfl) 10 (by kernel_rfl) (by kernel_rfl) [(57, .slice (some ⟨w.heap.size, 0, none⟩) cs.length cs.length), (58, .int .i64 (ri : Int)), (59, .pointer (some ⟨w.heap.size, ri, none⟩)), (60, .int .u64 (wd (St ri) 0 : Int)), (61, .slice (some ⟨w.heap.size, 0, none⟩) cs.length cs.length), (62, .int .i64 (m : Int)), (63, .pointer (some ⟨w.heap.size, m, none⟩)), (64, .int .u64 (wd (St m) 0 : Int)), (65, .int .u64 (wd (fun k => St ri k || St m k) 0 : Int)), (66, .pointer (some ⟨w.heap.size, ri, none⟩))] (by kernel_rfl) (by kernel_rfl) ?_ ?_
                · intro i s v o L A W ho hv hdep hJ hkept hhas
                  match i, ho, hv with
                  | 0, ho, hv =>
                    cases Option.some.inj ho
                    cases Option.some.inj hv
                    have h3 : A.tmps[3]?.getD undef = .slice (some ⟨w.heap.size, 0, none⟩) cs.length cs.length := (gd A 3).trans (hkept 3 (by kernel_rfl))
                    refine wpOp_step rfl (fun K hK => ?_)
                    go_simp
                    exact hK _ _ ⟨rfl, Below.refl _ _⟩
                  | 1, ho, hv =>
                    cases Option.some.inj ho
                    cases Option.some.inj hv
                    have h9 : A.tmps[9]?.getD undef = .int .i64 (ri : Int) := (gd A 9).trans (hkept 9 (by kernel_rfl))
                    refine wpOp_step rfl (fun K hK => ?_)
                    go_simp
                    exact hK _ _ ⟨rfl, Below.refl _ _⟩
                  | 2, ho, hv =>
                    cases Option.some.inj ho
                    cases Option.some.inj hv
                    have h57 : A.tmps[57]?.getD undef = .slice (some ⟨w.heap.size, 0, none⟩) cs.length cs.length := (gd A 57).trans (hhas 0 57 _ rfl (hdep ⟨0, .data⟩ (by simp) rfl))
                    have h58 : A.tmps[58]?.getD undef = .int .i64 (ri : Int) := (gd A 58).trans (hhas 1 58 _ rfl (hdep ⟨1, .data⟩ (by simp) rfl))
                    refine wpOp_step rfl (fun K hK => ?_)
                    go_simp
                    exact hK _ _ ⟨rfl, Below.refl _ _⟩
                  | 3, ho, hv =>
                    cases Option.some.inj ho
                    cases Option.some.inj hv
                    have h59 : A.tmps[59]?.getD undef = .pointer (some ⟨w.heap.size, ri, none⟩) := (gd A 59).trans (hhas 2 59 _ rfl (hdep ⟨2, .data⟩ (by simp) rfl))
                    have z := (hJ.cell (block_lt_of_cell rc)).trans rc
                    refine wpOp_step rfl (fun K hK => ?_)
                    go_simp
                    exact hK _ _ ⟨rfl, Below.refl _ _⟩
                  | 4, ho, hv =>
                    cases Option.some.inj ho
                    cases Option.some.inj hv
                    have h3 : A.tmps[3]?.getD undef = .slice (some ⟨w.heap.size, 0, none⟩) cs.length cs.length := (gd A 3).trans (hkept 3 (by kernel_rfl))
                    refine wpOp_step rfl (fun K hK => ?_)
                    go_simp
                    exact hK _ _ ⟨rfl, Below.refl _ _⟩
                  | 5, ho, hv =>
                    cases Option.some.inj ho
                    cases Option.some.inj hv
                    have h8 : A.tmps[8]?.getD undef = .int .i64 (m : Int) := (gd A 8).trans (hkept 8 (by kernel_rfl))
                    refine wpOp_step rfl (fun K hK => ?_)
                    go_simp
                    exact hK _ _ ⟨rfl, Below.refl _ _⟩
                  | 6, ho, hv =>
                    cases Option.some.inj ho
                    cases Option.some.inj hv
                    have h61 : A.tmps[61]?.getD undef = .slice (some ⟨w.heap.size, 0, none⟩) cs.length cs.length := (gd A 61).trans (hhas 4 61 _ rfl (hdep ⟨4, .data⟩ (by simp) rfl))
                    have h62 : A.tmps[62]?.getD undef = .int .i64 (m : Int) := (gd A 62).trans (hhas 5 62 _ rfl (hdep ⟨5, .data⟩ (by simp) rfl))
                    refine wpOp_step rfl (fun K hK => ?_)
                    go_simp
                    exact hK _ _ ⟨rfl, Below.refl _ _⟩
                  | 7, ho, hv =>
                    cases Option.some.inj ho
                    cases Option.some.inj hv
                    have h63 : A.tmps[63]?.getD undef = .pointer (some ⟨w.heap.size, m, none⟩) := (gd A 63).trans (hhas 6 63 _ rfl (hdep ⟨6, .data⟩ (by simp) rfl))
                    have z := (hJ.cell (block_lt_of_cell rm)).trans rm
                    refine wpOp_step rfl (fun K hK => ?_)
                    go_simp
                    exact hK _ _ ⟨rfl, Below.refl _ _⟩
                  | 8, ho, hv =>
                    cases Option.some.inj ho
                    cases Option.some.inj hv
                    have h60 : A.tmps[60]?.getD undef = .int .u64 (wd (St ri) 0 : Int) := (gd A 60).trans (hhas 3 60 _ rfl (hdep ⟨3, .data⟩ (by simp) rfl))
                    have h64 : A.tmps[64]?.getD undef = .int .u64 (wd (St m) 0 : Int) := (gd A 64).trans (hhas 7 64 _ rfl (hdep ⟨7, .data⟩ (by simp) rfl))
                    have hor := HOR.out
                    refine wpOp_step rfl (fun K hK => ?_)
                    go_simp
                    exact hK _ _ ⟨rfl, Below.refl _ _⟩
                  | 9, ho, hv =>
                    cases Option.some.inj ho
                    cases Option.some.inj hv
                    have h57 : A.tmps[57]?.getD undef = .slice (some ⟨w.heap.size, 0, none⟩) cs.length cs.length := (gd A 57).trans (hhas 0 57 _ rfl (hdep ⟨0, .data⟩ (by simp) rfl))
                    have h58 : A.tmps[58]?.getD undef = .int .i64 (ri : Int) := (gd A 58).trans (hhas 1 58 _ rfl (hdep ⟨1, .data⟩ (by simp) rfl))
                    refine wpOp_step rfl (fun K hK => ?_)
                    go_simp
                    exact hK _ _ ⟨rfl, Below.refl _ _⟩
                  | k + 10, ho, hv => simp at hv
                · intro o W ho hJ
                  cases Option.some.inj ho
                  simp only [putAll_cons, putAll_nil, Act.put, List.setIfInBounds_toArray, List.set_cons_succ, List.set_cons_zero]
                  refine wpOp_step rfl (fun K hK => ?_)
                  have hW := (hst.below hJ).set ri (fun k => St ri k || St m k)
                  have z := (hJ.cell (block_lt_of_cell rc)).trans rc
                  have y := (hst.below hJ).frz ri
                  have HN := hidv (HNX.out _ hW)
                  clear hst HNX hW
                  go_simp
                  refine hK _ _ ⟨⟨undef, rfl⟩, ?_⟩
                  clear hK hJ z y
                  go_wp2_with fail
                  go_roundw
                  case rel => first
                    | exact HN.out
                    | ((repeat apply Exists.intro); exact ⟨HN.out, rfl⟩)
                  case measure => simp [intOf]; omega

              | false =>
                rw [hb] at cH
                have HN : Hid (ED cs m w (.int .i64 ((ri + 1 : Nat) : Int)) wr) := ⟨ri + 1, rfl, by omega, hst.same fun r k _ _ => wE_no hb r k⟩
                clear hb hst
                generalize wE (callE cs) m ri = St at *
                go_wp2_with fail
                refine cH.mono ?_
                rintro e w1 ⟨rfl, rfl⟩
                clear cH
                go_wp2_with fail
                go_roundw
                case rel => first
                  | exact HN.out
                  | ((repeat apply Exists.intro); exact ⟨HN.out, rfl⟩)
                case measure => simp [intOf]; omega
            · have hltr' : ¬ (ri : Int) < (cs.length : Int) := by omega
              have HN : Hid (EC cs w (.int .i64 ((m + 1 : Nat) : Int)) wr) := ⟨m + 1, rfl, by omega, hst.same fun r k hr _ => by
                unfold wE
                rw [if_pos (by omega), if_neg (by omega)]⟩
              clear hst
              go_wp2_with fail
              go_roundw
              case rel => first
                | exact HN.out
                | ((repeat apply Exists.intro); exact ⟨HN.out, rfl⟩)
              case measure => simp [intOf]; omega
        · have hltm' : ¬ (m : Int) < (cs.length : Int) := by omega
          have HN : Hid (UcM w cs.length (wars (callE cs) cs.length) wr) := by
            show UcM _ _ _ _
            have e : m = cs.length := by omega
            subst e
            exact hsM.same fun r k _ _ => by unfold wE; rw [if_neg (by omega)]
          clear hsM
          go_wp2_with fail
          go_ret
          exact ⟨rfl, HN.out⟩
end Go.Proofs.Ytaeengpppehlfaa

/- A map from numbers to numbers; vm.measured's own question. -/
namespace Go.Proofs.Ytaeengpppehlfaa
open Go.RowKit Msk Vx

theorem mapT9 : Try.prog.underlying 112 = some (.map 3 3) := by kernel_rfl
theorem intT9 : Try.prog.underlying 3 = some (.int .i64) := by kernel_rfl
def kv9 (e : MapEntry) : Value × Value := (e.key, e.val)
def kvs9 (L : List (Int × Int)) : List (Value × Value) := L.map fun n => (.int .i64 n.1, .int .i64 n.2)
/-- Numbers by numbers in memory. -/
def MapI (w : World) (b : Nat) (L : List (Int × Int)) : Prop := ∃ es c, w.heap[b]? = some (.map es c) ∧ es.toList.map kv9 = kvs9 L
theorem MapI.later {w w' : World} {b : Nat} {L : List (Int × Int)} (h : MapI w b L) (hk : w'.heap[b]? = w.heap[b]?) : MapI w' b L := by
  obtain ⟨es, c, h1, h2⟩ := h
  exact ⟨es, c, hk.trans h1, h2⟩
theorem lt_of_mapI {w : World} {b : Nat} {L : List (Int × Int)} (h : MapI w b L) : b < w.heap.size := by
  obtain ⟨es, c, h1, _⟩ := h
  exact (Array.getElem?_eq_some_iff.1 h1).1
theorem findI (k : Int) : ∀ (es : List MapEntry) (L : List (Int × Int)) (i : Nat), es.map kv9 = kvs9 L → (∃ v j, lk L k = some v ∧ Instr.findNow (.int .i64) (.int .i64 k) es i = some (some (i + j, .int .i64 v)) ∧ (es[j]?).map kv9 = some (.int .i64 k, .int .i64 v) ∧ ∀ v', kvs9 (upL L k v') = (es.map kv9).set j (.int .i64 k, .int .i64 v')) ∨ (lk L k = none ∧ Instr.findNow (.int .i64) (.int .i64 k) es i = some none ∧ ∀ v', upL L k v' = L ++ [(k, v')])
  | [], [], i, _ => .inr ⟨rfl, rfl, fun _ => rfl⟩
  | [], _ :: _, i, h => by simp [kvs9] at h
  | _ :: _, [], i, h => by simp [kvs9] at h
  | e :: es, n :: L, i, h => by
    simp only [kvs9, List.map_cons, List.cons.injEq] at h
    obtain ⟨h1, h2⟩ := h
    have hk : e.key = .int .i64 n.1 := congrArg Prod.fst h1
    have hv : e.val = .int .i64 n.2 := congrArg Prod.snd h1
    have hs : Instr.sameNow (.int .i64) (.int .i64 k) e.key = some (k == n.1) := by rw [hk]; simp [Instr.sameNow]
    simp only [Instr.findNow, hs]
    by_cases e1 : k = n.1
    · left
      refine ⟨n.2, 0, by simp [lk, e1], ?_, ?_, fun v' => ?_⟩
      · simp [e1, hv]
      · simp only [List.getElem?_cons_zero, Option.map_some, h1, e1]
      · have hq : es.map kv9 = kvs9 L := h2
        simp only [upL, if_pos e1, List.map_cons, List.set_cons_zero, hq]
        rfl
    · have e2 : (k == n.1) = false := by simpa using e1
      rw [e2]
      rcases findI k es L (i + 1) h2 with ⟨v, j, m, f, g, q⟩ | ⟨m, f, q⟩
      · left
        refine ⟨v, j + 1, by simp [lk, e1, m], by rw [show i + (j + 1) = i + 1 + j by omega]; exact f, by simpa using g, fun v' => ?_⟩
        simp only [upL, if_neg e1, List.map_cons, List.set_cons_succ, ← q v', h1]
        rfl
      · right
        refine ⟨by simp [lk, e1, m], f, fun v' => ?_⟩
        simp only [upL, if_neg e1, q v', List.cons_append]
/-- What is looked up. -/
theorem lookI {w : World} {b : Nat} {L : List (Int × Int)} (h : MapI w b L) (k : Int) : (Instr.lookup 112 (.map (some b)) (.int .i64 k) true).run Try.prog w = .ok (.tuple #[.int .i64 ((lk L k).getD 0), .bool (lk L k).isSome]) w := by
  obtain ⟨es, c, hb, hE⟩ := h
  have hc : ∀ z, (Instr.checkKey z 10000 3 (.int .i64 k)).run Try.prog w = .ok () w := fun z => MapKept.run_checkKey (k := .int .i64 k) intT9 (by simp [MapKept.IsKey]) z 9999
  have hz : (zeroValue 3).run Try.prog w = .ok (.int .i64 0) w := by kernel_rfl
  rcases findI k es.toList L 0 hE with ⟨v, j, h1, h2, _, _⟩ | ⟨h1, h2, _⟩
  · simp [Instr.lookup, run_underlying mapT9, MapKept.run_getObj_map hb, hc, MapKept.run_findKey intT9 h2, Result.andThen, h1]
  · simp [Instr.lookup, run_underlying mapT9, MapKept.run_getObj_map hb, hc, MapKept.run_findKey intT9 h2, hz, Result.andThen, h1]
def putI (w : World) (b : Nat) (o : Obj) : World := { w with heap := w.heap.setIfInBounds b o }
theorem putI_below {r n : Nat} {w0 w : World} (h : Below n w0 w) (hr : n ≤ r) (o : Obj) : Below n w0 (putI w r o) :=
  ⟨h.os, h.tape, h.output, by simpa [putI] using h.size, fun k hk => by
    rw [← h.block k hk]
    show (w.heap.setIfInBounds r o)[k]? = _
    rw [Array.getElem?_setIfInBounds_ne (by omega)]⟩
theorem putI_other {r k : Nat} {w : World} (o : Obj) (h : k ≠ r) : (putI w r o).heap[k]? = w.heap[k]? := by
  show (w.heap.setIfInBounds r o)[k]? = _
  rw [Array.getElem?_setIfInBounds_ne (by omega)]
/-- A number is put. -/
theorem insI {w : World} {b : Nat} {L : List (Int × Int)} (h : MapI w b L) (k v : Int) : ∃ o, (Instr.mapUpdate 112 (.map (some b)) (.int .i64 k) (.int .i64 v)).run Try.prog w = .ok () (putI w b o) ∧ MapI (putI w b o) b (upL L k v) := by
  obtain ⟨es, c, hb, hE⟩ := h
  have hc : (Instr.checkKey false 10000 3 (.int .i64 k)).run Try.prog w = .ok () w := MapKept.run_checkKey (k := .int .i64 k) intT9 (by simp [MapKept.IsKey]) false 9999
  rcases findI k es.toList L 0 hE with ⟨v0, j, h1, h2, h3, h4⟩ | ⟨h1, h2, h4⟩
  · have hks : (Instr.keyThatStays (.int .i64 k) (.int .i64 k)).run Try.prog w = .ok (.int .i64 k) w := MapKept.run_keyThatStays (d := .int .i64) (by simp [MapKept.IsKey])
    have hold : (Option.map (fun x => x.key) es[j]?).getD (.int .i64 k) = .int .i64 k := by
      rw [Array.getElem?_toList] at h3
      cases he : es[j]? with
      | none => rfl
      | some e =>
        rw [he] at h3
        simp [kv9] at h3
        simp [h3.1]
    refine ⟨.map (es.modify j fun e => { e with key := .int .i64 k, val := .int .i64 v }) c, ?_, _, c, (MapKept.heap_set hb).1, ?_⟩
    · rw [Nat.zero_add] at h2
      simp [Instr.mapUpdate, run_underlying mapT9, MapKept.run_getObj_map hb, hc, MapKept.run_findKey intT9 h2, hold, hks, MapKept.run_setObj_map _ hb, Result.andThen, putI]
    · rw [h4 v]
      rw [Array.getElem?_toList] at h3
      apply List.ext_getElem?
      intro q
      simp only [List.getElem?_map, Array.getElem?_toList, Array.getElem?_modify, List.getElem?_set]
      by_cases eq : j = q
      · subst eq
        rw [if_pos rfl, if_pos rfl]
        cases he : es[j]? with
        | none => rw [he] at h3; simp at h3
        | some e =>
          have hj : j < es.size := (Array.getElem?_eq_some_iff.1 he).1
          simp [kv9, hj]
      · rw [if_neg eq, if_neg eq]
  · refine ⟨.map (es.push ⟨.int .i64 k, .int .i64 v, c⟩) (c + 1), ?_, _, c + 1, (MapKept.heap_set hb).1, ?_⟩
    · simp [Instr.mapUpdate, run_underlying mapT9, MapKept.run_getObj_map hb, hc, MapKept.run_findKey intT9 h2, MapKept.run_setObj_map _ hb, Result.andThen, putI]
    · rw [h4 v, Array.toList_push, List.map_append, hE]
      simp [kvs9, kv9]
theorem makeI (w : World) : (Instr.makeMap 112 none).run Try.prog w = .ok (.map (some w.heap.size)) (w.alloc (.map #[] 0)) := by
  unfold Instr.makeMap
  simp [go_sem]
/-- What measured keeps: a map, and where it lies. -/
structure MmI (w : World) (L : List (Int × Int)) (W : World) : Prop where
  bel : Below w.heap.size w W
  map : MapI W w.heap.size L
  var : W.heap[w.heap.size + 1]? = some (.cells #[.map (some w.heap.size)] 112 (0, 0))
theorem MmI.below {w W W' : World} {L : List (Int × Int)} (h : MmI w L W) (hb : Below W.heap.size W W') : MmI w L W' :=
  ⟨h.bel.trans (hb.mono h.bel.size), h.map.later (hb.block _ (lt_of_mapI h.map)), (hb.block _ (lt_of_block h.var)).trans h.var⟩
set_option maxRecDepth 100000 in
set_option maxHeartbeats 1000000 in
theorem agrees_any (L : List (Int × Int)) (p h : Int) (w W : World) (hm : MmI w L W) : Calls Try.prog 73 #[.int .i64 p, .int .i64 h, .pointer (some ⟨w.heap.size + 1, 0, none⟩)] W fun e w' => e = .returned (.bool (agB L p h)) ∧ w' = W := by
  have hlk := lookI hm.map p
  have z := (cell_of_row _ _ 0 _ _ _ hm.var).trans rfl
  generalize hX : agB L p h = X
  unfold agB at hX
  clear hm
  cases hl : lk L p with
  | none =>
    rw [hl] at hlk hX
    have hlk' : (Instr.lookup 112 (.map (some w.heap.size)) (.int .i64 p) true).run Try.prog W = .ok (.tuple #[.int .i64 0, .bool false]) W := hlk
    dsimp only at hX
    subst hX
    clear hlk hl
    go_enter Try.func73, Try.ntmps73
    go_wp2_with fail
    go_ret
    exact ⟨rfl, rfl⟩
  | some v =>
    rw [hl] at hlk hX
    have hlk' : (Instr.lookup 112 (.map (some w.heap.size)) (.int .i64 p) true).run Try.prog W = .ok (.tuple #[.int .i64 v, .bool true]) W := hlk
    dsimp only at hX
    have hX' : (v == h) = X := by rw [← hX]; rfl
    clear hlk hl hX
    go_enter Try.func73, Try.ntmps73
    go_wp2_with fail
    go_ret
    exact ⟨rfl, rfl⟩
end Go.Proofs.Ytaeengpppehlfaa
