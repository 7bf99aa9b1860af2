/- The machine runs a rule's code. -/
import Derived.Test.YtpmobjgnmidolaaDoorCu11
import Derived.Test.YtpmobjgnmidolaaDoorCu08
namespace Go.Proofs.YtpmobjgnmidolaaDoor
open Go.RowKit Msk Vx

theorem mst_cast {w0 : World} {gm : Nat} {lv : Value} {day c c' : Int} {S S' : List M} {W : World} (h : VSt w0 gm lv day S c W) (e1 : S = S') (e2 : c = c') : VSt w0 gm lv day S' c' W := by
  subst e1 e2
  exact h
set_option maxRecDepth 10000 in
set_option maxHeartbeats 1000000 in
theorem step_all {ev : Nat → M × Nat} {x : In} {sv : Value} {s : Vx.St} {B : List M} {c : Int} {W w0 : World} {gm : Nat} {lv : Value} {day : Int} {n r : Nat} (h : VSt w0 gm lv day (B ++ s.S) c W) (hr : RowV W sv x.sp) (hi : insE x s.k n r = 0) (hk : s.k ≤ 2000) (hS : B.length + s.S.length ≤ 900) (htk : tk x ≤ s.S.length)
    (d0 : 0 ≤ day) (d1 : day < 146097)
    (hrun : x.op = 8 → ∀ W, VSt w0 gm lv day (B ++ s.S) c W → Calls Tryd.prog 27 #[.pointer (some ⟨gm, 0, none⟩), .int .i64 x.a] W fun e W' => e = .returned (.tuple #[]) ∧ VSt w0 gm lv day (B ++ s.S ++ [(ev x.a.toNat).1]) (c + (ev x.a.toNat).2) W') :
    Calls Tryd.prog 60 #[.pointer (some ⟨gm, 0, none⟩), .agg #[.int .i64 x.op, .int .i64 x.a, .int .i64 x.b, .int .i64 x.to, sv], .int .i64 (s.k : Int)] W fun e W' => e = .returned (.int .i64 ((stepV (wkB9 day) day ev x s).k : Int)) ∧ VSt w0 gm lv day (B ++ (stepV (wkB9 day) day ev x s).S) (c + (((stepV (wkB9 day) day ev x s).n : Int) - (s.n + 1))) W' := by
  have hl : (B ++ s.S).length ≤ 900 := by rw [List.length_append]; exact hS
  rcases ins_kinds hi with ho | ho | ho | ho | ho | ho | ho
  · have e : stepV (wkB9 day) day ev x s = ⟨s.k + 1, s.S ++ [spM x.sp], s.n + 1⟩ := by simp [stepV, ho]
    rw [e, ho]
    refine (step_1 w0 gm lv day c (B ++ s.S) x.a x.b x.to sv x.sp s.k W h hr hk hl).mono ?_
    rintro e' W' ⟨rfl, h'⟩
    exact ⟨rfl, mst_cast h' (by simp) (by simp)⟩
  · have e : stepV (wkB9 day) day ev x s = ⟨s.k + 1, pop2 unM s.S, s.n + 1⟩ := by simp [stepV, ho]
    have h2 : tk x = 2 := by simp [tk, ho]
    obtain ⟨T, f, g, hT⟩ := last2 (S := s.S) (by omega)
    rw [e, ho]
    dsimp only
    rw [hT] at h hl ⊢
    rw [pop2_eq]
    refine (step_2 w0 gm lv day c (B ++ T) f g x.a x.b x.to sv s.k W (mst_cast h (by simp) rfl) hk (by simp at hl ⊢; omega)).mono ?_
    rintro e' W' ⟨rfl, h'⟩
    exact ⟨rfl, mst_cast h' (by simp) (by simp)⟩
  · have e : stepV (wkB9 day) day ev x s = ⟨s.k + 1, pop2 dfM s.S, s.n + 1⟩ := by simp [stepV, ho]
    have h2 : tk x = 2 := by simp [tk, ho]
    obtain ⟨T, f, g, hT⟩ := last2 (S := s.S) (by omega)
    rw [e, ho]
    dsimp only
    rw [hT] at h hl ⊢
    rw [pop2_eq]
    refine (step_3 w0 gm lv day c (B ++ T) f g x.a x.b x.to sv s.k W (mst_cast h (by simp) rfl) hk (by simp at hl ⊢; omega)).mono ?_
    rintro e' W' ⟨rfl, h'⟩
    exact ⟨rfl, mst_cast h' (by simp) (by simp)⟩
  · have e : stepV (wkB9 day) day ev x s = ⟨s.k + 1, pop2 boM s.S, s.n + 1⟩ := by simp [stepV, ho]
    have h2 : tk x = 2 := by simp [tk, ho]
    obtain ⟨T, f, g, hT⟩ := last2 (S := s.S) (by omega)
    rw [e, ho]
    dsimp only
    rw [hT] at h hl ⊢
    rw [pop2_eq]
    refine (step_4 w0 gm lv day c (B ++ T) f g x.a x.b x.to sv s.k W (mst_cast h (by simp) rfl) hk (by simp at hl ⊢; omega)).mono ?_
    rintro e' W' ⟨rfl, h'⟩
    exact ⟨rfl, mst_cast h' (by simp) (by simp)⟩
  · have e : stepV (wkB9 day) day ev x s = ⟨s.k + 1, pop1 (fun f => shM f x.a) s.S, s.n + 1⟩ := by simp [stepV, ho]
    have h2 : tk x = 1 := by simp [tk, ho]
    have hrng : -1439 ≤ x.a ∧ x.a ≤ 1439 := by
      simp only [insE, ho] at hi
      simp only [show ¬ ((5 : Int) = 2 ∨ (5 : Int) = 3 ∨ (5 : Int) = 4) by omega, show ¬ (5 : Int) = 1 by omega, if_false, if_true] at hi
      by_cases hh : x.a ≠ 0 ∧ -1439 ≤ x.a ∧ x.a ≤ 1439
      · exact hh.2
      · rw [if_neg hh] at hi; simp at hi
    obtain ⟨T, g, hT⟩ := last1 (S := s.S) (by omega)
    rw [e, ho]
    dsimp only
    rw [hT] at h hl ⊢
    rw [pop1_eq]
    refine (step_5 w0 gm lv day c (B ++ T) g x.a x.b x.to sv s.k W (mst_cast h (by simp) rfl) hk (by simp at hl ⊢; omega) hrng.1 hrng.2).mono ?_
    rintro e' W' ⟨rfl, h'⟩
    exact ⟨rfl, mst_cast h' (by simp) (by simp)⟩
  · have e : stepV (wkB9 day) day ev x s = ⟨s.k + 1, s.S ++ [(ev x.a.toNat).1], s.n + 1 + (ev x.a.toNat).2⟩ := by simp [stepV, ho]
    rw [e]
    have hr' := hrun ho
    rw [ho]
    refine (step_8 w0 gm lv day c (B ++ s.S) (B ++ s.S ++ [(ev x.a.toNat).1]) (c + (ev x.a.toNat).2) x.a x.b x.to sv s.k W h hk hr').mono ?_
    rintro e' W' ⟨rfl, h'⟩
    exact ⟨rfl, mst_cast h' (by simp) (by push_cast; omega)⟩
  · have hto := ins_to hi ho
    obtain ⟨ps, cs, rfl, _, _⟩ := hr.form
    have e : stepV (wkB9 day) day ev x s = if onD (wkB9 day) day x = true then ⟨s.k + 1, s.S, s.n + 1⟩ else ⟨x.to.toNat, s.S ++ [noM], s.n + 1⟩ := by
      unfold isG at ho
      unfold stepV
      rw [if_neg (by omega), if_neg (by omega), if_neg (by omega), if_neg (by omega), if_neg (by omega), if_neg (by omega)]
    rw [e]
    have hto2 : ((x.to.toNat : Nat) : Int) = x.to := by omega
    rcases ho with ho | ho
    · have e6 : onD (wkB9 day) day x = wkB9 day x.a := by simp [onD, ho]
      rw [ho, e6]
      refine (step_6 w0 gm lv day c (B ++ s.S) x.a x.b x.to ps x.sp.length cs s.k W h hk hl d0 d1).mono ?_
      rintro e' W' ⟨rfl, h'⟩
      cases hq : wkB9 day x.a with
      | true =>
        rw [hq] at h'
        exact ⟨rfl, mst_cast h' rfl (by simp)⟩
      | false =>
        rw [hq] at h'
        exact ⟨congrArg (fun q => Ending.returned (.int .i64 q)) hto2.symm, mst_cast h' (by simp) (by simp)⟩
    · have e7 : onD (wkB9 day) day x = (decide (x.a ≤ day) && decide (day ≤ x.b)) := by
        unfold onD
        rw [if_neg (by omega)]
      rw [ho, e7]
      refine (step_7 w0 gm lv day c (B ++ s.S) x.a x.b x.to ps x.sp.length cs s.k W h hk hl).mono ?_
      rintro e' W' ⟨rfl, h'⟩
      cases hq : (decide (x.a ≤ day) && decide (day ≤ x.b)) with
      | true =>
        rw [hq] at h'
        exact ⟨rfl, mst_cast h' rfl (by simp)⟩
      | false =>
        rw [hq] at h'
        exact ⟨congrArg (fun q => Ending.returned (.int .i64 q)) hto2.symm, mst_cast h' (by simp) (by simp)⟩
/-- A step is counted. -/
theorem VSt.count {w0 W : World} {gm : Nat} {lv : Value} {day k : Int} {S : List M} (h : VSt w0 gm lv day S k W) (k' : Int) : VSt w0 gm lv day S k' (W.setCell ⟨gm, 3, none⟩ (.int .i64 k')) := by
  obtain ⟨h1, h2, sv, h3, h4⟩ := h
  have hne := own_ne h4 h3 (by decide)
  refine ⟨h1.setCell (p := ⟨gm, 3, none⟩) h2 _, h2, sv, heap_setCell_same W gm 3 _ _ _ h3, ?_⟩
  exact h4.kept (row := some gm) ⟨rfl, rfl, rfl, by simp, fun q hq hr => heap_setCell_other W ⟨gm, 3, none⟩ q _ fun e => hr (congrArg some e)⟩ (.inr fun e => hne e.symm)
def RRel (wk : Int → Bool) (day : Int) (ev : Nat → M × Nat) (cs : List Cd) (l : List In) (R : Vx.St) (w0 : World) (gm : Nat) (lv : Value) (B : List M) (c : Int) (t : Value) (wr : World) : Prop := ∃ s : Vx.St, t = .int .i64 (s.k : Int) ∧ SInv cs l s ∧ runV wk day ev l s = R ∧ VSt w0 gm lv day (B ++ s.S) (c + s.n) wr
set_option maxRecDepth 100000 in
set_option maxHeartbeats 4000000 in
theorem run_all (cs : List Cd) (lv : Value) (w0 : World) (gm : Nat) (day : Int) (hR : Right cs) (hin : InV w0 lv cs) (d0 : 0 ≤ day) (d1 : day < 146097) : ∀ (d r : Nat) (B : List M) (c : Int) (W : World), r < cs.length → rk (callE cs) cs.length r < d → VSt w0 gm lv day B c W → (B.length : Int) + (cs.getD r cd0).high ≤ 800 → 0 ≤ c → c + (cs.getD r cd0).steps ≤ 1000000 →
    Calls Tryd.prog 27 #[.pointer (some ⟨gm, 0, none⟩), .int .i64 (r : Int)] W fun e W' => e = .returned (.tuple #[]) ∧ VSt w0 gm lv day (B ++ [(evV (wkB9 day) day cs d r).1]) (c + (evV (wkB9 day) day cs d r).2) W'
  | 0, _, _, _, _, _, hd, _, _, _, _ => by omega
  | d + 1, r, B, c, W, hr, hd, hM, hB, hc0, hc1 => by
    have ih := run_all cs lv w0 gm day hR hin d0 d1 d
    obtain ⟨u, hu⟩ : ∃ u, cs[r]? = some u := ⟨cs[r], List.getElem?_eq_getElem hr⟩
    rw [cd_at hu] at hB hc1
    have hal := alone_ins (hR.alone r u hu)
    have hfit := hR.fit r u hu
    obtain ⟨hr1, hr2, hr3, hr4, hr5, hr6⟩ := hR.run (wk := wkB9 day) (day := day) (d + 1) r u hu hd
    rw [Nat.add_sub_cancel] at hr3 hr4 hr5 hr6
    have hup : Up (wkB9 day) day (evV (wkB9 day) day cs d) u.ins := up_of hal.2.2
    obtain ⟨p, cp, elv, hlen, hcc⟩ := hin.form
    obtain ⟨sv, hins, g, o, rfl, e0, _, _⟩ := hcc r u hu
    obtain ⟨pu, cu, rfl, hlu, hcu⟩ := hins.form
    have HCU := hidv hcu
    have HIH := hidv ih
    have HAL := hidv hal.2.2
    have HFIT := hidv hfit
    have HUP := hidv hup
    have HRT := hidv hR
    have HU := hidv hu
    have HST : Hid (∀ i, 0 ≤ (cs.getD i cd0).steps) := hR.steps0
    have HEV : Hid (∀ (j : Nat) (x : In), u.ins[j]? = some x → x.op = 8 → ((evV (wkB9 day) day cs d x.a.toNat).2 : Int) ≤ (cs.getD x.a.toNat cd0).steps) := fun j x hx ho => by
      obtain ⟨q1, _, q3⟩ := hR.call hu hx ho
      have hg : cs[x.a.toNat]? = some cs[x.a.toNat] := List.getElem?_eq_getElem q1
      rw [cd_at hg]
      exact (hR.run (wk := wkB9 day) (day := day) d _ _ hg (by omega)).2.1
    have hln : u.ins.length ≤ 2000 := hal.1.2
    have hstp : u.steps ≤ 20000 := hal.2.1.2.2
    have f0 := (hM.bel.cell (block_lt_of_cell e0)).trans e0
    have hi0 : (0 : Int) ≤ (r : Int) := by omega
    have hi1 : (r : Int) < (cs.length : Int) := by omega
    have hul : (0 : Int) ≤ (u.ins.length : Int) := by omega
    have nM : ∃ sv, W.heap[gm]? = some (.cells #[lv, .int .i64 day, sv, .int .i64 c] 75 (0, 0)) := by
      obtain ⟨_, _, s1, q, _⟩ := hM
      exact ⟨s1, q⟩
    obtain ⟨s1, nM⟩ := nM
    rw [elv] at nM
    have zM := (cell_of_row _ _ 0 _ _ _ nM).trans rfl
    have HM := hidv hM
    have HR5 := hidv hr5
    have HR6 := hidv hr6
    clear hal hfit hr1 hr2 hr3 hr4 hr5 hr6 hup hcc hins hcu ih hR hu hM nM hin elv
    go_enter Tryd.func27, Tryd.ntmps27
    go_wp2_with fail
    have hM := HM.out
    clear HM zM f0 e0
    go_loopw [5] (fun t wr => RRel (wkB9 day) day (evV (wkB9 day) day cs d) cs u.ins (runV (wkB9 day) day (evV (wkB9 day) day cs d) u.ins ⟨0, [], 0⟩) w0 gm lv B c t wr) (fun t _ => u.ins.length - (intOf t).toNat)
    case atStart => exact ⟨⟨0, [], 0⟩, rfl, SInv.nil, rfl, mst_cast hM (by simp) (by simp)⟩
    case round =>
      obtain ⟨s, rfl, hI, hrv, hMs⟩ := hrel
      clear hM
      have hk0 : (0 : Int) ≤ (s.k : Int) := by omega
      have hsle := hI.le
      have hsst := hI.st
      have hshi := hI.hi
      by_cases hlt : s.k < u.ins.length
      · have hlt' : (s.k : Int) < (u.ins.length : Int) := by omega
        obtain ⟨x, hx⟩ : ∃ x, u.ins[s.k]? = some x := ⟨u.ins[s.k], List.getElem?_eq_getElem hlt⟩
        obtain ⟨sk, hrow, g2, o2, hpe, k0, k1, k2, k3, k4⟩ := HCU.out s.k _ hx
        subst hpe
        have hie := HAL.out _ _ hx
        have hnext := hI.step (wk := wkB9 day) (day := day) (ev := evV (wkB9 day) day cs d) HFIT.out.well hx hie HST.out (HEV.out _ _ hx)
        have hrs := runV_step HUP.out hx
        have hm1 : stS cs u.ins s.k ≤ u.steps := by
          rw [← HFIT.out.steps]
          exact stS_mono HST.out (by omega)
        have hm2 : hAt u.ins s.k ≤ u.high := by
          rw [← HFIT.out.high]
          exact hAt_top (by omega)
        have htk := HFIT.out.well.tk _ _ hx
        have hM2 := hMs.count (c + s.n + 1)
        obtain ⟨_, _, s2, nM2, _⟩ := hMs
        have z3 := (cell_of_row _ _ 3 _ _ _ nM2).trans rfl
        have y3 := frozen_of_row _ _ 3 _ _ nM2
        have q0 := (hM2.bel.cell (block_lt_of_cell k0)).trans k0
        have q1 := (hM2.bel.cell (block_lt_of_cell k1)).trans k1
        have q2 := (hM2.bel.cell (block_lt_of_cell k2)).trans k2
        have q3 := (hM2.bel.cell (block_lt_of_cell k3)).trans k3
        have q4 := (hM2.bel.cell (block_lt_of_cell k4)).trans k4
        have cS := step_all (ev := evV (wkB9 day) day cs d) (x := x) (sv := sk) (s := s) (B := B) (r := cs.length) hM2 (hrow.later hM2.bel) hie (by omega) (by omega) (by omega) d0 d1 (fun ho W' hW' => by
          obtain ⟨v1, v2, v3⟩ := HRT.out.call HU.out hx ho
          have h8 := stS_step (cs := cs) hx
          rw [if_pos ho] at h8
          have h9 : stS cs u.ins (s.k + 1) ≤ u.steps := by
            rw [← HFIT.out.steps]
            exact stS_mono HST.out (by omega)
          have h10 := call_top (cs := cs) hx hlt ho
          rw [HFIT.out.high] at h10
          have := HIH.out x.a.toNat (B ++ s.S) (c + s.n + 1) W' v1 (by omega) hW' (by rw [List.length_append]; push_cast; omega) (by omega) (by omega)
          rw [v2] at this
          exact this)
        have HN : Hid (∀ W', VSt w0 gm lv day (B ++ (stepV (wkB9 day) day (evV (wkB9 day) day cs d) x s).S) (c + s.n + 1 + (((stepV (wkB9 day) day (evV (wkB9 day) day cs d) x s).n : Int) - (s.n + 1))) W' → RRel (wkB9 day) day (evV (wkB9 day) day cs d) cs u.ins (runV (wkB9 day) day (evV (wkB9 day) day cs d) u.ins ⟨0, [], 0⟩) w0 gm lv B c (.int .i64 ((stepV (wkB9 day) day (evV (wkB9 day) day cs d) x s).k : Int)) W') := fun W' hW' => ⟨_, rfl, hnext.1, hrs.symm.trans hrv, mst_cast hW' rfl (by omega)⟩
        have hgt := hnext.2
        have hc2 : c + s.n + 1 ≤ 2000000 := by omega
        have hc3 : 0 ≤ c + s.n := by omega
        obtain ⟨k', hk'⟩ : ∃ q, (stepV (wkB9 day) day (evV (wkB9 day) day cs d) x s).k = q := ⟨_, rfl⟩
        rw [hk'] at cS HN hgt
        generalize (stepV (wkB9 day) day (evV (wkB9 day) day cs d) x s).S = S' at *
        generalize (stepV (wkB9 day) day (evV (wkB9 day) day cs d) x s).n = n' at *
        clear hk' hnext hrs hI hrv hx hie htk hM2 nM2 HIH HRT HAL HFIT HUP HEV HST HU HCU HR5 HR6 hrow
        generalize hwS : wr.setCell ⟨gm, 3, none⟩ (.int .i64 (c + s.n + 1)) = wS at *
        go_wp2_with fail
        refine cS.mono ?_
        rintro e w2 ⟨rfl, h2⟩
        have HN2 := hidv (HN.out _ h2)
        clear cS h2 HN
        go_wp2_with fail
        go_roundw
        case rel => exact HN2.out
        case measure => simp [intOf]; omega
      · have hlt' : ¬ (s.k : Int) < (u.ins.length : Int) := by omega
        have hend := runV_end (wk := wkB9 day) (day := day) (ev := evV (wkB9 day) day cs d) (show s.k = u.ins.length by omega)
        have hs : s = runV (wkB9 day) day (evV (wkB9 day) day cs d) u.ins ⟨0, [], 0⟩ := hend.symm.trans hrv
        have HN : Hid (VSt w0 gm lv day (B ++ [(evV (wkB9 day) day cs (d + 1) r).1]) (c + (evV (wkB9 day) day cs (d + 1) r).2) wr) := by
          show VSt _ _ _ _ _ _ _
          rw [← HR5.out, ← HR6.out, ← hs]
          exact hMs
        clear hMs hs hend hrv hI HIH HRT HAL HFIT HUP HEV HST HU HCU HR5 HR6
        go_wp2_with fail
        exact ⟨rfl, _, results_none rfl _ _ _, rfl, HN.out⟩
end Go.Proofs.YtpmobjgnmidolaaDoor

/- vm.Run. Written by genvmm.py. -/
namespace Go.Proofs.YtpmobjgnmidolaaDoor
open Go.RowKit Msk Vx

/-- What is wrong with a run; what comes of it; in how many steps. -/
def runE (cs : List Cd) (rule day : Int) : Int × Nat := if (wrongV cs).1 ≠ 0 then wrongV cs else if ¬ (0 ≤ rule ∧ rule < cs.length) then (6, 0) else if ¬ (0 ≤ day ∧ day < 146097) then (3, 0) else (0, 0)
def runM (cs : List Cd) (rule day : Int) : M := if (runE cs rule day).1 = 0 then (evV (wkB9 day) day cs (cs.length + 1) rule.toNat).1 else fun _ => false
def runN (cs : List Cd) (rule day : Int) : Nat := if (runE cs rule day).1 = 0 then (evV (wkB9 day) day cs (cs.length + 1) rule.toNat).2 else 0
def OutRV (f : M) (n er at_ : Int) (w : World) (e : Ending) (w' : World) : Prop := e = .returned (.tuple #[.agg (mv f), .int .i64 n, .agg #[.int .i64 er, .int .i64 at_]]) ∧ Below w.heap.size w w'
theorem run_post {R : Ending → World → Prop} {a : Act} {w : World} (g g' : Nat) (f : M) (n er at_ : Int) (hd : a.defers = []) (h6 : a.tmps.getD 6 undef = .pointer (some ⟨g, 0, none⟩)) (h7 : a.tmps.getD 7 undef = .int .i64 n) (h8 : a.tmps.getD 8 undef = .pointer (some ⟨g', 0, none⟩))
    (hg : w.heap[g]? = some (.cells (mv f) 37 (0, 0))) (hg' : w.heap[g']? = some (.cells #[.int .i64 er, .int .i64 at_] 26 (0, 0))) (hR : R (.returned (.tuple #[.agg (mv f), .int .i64 n, .agg #[.int .i64 er, .int .i64 at_]])) w) : bodyPost Tryd.prog Tryd.f11 R .ret a w := by
  refine bodyPost_ret (v := .tuple #[.agg (mv f), .int .i64 n, .agg #[.int .i64 er, .int .i64 at_]]) ?_ hd hR
  have h6' : a.tmps[6]?.getD undef = .pointer (some ⟨g, 0, none⟩) := by simpa using h6
  have h7' : a.tmps[7]?.getD undef = .int .i64 n := by simpa using h7
  have h8' : a.tmps[8]?.getD undef = .pointer (some ⟨g', 0, none⟩) := by simpa using h8
  have hv := run_loadVar_row (P := Tryd.prog) w g 37 37 _ _ _ hg maskType rfl (maskSize _)
  have hv' := run_loadVar_row (P := Tryd.prog) w g' 26 26 _ _ _ hg' faultTypeV rfl (by kernel_rfl)
  simp [results, Tryd.results11, h6', h7', h8', asAddr, hv, hv']
/-- What is said of the world while a fault is handed on. -/
structure FtJ (w : World) (rr rf : Nat) (er at_ : Int) (L : Nat → Bool) (W : World) : Prop where
  bel : Below w.heap.size w W
  lo : w.heap.size ≤ rr
  ne : rf ≠ rr ∧ rf ≠ rr + 1
  msk : W.heap[rr]? = some (.cells (mv fun _ => false) 37 (0, 0))
  src : W.heap[rf]? = some (.cells #[.int .i64 er, .int .i64 at_] 26 (0, 0))
  ahead : L 4 = false → W.heap[rr + 1]? = some (.cells #[.int .i64 0, .int .i64 0] 26 (0, 0))
  fin : L 4 = true → W.heap[rr + 1]? = some (.cells #[.int .i64 er, .int .i64 at_] 26 (0, 0))
theorem FtJ.same {w : World} {rr rf : Nat} {er at_ : Int} {L : Nat → Bool} {W : World} (h : FtJ w rr rf er at_ L W) (i : Nat) (hi : i ≠ 4) : FtJ w rr rf er at_ (fun k => decide (i = k) || L k) W :=
  ⟨h.bel, h.lo, h.ne, h.msk, h.src, fun e => h.ahead (Bool.or_eq_false_iff.1 e).2, fun e => h.fin (by simpa [hi] using e)⟩
theorem FtJ.put {w : World} {rr rf : Nat} {er at_ : Int} {L : Nat → Bool} {W : World} (h : FtJ w rr rf er at_ L W) : FtJ w rr rf er at_ (fun k => decide (2 = k) || L k) (W.setRow rr (mv fun _ => false)) := by
  have ho : ∀ q, q ≠ rr → (W.setRow rr (mv fun _ => false)).heap[q]? = W.heap[q]? := fun q hq => setRow_other W rr q _ hq
  exact ⟨below_setRow h.bel h.lo _, h.lo, h.ne, setRow_heap _ _ _ _ _ _ h.msk, (ho _ h.ne.1).trans h.src, fun e => (ho _ (by omega)).trans (h.ahead (Bool.or_eq_false_iff.1 e).2), fun e => (ho _ (by omega)).trans (h.fin (by simpa using e))⟩
theorem FtJ.fault {w : World} {rr rf : Nat} {er at_ : Int} {L : Nat → Bool} {W : World} (h : FtJ w rr rf er at_ L W) : FtJ w rr rf er at_ (fun k => decide (4 = k) || L k) (W.setRow (rr + 1) #[.int .i64 er, .int .i64 at_]) := by
  have ho : ∀ q, q ≠ rr + 1 → (W.setRow (rr + 1) #[.int .i64 er, .int .i64 at_]).heap[q]? = W.heap[q]? := fun q hq => setRow_other W (rr + 1) q _ hq
  have hn : ∃ er' at', W.heap[rr + 1]? = some (.cells #[.int .i64 er', .int .i64 at'] 26 (0, 0)) := by
    cases hL : L 4 with
    | false => exact ⟨_, _, h.ahead hL⟩
    | true => exact ⟨_, _, h.fin hL⟩
  obtain ⟨_, _, hn⟩ := hn
  exact ⟨below_setRow h.bel (Nat.le_succ_of_le h.lo) _, h.lo, h.ne, (ho _ (by omega)).trans h.msk, (ho _ h.ne.2).trans h.src, fun e => by simp at e, fun _ => setRow_heap _ _ _ _ _ _ hn⟩
/-- What is said of the world while a run's answer is handed on. -/
structure RnJ (w w0 : World) (gm : Nat) (lv : Value) (day k : Int) (f : M) (rr : Nat) (L : Nat → Bool) (W : World) : Prop where
  bel : Below w.heap.size w W
  lo : w.heap.size ≤ rr
  gt : gm ≠ rr ∧ gm ≠ rr + 1
  b0 : Below w.heap.size w w0
  mach : ∃ sv, W.heap[gm]? = some (.cells #[lv, .int .i64 day, sv, .int .i64 k] 75 (0, 0))
  ahead : L 0 = false → VSt w0 gm lv day [f] k W
  m0 : L 4 = false → W.heap[rr]? = some (.cells (mv fun _ => false) 37 (0, 0))
  m1 : L 4 = true → W.heap[rr]? = some (.cells (mv f) 37 (0, 0))
  flt : W.heap[rr + 1]? = some (.cells #[.int .i64 0, .int .i64 0] 26 (0, 0))
section
variable {w w0 : World} {gm : Nat} {lv : Value} {day k : Int} {f : M} {rr : Nat} {L : Nat → Bool} {W : World}
theorem RnJ.same (h : RnJ w w0 gm lv day k f rr L W) (i : Nat) (hi : i ≠ 0 ∧ i ≠ 4) : RnJ w w0 gm lv day k f rr (fun k => decide (i = k) || L k) W :=
  ⟨h.bel, h.lo, h.gt, h.b0, h.mach, fun e => h.ahead (Bool.or_eq_false_iff.1 e).2, fun e => h.m0 (Bool.or_eq_false_iff.1 e).2, fun e => h.m1 (by simpa [hi.2] using e), h.flt⟩
theorem RnJ.took (h : RnJ w w0 gm lv day k f rr L W) {W' : World} (hM : VSt w0 gm lv day [] k W') (hfr : ∀ q, q < W.heap.size → q ≠ gm → W'.heap[q]? = W.heap[q]?) (h4 : L 4 = false) : RnJ w w0 gm lv day k f rr (fun k => decide (0 = k) || L k) W' := by
  obtain ⟨q1, q2, sv, q3, q4⟩ := hM
  have hm0 := h.m0 h4
  exact ⟨h.b0.trans (q1.mono h.b0.size), h.lo, h.gt, h.b0, ⟨sv, q3⟩, fun e => (by simp at e), fun _ => (hfr _ (lt_of_block hm0) (Ne.symm h.gt.1)).trans hm0, fun e => (by simp [h4] at e), (hfr _ (lt_of_block h.flt) (Ne.symm h.gt.2)).trans h.flt⟩
theorem RnJ.put (h : RnJ w w0 gm lv day k f rr L W) (h0 : L 0 = true) : RnJ w w0 gm lv day k f rr (fun k => decide (4 = k) || L k) (W.setRow rr (mv f)) := by
  have ho : ∀ q, q ≠ rr → (W.setRow rr (mv f)).heap[q]? = W.heap[q]? := fun q hq => setRow_other W rr q _ hq
  obtain ⟨sv, hm⟩ := h.mach
  have hn : ∃ g : M, W.heap[rr]? = some (.cells (mv g) 37 (0, 0)) := by
    cases hL : L 4 with
    | false => exact ⟨_, h.m0 hL⟩
    | true => exact ⟨_, h.m1 hL⟩
  obtain ⟨_, hn⟩ := hn
  exact ⟨below_setRow h.bel h.lo _, h.lo, h.gt, h.b0, ⟨sv, (ho _ h.gt.1).trans hm⟩, fun e => (by simp [h0] at e), fun e => (by simp at e), fun _ => setRow_heap _ _ _ _ _ _ hn, (ho _ (by omega)).trans h.flt⟩
theorem RnJ.fault (h : RnJ w w0 gm lv day k f rr L W) (h4 : L 4 = true) (h0 : L 0 = true) : RnJ w w0 gm lv day k f rr (fun k => decide (6 = k) || L k) (W.setRow (rr + 1) #[.int .i64 0, .int .i64 0]) := by
  have ho : ∀ q, q ≠ rr + 1 → (W.setRow (rr + 1) #[.int .i64 0, .int .i64 0]).heap[q]? = W.heap[q]? := fun q hq => setRow_other W (rr + 1) q _ hq
  obtain ⟨sv, hm⟩ := h.mach
  exact ⟨below_setRow h.bel (Nat.le_succ_of_le h.lo) _, h.lo, h.gt, h.b0, ⟨sv, (ho _ h.gt.2).trans hm⟩, fun e => (by simp [h0] at e), fun e => (by simp [h4] at e), fun _ => (ho _ (by omega)).trans (h.m1 h4), setRow_heap _ _ _ _ _ _ h.flt⟩
end
set_option maxRecDepth 100000 in
set_option maxHeartbeats 4000000 in
theorem vrun_any (cs : List Cd) (lv : Value) (rule day : Int) (w : World) (h : InV w lv cs) :
    Calls Tryd.prog 11 #[lv, .int .i64 rule, .int .i64 day] w (OutRV (runM cs rule day) (runN cs rule day : Int) (runE cs rule day).1 ((runE cs rule day).2 : Int) w) := by
  obtain ⟨p, cp, elv, hlen, hcc⟩ := h.form
  have hz := mv_lit
  have bA : Below w.heap.size w ((w.alloc (.cells (mv fun _ => false) 37)).alloc (.cells #[.int .i64 0, .int .i64 0] 26)) := ((Below.refl _ _).alloc (Nat.le_refl _) _).alloc (by simp) _
  have nM0 : ((w.alloc (.cells (mv fun _ => false) 37)).alloc (.cells #[.int .i64 0, .int .i64 0] 26)).heap[w.heap.size]? = some (.cells (mv fun _ => false) 37 (0, 0)) := by (repeat (first | refine blk_old _ _ _ (by simp only [size_alloc]; omega) ?_ | exact blk_new _ _ _ (by first | rfl | simp only [size_alloc])))
  have nF0 : ((w.alloc (.cells (mv fun _ => false) 37)).alloc (.cells #[.int .i64 0, .int .i64 0] 26)).heap[w.heap.size + 1]? = some (.cells #[.int .i64 0, .int .i64 0] 26 (0, 0)) := by (repeat (first | refine blk_old _ _ _ (by simp only [size_alloc]; omega) ?_ | exact blk_new _ _ _ (by first | rfl | simp only [size_alloc])))
  generalize hwA : (w.alloc (.cells (mv fun _ => false) 37)).alloc (.cells #[.int .i64 0, .int .i64 0] 26) = wA at *
  have cW := vwrong_any cs lv wA (h.below bA)
  have hn0 : (0 : Int) ≤ (cs.length : Int) := by omega
  by_cases he : (wrongV cs).1 = 0
  · have hR := wrong_right he
    have hw2 : wrongV cs = (0, 0) := by
      unfold wrongV at he ⊢
      by_cases h1 : 40 < cs.length
      · rw [if_pos h1] at he; simp at he
      · rw [if_neg h1] at he ⊢
        by_cases h2 : (firstF (fun i => aloneE (cs.getD i cd0) cs.length) cs.length 0).1 ≠ 0
        · rw [if_pos h2] at he; exact absurd he h2
        · rw [if_neg h2] at he ⊢
          exact (firstF_ok _ _ he).1
    rw [hw2] at cW
    have c2 := fun W => isNumber_any rule (cs.length : Int) W
    have c3 := fun W => isNumber_any day 146097 W
    have hE : runE cs rule day = if ¬ (0 ≤ rule ∧ rule < cs.length) then (6, 0) else if ¬ (0 ≤ day ∧ day < 146097) then (3, 0) else (0, 0) := if_neg (fun e => e he)
    have HIN := hidv h
    have HRT := hidv hR
    clear he hw2 hcc hR h
    by_cases hr : 0 ≤ rule ∧ rule < cs.length
    · rw [if_neg (fun e => e hr)] at hE
      have c2' := c2
      simp only [decide_eq_true hr] at c2'
      by_cases hd : 0 ≤ day ∧ day < 146097
      · rw [if_neg (fun e => e hd)] at hE
        have e1 : runM cs rule day = (evV (wkB9 day) day cs (cs.length + 1) rule.toNat).1 := if_pos (by rw [hE])
        have e2 : runN cs rule day = (evV (wkB9 day) day cs (cs.length + 1) rule.toNat).2 := if_pos (by rw [hE])
        rw [hE, e1, e2]
        have c3' := c3
        simp only [decide_eq_true hd] at c3'
        obtain ⟨rn, rfl⟩ : ∃ rn : Nat, rule = (rn : Int) := ⟨rule.toNat, by omega⟩
        have hrn : rn < cs.length := by omega
        rw [Int.toNat_natCast]
        obtain ⟨hd0, hd1⟩ := hd
        obtain ⟨fM, hfM⟩ : ∃ x, evV (wkB9 day) day cs (cs.length + 1) rn = x := ⟨_, rfl⟩
        have HRA : Hid (∀ (w0 : World) (gm : Nat) (W : World), Below w.heap.size w w0 → VSt w0 gm lv day [] 0 W → Calls Tryd.prog 27 #[.pointer (some ⟨gm, 0, none⟩), .int .i64 (rn : Int)] W fun e W' => e = .returned (.tuple #[]) ∧ VSt w0 gm lv day [fM.1] (fM.2 : Int) W') := fun w0 gm W hb hM => by
          have hu : cs[rn]? = some cs[rn] := List.getElem?_eq_getElem hrn
          have ha := (alone_ins (HRT.out.alone rn _ hu)).2.1
          have := run_all cs lv w0 gm day HRT.out (HIN.out.below hb) hd0 hd1 (cs.length + 1) rn [] 0 W hrn (by have := rk_le (callE cs) cs.length rn; omega) hM (by rw [cd_at hu]; simp; omega) (by omega) (by rw [cd_at hu]; omega)
          rw [hfM] at this
          refine this.mono ?_
          rintro e W' ⟨rfl, h'⟩
          exact ⟨rfl, mst_cast h' (by simp) (by simp)⟩
        rw [hfM]
        obtain ⟨f, k⟩ := fM
        dsimp only at HRA ⊢
        clear hr hE e1 e2 hfM c2 c3 HIN HRT hd0 hd1
        subst elv
        go_enter Tryd.func11, Tryd.ntmps11
        go_wp2_with fail
        refine cW.mono ?_
        rintro e w1 ⟨rfl, hb1⟩
        dsimp only
        have b1 := bA.trans (hb1.mono bA.size)
        have nM1 := (hb1.block _ (lt_of_block nM0)).trans nM0
        have nF1 := (hb1.block _ (lt_of_block nF0)).trans nF0
        have bF0 := (Below.refl w1.heap.size w1).alloc (Nat.le_refl _) (.cells #[.int .i64 0, .int .i64 0] 26)
        have nG0 := heap_alloc_new w1 (.cells #[.int .i64 0, .int .i64 0] 26)
        generalize hw1 : w1.alloc (.cells #[.int .i64 0, .int .i64 0] 26) = w1a at *
        have bF := below_setRow bF0 (Nat.le_refl _) #[.int .i64 0, .int .i64 0]
        have nG := setRow_heap _ _ _ #[.int .i64 0, .int .i64 0] _ _ nG0
        have nM2 := (bF.block _ (lt_of_block nM1)).trans nM1
        have nF2 := (bF.block _ (lt_of_block nF1)).trans nF1
        have b2 := b1.trans (bF.mono b1.size)
        generalize hw2 : w1a.setRow w1.heap.size #[.int .i64 0, .int .i64 0] = w2 at *
        have zG := (cell_of_row _ _ 0 _ _ _ nG).trans rfl
        have d2 := c2' w2
        have d3 := c3' w2
        clear cW hb1 nM1 nF1 bF nM0 nF0 hwA bA b1 bF0
        go_wp2_with (refine wpList_store_row rfl 26 _ _ rfl _ _ rfl rfl _ _ nG0 (by kernel_rfl) (by simp) (by simp [Value.oneCell']) ?_)
        refine d2.mono ?_
        rintro e w3 ⟨rfl, rfl⟩
        clear d2
        go_wp2_with fail
        refine d3.mono ?_
        rintro e w3 ⟨rfl, rfl⟩
        clear d3 zG nG nG0 hw1 hw2 c2' c3'
        have bX := (Below.refl w3.heap.size w3).alloc (Nat.le_refl _) (.cells #[.slice none 0 0, .int .i64 0, .slice none 0 0, .int .i64 0] 75)
        have nX := heap_alloc_new w3 (.cells #[.slice none 0 0, .int .i64 0, .slice none 0 0, .int .i64 0] 75)
        generalize hwX : w3.alloc (.cells #[.slice none 0 0, .int .i64 0, .slice none 0 0, .int .i64 0] 75) = wX at *
        have bY := below_setRow bX (Nat.le_refl _) #[.slice p cs.length cp, .int .i64 day, .slice none 0 0, .int .i64 0]
        have nY := setRow_heap _ _ _ #[.slice p cs.length cp, .int .i64 day, .slice none 0 0, .int .i64 0] _ _ nX
        generalize hwY : wX.setRow w3.heap.size #[.slice p cs.length cp, .int .i64 day, .slice none 0 0, .int .i64 0] = wY at *
        have hMY : VSt w3 w3.heap.size (.slice p cs.length cp) day [] 0 wY := ⟨bY, Nat.le_refl _, _, nY, World.ownsRow_nil _ _ _ _⟩
        have cR := HRA.out w3 w3.heap.size wY b2 hMY
        clear HRA hMY bX bY nY
        go_wp2_with (refine wpList_store_row rfl 75 _ _ rfl _ _ rfl rfl _ _ nX (by kernel_rfl) (by simp) (by simp [Value.oneCell']) ?_)
        refine cR.mono ?_
        rintro e w4 ⟨rfl, hM4⟩
        clear cR nX hwX hwY
        go_wp2_with fail
        have hJ0 : ∀ L : Nat → Bool, (∀ i, i < 7 → L i = false) → RnJ w w3 w3.heap.size (.slice p cs.length cp) day (k : Int) f w.heap.size L w4.drew := fun L hL => by
          have hM5 := hM4.below (Below.refl _ _).drew
          obtain ⟨q1, q2, sv, q3, q4⟩ := hM5
          have l1 := lt_of_block nM2
          have l2 := lt_of_block nF2
          exact ⟨b2.trans (q1.mono b2.size), Nat.le_refl _, ⟨by omega, by omega⟩, b2, ⟨sv, q3⟩, fun _ => ⟨q1, q2, sv, q3, q4⟩, fun _ => (q1.block _ l1).trans nM2, fun e => (by rw [hL 4 (by decide)] at e; cases e), (q1.block _ l2).trans nF2⟩
        clear hM4
        obtain ⟨gm, hgm⟩ : ∃ b, w3.heap.size = b := ⟨_, rfl⟩
        obtain ⟨rr, hrr⟩ : ∃ b, w.heap.size = b := ⟨_, rfl⟩
        rw [hgm] at hJ0
        rw [hrr] at hJ0
        simp only [hgm, hrr]
        obtain ⟨lv, hlv⟩ : ∃ v, Value.slice p cs.length cp = v := ⟨_, rfl⟩
        rw [hlv] at hJ0
        generalize hw0 : w3 = w0 at *
        refine wp_region_JL (RnJ w w0 gm lv day (k : Int) f rr) (fun L hL => hJ0 L hL) (by kernel_rfl) (by kernel_rfl) (by kernel_rfl) (by kernel_rfl) [(some 35, .agg (mv f)), (some 36, .pointer (some ⟨gm, 3, none⟩)), (some 37, .int .i64 (k : Int)), (some 38, .agg #[.int .i64 0, .int .i64 0]), (none, undef), (some 7, .int .i64 (k : Int)), (none, undef)] [(35, .agg (mv f)), (36, .pointer (some ⟨gm, 3, none⟩)), (37, .int .i64 (k : Int)), (38, .agg #[.int .i64 0, .int .i64 0]), (7, .int .i64 (k : Int))] (by kernel_rfl) (by kernel_rfl) (by kernel_rfl) ?_ ?_
        · intro i' d v o' L A W2 ho hv hLi hdep hc hJ hkept hhas
          match i', ho, hv, hLi with
          | 0, ho, hv, hLi =>
            cases Option.some.inj ho
            cases Option.some.inj hv
            have h10 : A.tmps[10]?.getD undef = .pointer (some ⟨gm, 0, none⟩) := (gd A 10).trans (hkept 10 (by kernel_rfl))
            refine wpOp_step rfl (fun K hK => ?_)
            go_simp
            refine (take_any w0 gm lv day (k : Int) [] f W2 (hJ.ahead hLi) (by simp)).mono ?_
            rintro e' W' ⟨rfl, hM, hfr⟩
            have n4 : L 4 = false := by
              cases h : L 4 with
              | false => rfl
              | true =>
                have q := hc 4 _ rfl h ⟨0, .data⟩ (by simp) rfl
                rw [hLi] at q; cases q
            exact hK _ _ ⟨rfl, hJ.took hM hfr n4⟩
          | 1, ho, hv, hLi =>
            cases Option.some.inj ho
            cases Option.some.inj hv
            have h10 : A.tmps[10]?.getD undef = .pointer (some ⟨gm, 0, none⟩) := (gd A 10).trans (hkept 10 (by kernel_rfl))
            obtain ⟨s0, nM⟩ := hJ.mach
            have zz := (cell_of_row _ _ 3 _ _ _ nM).trans rfl
            refine wpOp_step rfl (fun K hK => ?_)
            go_simp
            exact hK _ _ ⟨rfl, hJ.same 1 (by decide)⟩
          | 2, ho, hv, hLi =>
            cases Option.some.inj ho
            cases Option.some.inj hv
            have h36 : A.tmps[36]?.getD undef = .pointer (some ⟨gm, 3, none⟩) := (gd A 36).trans (hhas 1 36 _ rfl (hdep ⟨1, .data⟩ (by simp) rfl))
            obtain ⟨s0, nM⟩ := hJ.mach
            have zz := (cell_of_row _ _ 3 _ _ _ nM).trans rfl
            refine wpOp_step rfl (fun K hK => ?_)
            go_simp
            exact hK _ _ ⟨rfl, hJ.same 2 (by decide)⟩
          | 3, ho, hv, hLi =>
            cases Option.some.inj ho
            cases Option.some.inj hv
            refine wpOp_step rfl (fun K hK => ?_)
            go_simp
            exact hK _ _ ⟨rfl, hJ.same 3 (by decide)⟩
          | 4, ho, hv, hLi =>
            cases Option.some.inj ho
            cases Option.some.inj hv
            have h6 : A.eval (.tmp 6) = .pointer (some ⟨rr, 0, none⟩) := hkept 6 (by kernel_rfl)
            have h35 : A.eval (.tmp 35) = .agg (mv f) := hhas 0 35 _ rfl (hdep ⟨0, .data⟩ (by simp) rfl)
            refine wpOp_step rfl (fun K hK => ?_)
            show Oper.wp _ _ _ _ _ _
            refine wp_store_row 37 _ _ rfl _ _ h6 h35 _ _ (hJ.m0 hLi) (maskSize _) (by simp [mv_size]) (mv_all _) ?_
            exact hK _ _ ⟨rfl, hJ.put (hdep ⟨0, .data⟩ (by simp) rfl)⟩
          | 5, ho, hv, hLi =>
            cases Option.some.inj ho
            cases Option.some.inj hv
            have h37 : A.tmps[37]?.getD undef = .int .i64 (k : Int) := (gd A 37).trans (hhas 2 37 _ rfl (hdep ⟨2, .data⟩ (by simp) rfl))
            refine wpOp_step rfl (fun K hK => ?_)
            go_simp
            exact hK _ _ ⟨rfl, hJ.same 5 (by decide)⟩
          | 6, ho, hv, hLi =>
            cases Option.some.inj ho
            cases Option.some.inj hv
            have h8 : A.eval (.tmp 8) = .pointer (some ⟨rr + 1, 0, none⟩) := hkept 8 (by kernel_rfl)
            have h38 : A.eval (.tmp 38) = .agg #[.int .i64 0, .int .i64 0] := hhas 3 38 _ rfl (hdep ⟨3, .data⟩ (by simp) rfl)
            refine wpOp_step rfl (fun K hK => ?_)
            show Oper.wp _ _ _ _ _ _
            refine wp_store_row 26 _ _ rfl _ _ h8 h38 _ _ hJ.flt (by kernel_rfl) (by simp) (by simp [Value.oneCell']) ?_
            exact hK _ _ ⟨rfl, hJ.fault (hc 5 _ rfl (hdep ⟨5, .chain⟩ (by simp) rfl) ⟨4, .chain⟩ (by simp) rfl) (hc 5 _ rfl (hdep ⟨5, .chain⟩ (by simp) rfl) ⟨0, .phase⟩ (by simp) rfl)⟩
          | kk + 7, ho, hv, hLi => simp at hv
        · intro L W5 hL hJ
          have h1 := hJ.m1 (hL 4 (by decide))
          have h2 := hJ.flt
          have HB := hidv hJ.bel
          simp only [putAll_cons, putAll_nil, Act.put, List.setIfInBounds_toArray, List.set_cons_succ, List.set_cons_zero]
          clear hL hJ
          go_wp2_with fail
          exact run_post rr (rr + 1) f (k : Int) 0 0 rfl rfl rfl rfl h1 h2 ⟨rfl, HB.out⟩
      · rw [if_pos hd] at hE
        have c3' := c3
        simp only [decide_eq_false hd] at c3'
        clear hd hr c2 c3
        have e1 : runM cs rule day = fun _ => false := if_neg (by rw [hE]; decide)
        have e2 : runN cs rule day = 0 := if_neg (by rw [hE]; decide)
        rw [hE, e1, e2]
        clear hE e1 e2 HIN HRT
        subst elv
        go_enter Tryd.func11, Tryd.ntmps11
        go_wp2_with fail
        refine cW.mono ?_
        rintro e w1 ⟨rfl, hb1⟩
        dsimp only
        have b1 := bA.trans (hb1.mono bA.size)
        have nM1 := (hb1.block _ (lt_of_block nM0)).trans nM0
        have nF1 := (hb1.block _ (lt_of_block nF0)).trans nF0
        have bF0 := (Below.refl w1.heap.size w1).alloc (Nat.le_refl _) (.cells #[.int .i64 0, .int .i64 0] 26)
        have nG0 := heap_alloc_new w1 (.cells #[.int .i64 0, .int .i64 0] 26)
        generalize hw1 : w1.alloc (.cells #[.int .i64 0, .int .i64 0] 26) = w1a at *
        have bF := below_setRow bF0 (Nat.le_refl _) #[.int .i64 0, .int .i64 0]
        have nG := setRow_heap _ _ _ #[.int .i64 0, .int .i64 0] _ _ nG0
        have nM2 := (bF.block _ (lt_of_block nM1)).trans nM1
        have nF2 := (bF.block _ (lt_of_block nF1)).trans nF1
        have b2 := b1.trans (bF.mono b1.size)
        generalize hw2 : w1a.setRow w1.heap.size #[.int .i64 0, .int .i64 0] = w2 at *
        have zG := (cell_of_row _ _ 0 _ _ _ nG).trans rfl
        have d2 := c2' w2
        have d3 := c3' w2
        have nM3 := setRow_heap _ _ _ (mv fun _ => false) _ _ nM2
        have nF3 := (setRow_other w2 w.heap.size (w.heap.size + 1) (mv fun _ => false) (by omega)).trans nF2
        have b3 := below_setRow b2 (Nat.le_refl _) (mv fun _ => false)
        generalize hw3 : w2.setRow w.heap.size (mv fun _ => false) = w3 at *
        have nM4 := (setRow_other w3 (w.heap.size + 1) w.heap.size #[.int .i64 3, .int .i64 0] (by omega)).trans nM3
        have nF4 := setRow_heap _ _ _ #[.int .i64 3, .int .i64 0] _ _ nF3
        have HB := hidv (below_setRow b3 (by omega : w.heap.size ≤ w.heap.size + 1) #[.int .i64 3, .int .i64 0])
        clear cW hb1 nM1 nF1 bF nM0 nF0 hwA bA b1 bF0 b2 b3
        go_wp2_with (refine wpList_store_row rfl 26 _ _ rfl _ _ rfl rfl _ _ nG0 (by kernel_rfl) (by simp) (by simp [Value.oneCell']) ?_)
        refine d2.mono ?_
        rintro e w4 ⟨rfl, rfl⟩
        clear d2
        go_wp2_with fail
        refine d3.mono ?_
        rintro e w4 ⟨rfl, rfl⟩
        clear d3
        clear nG nG0 zG hw1 hw2
        go_wp2_with (first
          | (refine wpList_store_row rfl 37 _ _ rfl _ _ rfl rfl _ _ nM2 (maskSize _) (by simp [mv_size]) (mv_all _) ?_)
          | (refine wpList_store_row rfl 26 _ _ rfl _ _ rfl rfl _ _ nF3 (by kernel_rfl) (by simp) (by simp [Value.oneCell']) ?_))
        exact run_post w.heap.size (w.heap.size + 1) (fun _ => false) 0 3 0 rfl rfl rfl rfl nM4 nF4 ⟨rfl, HB.out⟩
    · rw [if_pos hr] at hE
      have c2' := c2
      simp only [decide_eq_false hr] at c2'
      clear hr c2 c3
      have e1 : runM cs rule day = fun _ => false := if_neg (by rw [hE]; decide)
      have e2 : runN cs rule day = 0 := if_neg (by rw [hE]; decide)
      rw [hE, e1, e2]
      clear hE e1 e2 HIN HRT
      subst elv
      go_enter Tryd.func11, Tryd.ntmps11
      go_wp2_with fail
      refine cW.mono ?_
      rintro e w1 ⟨rfl, hb1⟩
      dsimp only
      have b1 := bA.trans (hb1.mono bA.size)
      have nM1 := (hb1.block _ (lt_of_block nM0)).trans nM0
      have nF1 := (hb1.block _ (lt_of_block nF0)).trans nF0
      have bF0 := (Below.refl w1.heap.size w1).alloc (Nat.le_refl _) (.cells #[.int .i64 0, .int .i64 0] 26)
      have nG0 := heap_alloc_new w1 (.cells #[.int .i64 0, .int .i64 0] 26)
      generalize hw1 : w1.alloc (.cells #[.int .i64 0, .int .i64 0] 26) = w1a at *
      have bF := below_setRow bF0 (Nat.le_refl _) #[.int .i64 0, .int .i64 0]
      have nG := setRow_heap _ _ _ #[.int .i64 0, .int .i64 0] _ _ nG0
      have nM2 := (bF.block _ (lt_of_block nM1)).trans nM1
      have nF2 := (bF.block _ (lt_of_block nF1)).trans nF1
      have b2 := b1.trans (bF.mono b1.size)
      generalize hw2 : w1a.setRow w1.heap.size #[.int .i64 0, .int .i64 0] = w2 at *
      have zG := (cell_of_row _ _ 0 _ _ _ nG).trans rfl
      have d2 := c2' w2
      have nM3 := setRow_heap _ _ _ (mv fun _ => false) _ _ nM2
      have nF3 := (setRow_other w2 w.heap.size (w.heap.size + 1) (mv fun _ => false) (by omega)).trans nF2
      have b3 := below_setRow b2 (Nat.le_refl _) (mv fun _ => false)
      generalize hw3 : w2.setRow w.heap.size (mv fun _ => false) = w3 at *
      have nM4 := (setRow_other w3 (w.heap.size + 1) w.heap.size #[.int .i64 6, .int .i64 0] (by omega)).trans nM3
      have nF4 := setRow_heap _ _ _ #[.int .i64 6, .int .i64 0] _ _ nF3
      have HB := hidv (below_setRow b3 (by omega : w.heap.size ≤ w.heap.size + 1) #[.int .i64 6, .int .i64 0])
      clear cW hb1 nM1 nF1 bF nM0 nF0 hwA bA b1 bF0 b2 b3
      go_wp2_with (refine wpList_store_row rfl 26 _ _ rfl _ _ rfl rfl _ _ nG0 (by kernel_rfl) (by simp) (by simp [Value.oneCell']) ?_)
      refine d2.mono ?_
      rintro e w4 ⟨rfl, rfl⟩
      clear d2
      clear nG nG0 zG hw1 hw2
      go_wp2_with (first
        | (refine wpList_store_row rfl 37 _ _ rfl _ _ rfl rfl _ _ nM2 (maskSize _) (by simp [mv_size]) (mv_all _) ?_)
        | (refine wpList_store_row rfl 26 _ _ rfl _ _ rfl rfl _ _ nF3 (by kernel_rfl) (by simp) (by simp [Value.oneCell']) ?_))
      exact run_post w.heap.size (w.heap.size + 1) (fun _ => false) 0 6 0 rfl rfl rfl rfl nM4 nF4 ⟨rfl, HB.out⟩
  · have hE : runE cs rule day = wrongV cs := if_pos he
    have e1 : runM cs rule day = fun _ => false := if_neg (by rw [hE]; exact he)
    have e2 : runN cs rule day = 0 := if_neg (by rw [hE]; exact he)
    rw [hE, e1, e2]
    obtain ⟨X, hX⟩ : ∃ x, wrongV cs = x := ⟨_, rfl⟩
    rw [hX] at he cW ⊢
    obtain ⟨er, at0⟩ := X
    dsimp only at he cW ⊢
    obtain ⟨at_, hat⟩ : ∃ q : Int, (at0 : Int) = q := ⟨_, rfl⟩
    rw [hat] at cW ⊢
    have hb0 : (er == 0) = false := beq_eq_false_iff_ne.2 he
    have hbn : (er != 0) = true := by simpa using he
    clear he h hcc hX hE e1 e2 hat
    subst elv
    go_enter Tryd.func11, Tryd.ntmps11
    go_wp2_with fail
    refine cW.mono ?_
    rintro e w1 ⟨rfl, hb1⟩
    have b1 := bA.trans (hb1.mono bA.size)
    have nM1 := (hb1.block _ (lt_of_block nM0)).trans nM0
    have nF1 := (hb1.block _ (lt_of_block nF0)).trans nF0
    have bF := (Below.refl w1.heap.size w1).alloc (Nat.le_refl _) (.cells #[.int .i64 er, .int .i64 at_] 26)
    have nG := heap_alloc_new w1 (.cells #[.int .i64 er, .int .i64 at_] 26)
    have nM2 := (bF.block _ (lt_of_block nM1)).trans nM1
    have nF2 := (bF.block _ (lt_of_block nF1)).trans nF1
    have b2 := b1.trans (bF.mono b1.size)
    have hl1 := lt_of_block nM1
    have hl2 := lt_of_block nF1
    generalize hw2 : w1.alloc (.cells #[.int .i64 er, .int .i64 at_] 26) = w2 at *
    have zG := (cell_of_row _ _ 0 _ _ _ nG).trans rfl
    clear cW hb1 nM1 nF1 bF nM0 nF0 hwA bA b1
    go_wp2_with fail
    clear hw2
    have hJ0 : ∀ L : Nat → Bool, (∀ i, i < 5 → L i = false) → FtJ w w.heap.size w1.heap.size er at_ L w2.drew := fun L hL => ⟨b2.trans ((Below.refl w2.heap.size w2).drew.mono b2.size), Nat.le_refl _, ⟨by omega, by omega⟩, nM2, nG, fun _ => nF2, fun e => (by rw [hL 4 (by decide)] at e; cases e)⟩
    clear nM2 nG nF2 b2 zG
    obtain ⟨rf, hrf⟩ : ∃ b, w1.heap.size = b := ⟨_, rfl⟩
    obtain ⟨rr, hrr⟩ : ∃ b, w.heap.size = b := ⟨_, rfl⟩
    rw [hrf, hrr] at hJ0
    simp only [hrf, hrr]
    refine wp_region_JL (FtJ w rr rf er at_) (fun L hL => hJ0 L hL) (by kernel_rfl) (by kernel_rfl) (by kernel_rfl) (by kernel_rfl) [(some 16, .agg (mv fun _ => false)), (some 17, .agg #[.int .i64 er, .int .i64 at_]), (none, undef), (some 7, .int .i64 0), (none, undef)] [(16, .agg (mv fun _ => false)), (17, .agg #[.int .i64 er, .int .i64 at_]), (7, .int .i64 0)] (by kernel_rfl) (by kernel_rfl) (by kernel_rfl) ?_ ?_
    · intro i' d v o' L A W2 ho hv hLi hdep hc hJ hkept hhas
      match i', ho, hv, hLi with
      | 0, ho, hv, hLi =>
        cases Option.some.inj ho
        cases Option.some.inj hv
        refine wpOp_step rfl (fun K hK => ?_)
        go_simp
        exact hK _ _ ⟨rfl, hJ.same 0 (by decide)⟩
      | 1, ho, hv, hLi =>
        cases Option.some.inj ho
        cases Option.some.inj hv
        have h9 : A.eval (.tmp 9) = .pointer (some ⟨rf, 0, none⟩) := hkept 9 (by kernel_rfl)
        refine wpOp_step rfl (fun K hK => ?_)
        show Oper.wp _ _ _ _ _ _
        refine wp_load_row 26 _ rfl _ h9 _ _ _ _ hJ.src faultTypeV rfl (by kernel_rfl) ?_
        exact hK _ _ ⟨rfl, hJ.same 1 (by decide)⟩
      | 2, ho, hv, hLi =>
        cases Option.some.inj ho
        cases Option.some.inj hv
        have h6 : A.eval (.tmp 6) = .pointer (some ⟨rr, 0, none⟩) := hkept 6 (by kernel_rfl)
        have h16 : A.eval (.tmp 16) = .agg (mv fun _ => false) := hhas 0 16 _ rfl (hdep ⟨0, .data⟩ (by simp) rfl)
        refine wpOp_step rfl (fun K hK => ?_)
        show Oper.wp _ _ _ _ _ _
        refine wp_store_row 37 _ _ rfl _ _ h6 h16 _ _ hJ.msk (maskSize _) (by simp [mv_size]) (mv_all _) ?_
        exact hK _ _ ⟨rfl, hJ.put⟩
      | 3, ho, hv, hLi =>
        cases Option.some.inj ho
        cases Option.some.inj hv
        refine wpOp_step rfl (fun K hK => ?_)
        go_simp
        exact hK _ _ ⟨rfl, hJ.same 3 (by decide)⟩
      | 4, ho, hv, hLi =>
        cases Option.some.inj ho
        cases Option.some.inj hv
        have h8 : A.eval (.tmp 8) = .pointer (some ⟨rr + 1, 0, none⟩) := hkept 8 (by kernel_rfl)
        have h17 : A.eval (.tmp 17) = .agg #[.int .i64 er, .int .i64 at_] := hhas 1 17 _ rfl (hdep ⟨1, .data⟩ (by simp) rfl)
        refine wpOp_step rfl (fun K hK => ?_)
        show Oper.wp _ _ _ _ _ _
        refine wp_store_row 26 _ _ rfl _ _ h8 h17 _ _ (hJ.ahead hLi) (by kernel_rfl) (by simp) (by simp [Value.oneCell']) ?_
        exact hK _ _ ⟨rfl, hJ.fault⟩
      | kk + 5, ho, hv, hLi => simp at hv
    · intro L W5 hL hJ
      have h1 := hJ.msk
      have h2 := hJ.fin (hL 4 (by decide))
      have HB := hidv hJ.bel
      simp only [putAll_cons, putAll_nil, Act.put, List.setIfInBounds_toArray, List.set_cons_succ, List.set_cons_zero]
      clear hL hJ
      go_wp2_with fail
      exact run_post rr (rr + 1) (fun _ => false) 0 er at_ rfl rfl rfl rfl h1 h2 ⟨rfl, HB.out⟩
end Go.Proofs.YtpmobjgnmidolaaDoor

/- Codes that are asked first, plainly. -/
namespace Vx
def al8 : List Cd := [⟨[⟨1, 0, 0, 0, [(5, 9)]⟩, ⟨1, 0, 0, 0, [(7, 12)]⟩, ⟨2, 0, 0, 0, []⟩], 2, 3⟩]
def al9 : List Cd := [⟨[⟨1, 0, 0, 0, [(5, 9)]⟩], 1, 1⟩]
theorem al8_fit : FitV al8 (al8.getD 0 cd0) := by
  refine ⟨⟨fun j x hx => ?_, fun j x hx hg => ?_, by decide⟩, by decide, by decide⟩
  · match j, hx with
    | 0, hx => cases Option.some.inj hx; decide
    | 1, hx => cases Option.some.inj hx; decide
    | 2, hx => cases Option.some.inj hx; decide
    | j + 3, hx => simp [al8] at hx
  · unfold isG at hg
    match j, hx with
    | 0, hx => cases Option.some.inj hx; exact absurd hg (by decide)
    | 1, hx => cases Option.some.inj hx; exact absurd hg (by decide)
    | 2, hx => cases Option.some.inj hx; exact absurd hg (by decide)
    | j + 3, hx => simp [al8] at hx
theorem al9_fit : FitV al9 (al9.getD 0 cd0) := by
  refine ⟨⟨fun j x hx => ?_, fun j x hx hg => ?_, by decide⟩, by decide, by decide⟩
  · match j, hx with
    | 0, hx => cases Option.some.inj hx; decide
    | j + 1, hx => simp [al9] at hx
  · unfold isG at hg
    match j, hx with
    | 0, hx => cases Option.some.inj hx; exact absurd hg (by decide)
    | j + 1, hx => simp [al9] at hx
theorem al8_late : lateE al8 0 = 0 := by
  unfold lateE
  rw [if_neg (by decide), if_pos (fitB_iff.2 al8_fit)]
theorem al9_late : lateE al9 0 = 0 := by
  unfold lateE
  rw [if_neg (by decide), if_pos (fitB_iff.2 al9_fit)]
theorem al8_wrong : wrongV al8 = (0, 0) := by
  unfold wrongV
  rw [if_neg (by decide), if_neg (by decide)]
  show firstF (lateE al8) 1 0 = (0, 0)
  simp [firstF, al8_late]
theorem al9_wrong : wrongV al9 = (0, 0) := by
  unfold wrongV
  rw [if_neg (by decide), if_neg (by decide)]
  show firstF (lateE al9) 1 0 = (0, 0)
  simp [firstF, al9_late]
theorem al8_ev (wk : Int → Bool) (day : Int) : evV wk day al8 2 0 = (unM (spM [(5, 9)]) (spM [(7, 12)]), 3) := rfl
theorem al9_ev (wk : Int → Bool) (day : Int) : evV wk day al9 2 0 = (spM [(5, 9)], 1) := rfl
theorem al8_cnt : Msk.cnt (unM (spM [(5, 9)]) (spM [(7, 12)])) 1440 = 7 := by decide +kernel
theorem al9_cnt : Msk.cnt (spM [(5, 9)]) 1440 = 4 := by decide +kernel
/-- What a run leaves is minutes of the day. -/
def dayM (f : M) : Prop := ∀ i, 1440 ≤ i → f i = false
theorem dayM_step {wk : Int → Bool} {day : Int} {ev : Nat → M × Nat} (hev : ∀ r, dayM (ev r).1) {x : In} {s : St} (h : ∀ f ∈ s.S, dayM f) : ∀ f ∈ (stepV wk day ev x s).S, dayM f := by
  have h2 : ∀ F : M → M → M, (∀ f g, dayM (F f g)) → ∀ f ∈ pop2 F s.S, dayM f := fun F hF f hf => by
    unfold pop2 at hf
    split at hf
    · rename_i g f' T hr
      rw [List.mem_append, List.mem_singleton] at hf
      rcases hf with hf | rfl
      · have : f ∈ s.S := by
          have : f ∈ s.S.reverse := by rw [hr]; simp at hf; simp [hf]
          simpa using this
        exact h f this
      · exact hF _ _
    · simp at hf
  have h1 : ∀ F : M → M, (∀ f, dayM (F f)) → ∀ f ∈ pop1 F s.S, dayM f := fun F hF f hf => by
    unfold pop1 at hf
    split at hf
    · rename_i g T hr
      rw [List.mem_append, List.mem_singleton] at hf
      rcases hf with hf | rfl
      · have : f ∈ s.S := by
          have : f ∈ s.S.reverse := by rw [hr]; simp at hf; simp [hf]
          simpa using this
        exact h f this
      · exact hF _
    · simp at hf
  have ha : ∀ g, dayM g → ∀ f ∈ s.S ++ [g], dayM f := fun g hg f hf => by
    rw [List.mem_append, List.mem_singleton] at hf
    rcases hf with hf | rfl
    · exact h f hf
    · exact hg
  unfold stepV
  split
  · exact ha _ fun i hi => by
      unfold spM
      rw [List.any_eq_false]
      intro s _
      simp
      omega
  split
  · exact h2 _ fun f g i hi => by simp [unM]; omega
  split
  · exact h2 _ fun f g i hi => by simp [dfM]; omega
  split
  · exact h2 _ fun f g i hi => by simp [boM]; omega
  split
  · exact h1 _ fun f i hi => by simp [shM]; omega
  split
  · exact ha _ (hev _)
  split
  · exact h
  · exact ha _ fun i _ => rfl
theorem dayM_go {wk : Int → Bool} {day : Int} {ev : Nat → M × Nat} (hev : ∀ r, dayM (ev r).1) {l : List In} : ∀ (f : Nat) (s : St), (∀ g ∈ s.S, dayM g) → ∀ g ∈ (goV wk day ev l f s).S, dayM g
  | 0, _, h => h
  | f + 1, s, h => by
    unfold goV
    split
    · exact h
    · exact dayM_go hev f _ (dayM_step hev h)
theorem dayM_ev {wk : Int → Bool} {day : Int} {cs : List Cd} : ∀ (d r : Nat), dayM (evV wk day cs d r).1
  | 0, _ => fun _ _ => rfl
  | d + 1, r => by
    have h := dayM_go (wk := wk) (day := day) (ev := evV wk day cs d) (dayM_ev d) (l := (cs.getD r cd0).ins) ((cs.getD r cd0).ins.length - 0) ⟨0, [], 0⟩ (fun g hg => by simp at hg)
    show dayM ((runV wk day (evV wk day cs d) (cs.getD r cd0).ins ⟨0, [], 0⟩).S.getD 0 noM)
    unfold runV
    generalize (goV wk day (evV wk day cs d) (cs.getD r cd0).ins ((cs.getD r cd0).ins.length - 0) ⟨0, [], 0⟩).S = L at *
    cases L with
    | nil => intro i _; rfl
    | cons f T => exact h f (by simp)
end Vx
