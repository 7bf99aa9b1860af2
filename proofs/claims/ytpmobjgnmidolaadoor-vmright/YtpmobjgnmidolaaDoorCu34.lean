/- What a rule's code leaves is what the rule means, plainly. -/
import Derived.Test.YtpmobjgnmidolaaDoorCu32
import Derived.Test.YtpmobjgnmidolaaDoorCu11
import Derived.Test.YtpmobjgnmidolaaDoorCu28
import Derived.Test.YtpmobjgnmidolaaDoorCu05
import Derived.Test.YtpmobjgnmidolaaDoorCu12
import Derived.Test.YtpmobjgnmidolaaDoorCu08
import Derived.Laws.StructEq
namespace Go.Proofs.YtpmobjgnmidolaaDoor
open Go.RowKit Lx Vx Msk

/-- Nothing is meant outside the day. -/
theorem val_out {wk : Int → Bool} {day : Int} {env : List UInt8 → Nat → Bool} (he : ∀ x (i : Nat), 1440 ≤ i → env x i = false) : ∀ (N : Nat) (e : Ex), SizeOf.sizeOf e ≤ N → ∀ (i : Nat), 1440 ≤ i → valE wk day env e i = false
  | 0, e, hN, _, _ => by cases e; simp at hN
  | N + 1, e, hN, i, hi => by
    have hk : ∀ j, (e.kids.map (valE wk day env)).getD j nev i = false := fun j => by
      cases hj : e.kids[j]? with
      | none => simp [List.getD, List.getElem?_map, hj, nev]
      | some k =>
        have hm := List.mem_of_getElem? hj
        have := val_out (wk := wk) (day := day) he N k (by have := kid_lt hm; omega) i hi
        simpa [List.getD, List.getElem?_map, hj] using this
    have hd : decide (i < 1440) = false := by simp; omega
    rw [valE_eq]
    unfold valK
    split
    · exact hd
    split
    · simp [hd]
    split
    · split
      · exact hk 0
      · rfl
    split
    · split
      · exact hk 0
      · rfl
    split
    · simp [hd]
    split
    · simp [hd]
    split
    · simp [hd]
    split
    · unfold shf
      simp [hd]
    split
    · exact he _ i hi
    · rfl
theorem mn_out (e : Ex) {i : Nat} (hi : 1440 ≤ i) : mnE e i = false := val_out (fun _ _ _ => rfl) _ e (Nat.le_refl _) i hi
theorem spM_rs {f : Nat → Bool} (h : ∀ i : Nat, 1440 ≤ i → f i = false) : spM (rs f 1440) = f := by
  funext i
  unfold spM
  by_cases hi : i < 1440
  · have := (runs_of f 1440).has i hi
    simpa [hi] using this
  · rw [h i (by omega)]
    have hd : decide (i < 1440) = false := by simp; omega
    simp [hd]
section
variable {wk : Int → Bool} {day : Int} {ev : Nat → M × Nat} {l : List In} {num : List UInt8 → Int} {env : List UInt8 → Nat → Bool} {x : In} {s : Vx.St}
theorem st_1 (ho : x.op = 1) : stepV wk day ev x s = ⟨s.k + 1, s.S ++ [spM x.sp], s.n + 1⟩ := by simp [stepV, ho]
theorem st_2 (ho : x.op = 2) : stepV wk day ev x s = ⟨s.k + 1, pop2 unM s.S, s.n + 1⟩ := by simp [stepV, ho]
theorem st_3 (ho : x.op = 3) : stepV wk day ev x s = ⟨s.k + 1, pop2 dfM s.S, s.n + 1⟩ := by simp [stepV, ho]
theorem st_4 (ho : x.op = 4) : stepV wk day ev x s = ⟨s.k + 1, pop2 boM s.S, s.n + 1⟩ := by simp [stepV, ho]
theorem st_5 (ho : x.op = 5) : stepV wk day ev x s = ⟨s.k + 1, pop1 (fun f => shM f x.a) s.S, s.n + 1⟩ := by simp [stepV, ho]
theorem st_8 (ho : x.op = 8) : stepV wk day ev x s = ⟨s.k + 1, s.S ++ [(ev x.a.toNat).1], s.n + 1 + (ev x.a.toNat).2⟩ := by simp [stepV, ho]
theorem st_on (ho : x.op = 6 ∨ x.op = 7) (hd : onD wk day x = true) : stepV wk day ev x s = ⟨s.k + 1, s.S, s.n + 1⟩ := by
  unfold stepV
  rw [if_neg (by omega), if_neg (by omega), if_neg (by omega), if_neg (by omega), if_neg (by omega), if_neg (by omega), if_pos hd]
theorem st_off (ho : x.op = 6 ∨ x.op = 7) (hd : ¬ onD wk day x = true) : stepV wk day ev x s = ⟨x.to.toNat, s.S ++ [noM], s.n + 1⟩ := by
  unfold stepV
  rw [if_neg (by omega), if_neg (by omega), if_neg (by omega), if_neg (by omega), if_neg (by omega), if_neg (by omega), if_neg hd]
/-- A guard and what it guards. -/
theorem guard_run (hu : Up wk day ev l) {b ln : Nat} {S : List M} {n : Nat} {v : M} (hx : l[b]? = some x) (ho : x.op = 6 ∨ x.op = 7) (hto : x.to = ((b + 1 + ln : Nat) : Int)) (hk : ∃ n', runV wk day ev l ⟨b + 1, S, n + 1⟩ = runV wk day ev l ⟨b + 1 + ln, S ++ [v], n'⟩) :
    ∃ n', runV wk day ev l ⟨b, S, n⟩ = runV wk day ev l ⟨b + (ln + 1), S ++ [if onD wk day x = true then v else nev], n'⟩ := by
  rw [runV_step hu (s := ⟨b, S, n⟩) hx, show b + (ln + 1) = b + 1 + ln by omega]
  by_cases hd : onD wk day x = true
  · rw [if_pos hd, st_on ho hd]
    exact hk
  · rw [if_neg hd, st_off ho hd, hto, Int.toNat_natCast]
    exact ⟨n + 1, rfl⟩
theorem seg_run (hu : Up wk day ev l) : ∀ (N : Nat) (e : Ex), SizeOf.sizeOf e ≤ N → OKE e → (∀ x ∈ nms e, (ev (num x).toNat).1 = env x) → ∀ (b : Nat) (S : List M) (n : Nat), SegAt l b (codeE num e b) → ∃ n', runV wk day ev l ⟨b, S, n⟩ = runV wk day ev l ⟨b + (codeE num e b).length, S ++ [valE wk day env e], n'⟩
  | 0, e, hN, _, _, _, _, _, _ => by cases e; simp at hN
  | N + 1, e, hN, h, hn, b, S, n, hs => by
    have ih : ∀ k ∈ e.kids, ∀ (b : Nat) (S : List M) (n : Nat), SegAt l b (codeE num k b) → ∃ n', runV wk day ev l ⟨b, S, n⟩ = runV wk day ev l ⟨b + (codeE num k b).length, S ++ [valE wk day env k], n'⟩ := fun k hk => seg_run hu N k (by have := kid_lt hk; omega) (h.kid hk) (fun x hx => hn x (nms_kid hk hx))
    cases hstd : stdE e with
    | true =>
      rw [code_std hstd] at hs ⊢
      rw [runV_step hu (s := ⟨b, S, n⟩) hs.one, stdE_val hstd, st_1 rfl]
      refine ⟨n + 1, ?_⟩
      rw [spM_rs (fun i hi => mn_out e hi)]
      rfl
    | false =>
      rcases code_kinds h hstd with ⟨q, k, hk⟩ | ⟨q, k, hk⟩ | ⟨q, k, hk⟩ | q | ⟨q, k, m, hk⟩
      · have hm : k ∈ e.kids := by rw [hk]; simp
        have hv : valE wk day env e = if wk e.a = true then valE wk day env k else nev := by
          rw [valE_eq, q, valK_4, hk]
          rfl
        rw [code_week q (by rw [hk]; rfl)] at hs ⊢
        have := guard_run hu (n := n) hs.one (.inl rfl) rfl (ih k hm (b + 1) S (n + 1) hs.tail)
        rw [show onD wk day (⟨6, e.a, 0, ((b + 1 + (codeE num k (b + 1)).length : Nat) : Int), []⟩ : In) = wk e.a from by unfold onD; rw [if_pos rfl]] at this
        rw [hv, List.length_cons]
        exact this
      · have hm : k ∈ e.kids := by rw [hk]; simp
        have hv : valE wk day env e = if (decide (e.a ≤ day) && decide (day ≤ e.b)) = true then valE wk day env k else nev := by
          rw [valE_eq, q, valK_5, hk]
          by_cases hw : e.a ≤ day ∧ day ≤ e.b
          · rw [if_pos hw, if_pos (by simp [hw])]
            rfl
          · rw [if_neg hw, if_neg (by rw [Bool.and_eq_true, decide_eq_true_eq, decide_eq_true_eq]; exact hw)]
            rfl
        rw [code_dates q (by rw [hk]; rfl)] at hs ⊢
        have := guard_run hu (n := n) hs.one (.inr rfl) rfl (ih k hm (b + 1) S (n + 1) hs.tail)
        rw [show onD wk day (⟨7, e.a, e.b, ((b + 1 + (codeE num k (b + 1)).length : Nat) : Int), []⟩ : In) = (decide (e.a ≤ day) && decide (day ≤ e.b)) from by unfold onD; rw [if_neg (by show ¬ (7 : Int) = 6; omega)]] at this
        rw [hv, List.length_cons]
        exact this
      · have hm : k ∈ e.kids := by rw [hk]; simp
        have hv : valE wk day env e = shM (valE wk day env k) e.a := by
          rw [valE_eq, q, valK_9, hk]
          rfl
        rw [code_shift hstd q hk] at hs ⊢
        obtain ⟨n', e'⟩ := ih k hm b S n hs.left
        rw [e', hv, runV_step hu (s := ⟨b + (codeE num k b).length, S ++ [valE wk day env k], n'⟩) hs.right.one, st_5 rfl]
        refine ⟨n' + 1, ?_⟩
        rw [List.length_append, List.length_singleton, ← Nat.add_assoc, pop1_eq]
      · have hv : valE wk day env e = env e.name := by rw [valE_eq, q, valK_10]
        rw [code_name q] at hs ⊢
        rw [runV_step hu (s := ⟨b, S, n⟩) hs.one, hv, st_8 rfl]
        refine ⟨n + 1 + (ev (num e.name).toNat).2, ?_⟩
        dsimp only
        rw [hn _ (nms_own q)]
        rfl
      · have hm : k ∈ e.kids := by rw [hk]; simp
        have hm' : m ∈ e.kids := by rw [hk]; simp
        rw [code_pair hstd q hk] at hs ⊢
        obtain ⟨n1, e1⟩ := ih k hm b S n hs.left.left
        obtain ⟨n2, e2⟩ := ih m hm' (b + (codeE num k b).length) (S ++ [valE wk day env k]) n1 hs.left.right
        have hx := hs.right.one
        rw [List.length_append, ← Nat.add_assoc] at hx
        have el : b + (codeE num k b ++ codeE num m (b + (codeE num k b).length) ++ [(⟨opK e.kind, 0, 0, 0, []⟩ : In)]).length = b + (codeE num k b).length + (codeE num m (b + (codeE num k b).length)).length + 1 := by
          rw [List.length_append, List.length_append, List.length_singleton]
          omega
        rw [e1, e2, runV_step hu (s := ⟨b + (codeE num k b).length + (codeE num m (b + (codeE num k b).length)).length, S ++ [valE wk day env k] ++ [valE wk day env m], n2⟩) hx, el]
        refine ⟨n2 + 1, ?_⟩
        rw [List.append_assoc, List.singleton_append]
        rcases q with q | q | q
        · have hv : valE wk day env e = unM (valE wk day env k) (valE wk day env m) := by
            rw [valE_eq, q, valK_6, hk]
            rfl
          rw [hv, st_2 (by show opK e.kind = 2; rw [q]; decide)]
          dsimp only
          rw [pop2_eq]
        · have hv : valE wk day env e = dfM (valE wk day env k) (valE wk day env m) := by
            rw [valE_eq, q, valK_7, hk]
            rfl
          rw [hv, st_3 (by show opK e.kind = 3; rw [q]; decide)]
          dsimp only
          rw [pop2_eq]
        · have hv : valE wk day env e = boM (valE wk day env k) (valE wk day env m) := by
            rw [valE_eq, q, valK_8, hk]
            rfl
          rw [hv, st_4 (by show opK e.kind = 4; rw [q]; decide)]
          dsimp only
          rw [pop2_eq]
end
/-- What a rule's code leaves is what the rule means. -/
theorem ev_mean {l : List Ru} (h : (chkW l).1 = 0) (wk : Int → Bool) (day : Int) : ∀ (d i : Nat), i < l.length → muR l i < d → (evV wk day (cmpL l) d i).1 = meanP l wk day i
  | 0, _, _, hd => by omega
  | d + 1, i, hi, hd => by
    have hu0 : l[i]? = some l[i] := List.getElem?_eq_getElem hi
    have hm := List.mem_of_getElem? hu0
    have hcd : (cmpL l).getD i cd0 = ⟨(codeL l).getD i [], (cmpM l i).1, (cmpM l i).2⟩ := cd_at (cmpL_at hi)
    have hup : Up wk day (evV wk day (cmpL l) d) ((codeL l).getD i []) := up_of (cmp_well h hi).2
    have hok := ((chk_rt h).2 _ hm).ok
    have hseg : SegAt ((codeL l).getD i []) 0 (codeE (atP5 l) (l[i]).2 0) := fun j _ => by rw [codeL_at hu0, Nat.zero_add]
    have hnm : ∀ x ∈ nms (l[i]).2, (evV wk day (cmpL l) d (atP5 l x).toNat).1 = meanP l wk day (atP5 l x).toNat := fun x hx => by
      obtain ⟨h0, h1, h2⟩ := chk_nm h hm hx
      have hlt : (atP5 l x).toNat < l.length := by omega
      have hr : muR l (atP5 l x).toNat < muR l i := muR_lt h hi (by rw [leadS_at hu0]; exact List.mem_map.2 ⟨_, h2, rfl⟩)
      exact ev_mean h wk day d _ hlt (by omega)
    obtain ⟨n', e'⟩ := seg_run (env := fun x => meanP l wk day (atP5 l x).toNat) hup _ _ (Nat.le_refl _) hok hnm 0 [] 0 hseg
    rw [evV, hcd]
    dsimp only
    rw [e', runV_end (by dsimp only; rw [Nat.zero_add, codeL_at hu0])]
    show valE wk day _ _ = _
    rw [meanP_eq h hu0]
theorem wk_same (day : Int) : wkB9 day = wkB day := rfl
end Go.Proofs.YtpmobjgnmidolaaDoor

/- What the law VmRight comes to. Written by genvyw.py. -/
namespace Go.Proofs.YtpmobjgnmidolaaDoor
open Go.RowKit Lx Vx Msk

theorem eqFault7 (a b : Int) (w : World) : (Op.equalIn 10000 26 (.agg #[.int .i64 a, .int .i64 b]) (.agg #[.int .i64 a, .int .i64 b])).run Tryd.prog w = .ok true w := by
  rw [run_equalIn_struct w 9999 26 _ _ (by kernel_rfl) (by kernel_rfl)]
  simp [Program.fieldsOf, Tryd.underlying26, Op.eqFields]
  go_simp
theorem neFault7 (w : World) : (Op.equalIn 10000 26 (.agg #[.int .i64 0, .int .i64 0]) (.agg #[.int .i64 3, .int .i64 0])).run Tryd.prog w = .ok false w := by
  rw [run_equalIn_struct w 9999 26 _ _ (by kernel_rfl) (by kernel_rfl)]
  simp [Program.fieldsOf, Tryd.underlying26, Op.eqFields]
  go_simp
theorem eqlFault7 (a b : Int) (w : World) : (binOp .eql 26 (.agg #[.int .i64 a, .int .i64 b]) (.agg #[.int .i64 a, .int .i64 b])).run Tryd.prog w = .ok (.bool true) w := by
  rw [run_eql_struct, eqFault7]; simp [Result.andThen]
theorem nelFault7 (w : World) : (binOp .eql 26 (.agg #[.int .i64 0, .int .i64 0]) (.agg #[.int .i64 3, .int .i64 0])).run Tryd.prog w = .ok (.bool false) w := by
  rw [run_eql_struct, neFault7]; simp [Result.andThen]
attribute [local go_sem] eqlFault7 nelFault7
theorem wp_loadM7 {op : Oper} {a : Act} {w : World} {K : Act → World → Prop} {Q : Exit → Act → World → Prop} (x : Operand) (ho : op.op = .load 37 x) (b o : Nat) (hx : a.eval x = .pointer (some ⟨b, o, none⟩)) (f : Nat → Bool) (hc : w.rangeAt b o (mv f).toList) (h : K (a.put op.dst (.agg (mv f))) w) : op.wp Tryd.prog a w K Q := by
  refine wp_load_mid 37 x ho b o hx (mv f).toList _ hc maskType rfl (by rw [mvl_len]; kernel_rfl) ?_
  simpa using h
theorem rowM_on {w w' : World} {v : Value} {fs : List (Nat → Bool)} (h : RowM w v fs) (hb : Below w.heap.size w w') : RowM w' v fs := by
  obtain ⟨p, c, e, hl, hr⟩ := h
  refine ⟨p, c, e, hl, fun i f hi => ?_⟩
  obtain ⟨g, o, hp, hc⟩ := hr i f hi
  exact ⟨g, o, hp, fun q v hq => (hb.cell (block_lt_of_cell (hc q v hq))).trans (hc q v hq)⟩
set_option maxRecDepth 100000 in
set_option maxHeartbeats 4000000 in
theorem vright_walk (us : List (Ru × Value)) (v : Value) (day : Int) (w : World) (h : InR w v us) (hT : Tab w) :
    Calls Tryd.prog 4 #[v, .int .i64 day] w fun e w' => e = .returned (.bool true) ∧ Below w.heap.size w w' := by
  obtain ⟨l, hl⟩ : ∃ l, us.map (fun p => p.1) = l := ⟨_, rfl⟩
  obtain ⟨n, hn⟩ : ∃ n, us.length = n := ⟨_, rfl⟩
  have hll : l.length = n := by rw [← hl, List.length_map, hn]
  obtain ⟨pv, cv, rfl⟩ := h.form
  have hlt := h.len
  have c0 := alive8_any w
  have HI := hidv h
  have HT := hidv hT
  have HL := hidv hl
  have HLL := hidv hll
  have hz := mv_lit
  have HNM : Hid (∀ (f : M) (W : World), (Op.equalIn 10000 37 (.agg (mv f)) (.agg (mv f))).run Tryd.prog W = .ok true W) := fun f W => by rw [eq_mask, eqm_true fun _ _ => rfl]
  rw [hn] at HI hlt
  rw [hn]
  have hn1 : (n : Int) < 9223372036854775808 := by omega
  have hn0 : (0 : Int) ≤ (n : Int) := by omega
  clear h hT hl hll hn
  go_enter Tryd.func4, Tryd.ntmps4
  go_wp2_with fail
  refine c0.mono ?_
  rintro e w0 ⟨rfl, b0⟩
  have cC := compile_any us _ w0 (HI.out.below b0) (tab_below HT.out b0)
  unfold OutC at cC
  rw [HL.out] at cC
  clear c0
  go_wp2_with fail
  refine cC.mono ?_
  rintro e w1 ⟨v1, rfl, hin, hno, b1⟩
  have hb1 := b0.trans (b1.mono b0.size)
  obtain ⟨er, her⟩ : ∃ q, (cflt l).1 = q := ⟨_, rfl⟩
  obtain ⟨at0, hat⟩ : ∃ q, (cflt l).2 = q := ⟨_, rfl⟩
  have HER := hidv her
  have HAT := hidv hat
  rw [her] at hin hno
  rw [her, hat]
  have bF := (Below.refl w1.heap.size w1).alloc (Nat.le_refl _) (.cells #[.int .i64 er, .int .i64 at0] 26)
  have n6 := heap_alloc_new w1 (.cells #[.int .i64 er, .int .i64 at0] 26)
  have hbF := hb1.trans (bF.mono hb1.size)
  have HIN : Hid (er = 0 → InV (w1.alloc (.cells #[.int .i64 er, .int .i64 at0] 26)) v1 (cmpL l)) := fun e => (hin e).below bF
  have hsv : ∃ p m c, v1 = .slice p m c := by
    by_cases he : er = 0
    · obtain ⟨p, c, e, _⟩ := (hin he).form
      exact ⟨p, _, c, e⟩
    · exact ⟨_, _, _, hno he⟩
  obtain ⟨p1, m1, c1, hv1⟩ := hsv
  subst hv1
  generalize hwF : w1.alloc (.cells #[.int .i64 er, .int .i64 at0] 26) = wF at *
  have cMM := mall_any us _ day wF (HI.out.below hbF)
  unfold OutMe at cMM
  rw [HL.out] at cMM
  clear cC hin hno her hat bF hb1 b0 b1
  go_wp2_with fail
  refine cMM.mono ?_
  rintro e w2 ⟨vm, rfl, hrm, b2⟩
  obtain ⟨pM, cM, hvm, hrmb, hrmr⟩ := id hrm
  obtain ⟨mn, hmn⟩ : ∃ q, (meanL l day).length = q := ⟨_, rfl⟩
  have HRM0 := hidv hrm
  rw [hmn] at hvm
  subst hvm
  obtain ⟨mr, hmr⟩ : ∃ q, (mflt l day).1 = q := ⟨_, rfl⟩
  obtain ⟨ma, hma⟩ : ∃ q : Int, ((mflt l day).2 : Int) = q := ⟨_, rfl⟩
  have HMR := hidv hmr
  have HMA := hidv hma
  rw [hmr, hma]
  have hb2 := hbF.trans (b2.mono hbF.size)
  have m60 := (b2.block _ (lt_of_block n6)).trans n6
  have bY := (Below.refl w2.heap.size w2).alloc (Nat.le_refl _) (.cells #[.int .i64 mr, .int .i64 ma] 26)
  have nY := heap_alloc_new w2 (.cells #[.int .i64 mr, .int .i64 ma] 26)
  have mY := (bY.block _ (lt_of_block m60)).trans m60
  have HBY := hidv (hb2.trans (bY.mono hb2.size))
  generalize hwY : w2.alloc (.cells #[.int .i64 mr, .int .i64 ma] 26) = wY at *
  have HY6 := hidv ((cell_of_row _ _ 0 _ _ _ mY).trans rfl)
  have HY61 := hidv ((cell_of_row _ _ 1 _ _ _ mY).trans rfl)
  have HY8 := hidv ((cell_of_row _ _ 0 _ _ _ nY).trans rfl)
  have HY81 := hidv ((cell_of_row _ _ 1 _ _ _ nY).trans rfl)
  have bZ := (Below.refl w2.heap.size w2).alloc (Nat.le_refl _) (.cells #[.int .i64 0, .int .i64 0] 26)
  have nZ := heap_alloc_new w2 (.cells #[.int .i64 0, .int .i64 0] 26)
  generalize hwZ : w2.alloc (.cells #[.int .i64 0, .int .i64 0] 26) = wZ at *
  have bG := below_setRow bZ (Nat.le_refl _) #[.int .i64 mr, .int .i64 ma]
  have n8 := setRow_heap _ _ _ #[.int .i64 mr, .int .i64 ma] _ _ nZ
  have m6 := (bG.block _ (lt_of_block m60)).trans m60
  have HBB := hidv (hb2.trans (bG.mono hb2.size))
  have HIV0 : Hid (er = 0 → InV (wZ.setRow w2.heap.size #[.int .i64 mr, .int .i64 ma]) (.slice p1 m1 c1) (cmpL l)) := fun e => ((HIN.out e).below b2).below bG
  have HRMG := hidv (rowM_on HRM0.out bG)
  generalize hwG : wZ.setRow w2.heap.size #[.int .i64 mr, .int .i64 ma] = wG at *
  have z6 := (cell_of_row _ _ 0 _ _ _ m6).trans rfl
  have z8 := (cell_of_row _ _ 0 _ _ _ n8).trans rfl
  have z61 := (cell_of_row _ _ 1 _ _ _ m6).trans rfl
  have z81 := (cell_of_row _ _ 1 _ _ _ n8).trans rfl
  have HHM := hidv hmn
  clear cMM hrm hrmr hrmb hmr hma hb2 m60 bY nY mY bZ bG b2 hbF n6 HIN HRM0 hwF hmn
  by_cases h0 : (chkW l).1 = 0
  · have hcf : cflt l = if 0 ≤ fstM (cmpM l) l.length 0 then (4, fstM (cmpM l) l.length 0) else (0, 0) := by
      unfold cflt
      rw [if_neg (by simpa using h0)]
    by_cases hf0 : 0 ≤ fstM (cmpM l) l.length 0
    · have e4 : er = 4 := by rw [← HER.out, hcf, if_pos hf0]
      subst e4
      clear hcf hf0 h0 HIV0
      have y6 := HY6.out
      have y61 := HY61.out
      have y8 := HY8.out
      have y81 := HY81.out
      clear hwZ hwG nZ m6 n8 z6 z8 z61 z81 HBB HRMG
      go_wp2_with fail
      go_ret
      exact ⟨rfl, HBY.out⟩
    · rw [if_neg hf0] at hcf
      have e0 : er = 0 := by rw [← HER.out, hcf]
      have a0 : at0 = 0 := by rw [← HAT.out, hcf]
      subst e0 a0
      have HIV := hidv (HIV0.out rfl)
      by_cases hd : day < 0 ∨ 146097 ≤ day
      · have hmf : mflt l day = (3, 0) := by
          unfold mflt
          rw [if_neg (by simpa using h0), if_pos hd]
        clear hwY HY6 HY61 HY8 HY81 HBY
        have e3 : mr = 3 := by rw [← HMR.out, hmf]
        have a3 : ma = 0 := by rw [← HMA.out, hmf]; rfl
        subst e3 a3
        clear hcf hf0 h0 HIV0 HIV hd hmf
        go_wp2_with (refine wpList_store_row rfl 26 _ _ rfl _ _ rfl rfl _ _ nZ (by kernel_rfl) (by simp) (by simp [Value.oneCell']) ?_; rw [hwG])
        go_ret
        exact ⟨rfl, HBB.out⟩
      · have hmf : mflt l day = (0, 0) := by
          unfold mflt
          rw [if_neg (by simpa using h0), if_neg hd]
        clear hwY HY6 HY61 HY8 HY81 HBY
        have e3 : mr = 0 := by rw [← HMR.out, hmf]
        have a3 : ma = 0 := by rw [← HMA.out, hmf]; rfl
        subst e3 a3
        have HMF : Hid ((mflt l day).1 = 0) := by show _ = _; rw [hmf]
        have HD : Hid (0 ≤ day ∧ day < 146097) := by show _ ∧ _; omega
        have HRT := hidv (cmp_right HER.out)
        have H0 := hidv h0
        have hm1 : m1 = n := by
          obtain ⟨p, c, e, _⟩ := HIV.out.form
          injection e with _ e2 _
          rw [e2, cmpL_len]
          exact HLL.out
        subst hm1
        have hmn2 : mn = m1 := by
          rw [← HHM.out]
          unfold meanL
          rw [HMF.out, if_pos rfl, List.length_map, List.length_range]
          exact HLL.out
        subst hmn2
        have HRM := HRMG
        clear hcf hf0 h0 HIV0 hd hmf HHM
        go_wp2_with (refine wpList_store_row rfl 26 _ _ rfl _ _ rfl rfl _ _ nZ (by kernel_rfl) (by simp) (by simp [Value.oneCell']) ?_; rw [hwG])
        clear z6 z8 z61 z81 m6 n8 nZ hwZ hwG
        go_loopw [9, 10, 11, 12, 54] (fun _ _ _ _ t wr => ∃ j : Nat, t = .int .i64 (j : Int) ∧ j ≤ mn ∧ Below wG.heap.size wG wr) (fun _ _ _ _ t _ => mn - (intOf t).toNat)
        case atStart => exact ⟨0, rfl, by omega, Below.refl _ _⟩
        case round =>
          obtain ⟨j, rfl, hj, hb⟩ := hrel
          have hj0 : (0 : Int) ≤ (j : Int) := by omega
          by_cases hlt : j < mn
          · have hlt' : (j : Int) < (mn : Int) := by omega
            have hjl : j < l.length := by have := HLL.out; omega
            have hivr := HIV.out.below hb
            obtain ⟨pC, cC', hvC, _, hcC⟩ := hivr.form
            have hcj := hcC j _ (cmpL_at hjl)
            obtain ⟨_, _, gC, oC, hpC, _, _, zC⟩ := hcj
            injection hvC with eC1 eC2 eC3
            subst eC1 eC3
            subst hpC
            clear eC2 hcC
            have hmr : RowM wr (.slice pM mn cM) (meanL l day) := rowM_on HRM.out hb
            obtain ⟨f, hf⟩ : ∃ q, meanP l (wkB day) day j = q := ⟨_, rfl⟩
            have hfj : (meanL l day)[j]? = some f := by
              unfold meanL
              rw [HMF.out, if_pos rfl, List.getElem?_map, List.getElem?_range hjl]
              exact congrArg some hf
            obtain ⟨pM', cM', hvM, _, hrM⟩ := hmr
            obtain ⟨gM, oM, hpM, rgM⟩ := hrM j f hfj
            injection hvM with eM1 eM2 eM3
            subst eM1
            subst hpM
            clear eM2 eM3 hrM
            have cV := vrun_any (cmpL l) _ (j : Int) day wr hivr
            have hE : runE (cmpL l) (j : Int) day = (0, 0) := by
              unfold runE
              rw [right_wrong HRT.out, if_neg (by simp), if_neg (by rw [cmpL_len]; omega), if_neg (by have := HD.out; omega)]
            have hM : runM (cmpL l) (j : Int) day = f := by
              unfold runM
              rw [hE, if_pos rfl, Int.toNat_natCast, cmpL_len, wk_same, ev_mean H0.out (wkB day) day _ _ hjl (by have := muR_le l j; omega), hf]
            obtain ⟨nn0, hnn⟩ : ∃ q, runN (cmpL l) (j : Int) day = q := ⟨_, rfl⟩
            have hN : 1 ≤ nn0 ∧ (nn0 : Int) ≤ (cmpM l j).2 := by
              have hr := HRT.out.run (wk := wkB9 day) (day := day) ((cmpL l).length + 1) j _ (cmpL_at hjl) (by have := rk_le (callE (cmpL l)) (cmpL l).length j; omega)
              rw [← hnn]
              unfold runN
              rw [hE, if_pos rfl, Int.toNat_natCast]
              exact ⟨hr.1, hr.2.1⟩
            obtain ⟨st, hst⟩ : ∃ q, (cmpM l j).2 = q := ⟨_, rfl⟩
            rw [hst] at hN
            have hst2 : st ≤ 20001 := by rw [← hst]; exact (meaF_bd (codeL l) (l.length + 1) j).2.2
            dsimp only at zC
            rw [hst] at zC
            rw [hE, hM, hnn] at cV
            obtain ⟨nn, hnn2⟩ : ∃ q : Int, (nn0 : Int) = q := ⟨_, rfl⟩
            rw [hnn2] at cV
            have hn1 : 1 ≤ nn := by omega
            have hn2 : nn ≤ st := by omega
            have hn3 : ¬ nn < 1 := by omega
            have hn4 : ¬ st < nn := by omega
            have HB := hidv hb
            clear hivr hE hM hnn hnn2 hN hst hfj hf hb
            unfold OutRV at cV
            go_wp2_with fail
            refine cV.mono ?_
            rintro e w3 ⟨rfl, b3⟩
            have rgM3 : w3.rangeAt gM (oM + j * 23) (mv f).toList := fun q v hq => (b3.cell (block_lt_of_cell (rgM q v hq))).trans (rgM q v hq)
            have zC3 := (b3.cell (block_lt_of_cell zC)).trans zC
            have hb3 := HB.out.trans (b3.mono HB.out.size)
            have hgC := block_lt_of_cell zC3
            clear cV b3 zC rgM HB
            have bA2 : Below w3.heap.size w3 ((w3.alloc (.cells (mv fun _ => false) 37)).alloc (.cells #[.int .i64 0, .int .i64 0] 26)) := ((Below.refl _ _).alloc (Nat.le_refl _) _).alloc (by simp) _
            have n12 : ((w3.alloc (.cells (mv fun _ => false) 37)).alloc (.cells #[.int .i64 0, .int .i64 0] 26)).heap[w3.heap.size]? = some (.cells (mv fun _ => false) 37 (0, 0)) := by (repeat (first | refine blk_old _ _ _ (by simp only [size_alloc]; omega) ?_ | exact blk_new _ _ _ (by first | rfl | simp only [size_alloc])))
            have n32 : ((w3.alloc (.cells (mv fun _ => false) 37)).alloc (.cells #[.int .i64 0, .int .i64 0] 26)).heap[w3.heap.size + 1]? = some (.cells #[.int .i64 0, .int .i64 0] 26 (0, 0)) := by (repeat (first | refine blk_old _ _ _ (by simp only [size_alloc]; omega) ?_ | exact blk_new _ _ _ (by first | rfl | simp only [size_alloc])))
            generalize hwA2 : (w3.alloc (.cells (mv fun _ => false) 37)).alloc (.cells #[.int .i64 0, .int .i64 0] 26) = wA2 at *
            have p12 := setRow_heap _ _ _ (mv f) _ _ n12
            have p32 := (setRow_other wA2 w3.heap.size (w3.heap.size + 1) (mv f) (by omega)).trans n32
            have bB2 := below_setRow bA2 (Nat.le_refl _) (mv f)
            generalize hwB2 : wA2.setRow w3.heap.size (mv f) = wB2 at *
            have mM2 := (setRow_other wB2 (w3.heap.size + 1) w3.heap.size #[.int .i64 0, .int .i64 0] (by omega)).trans p12
            have mF2 := setRow_heap _ _ _ #[.int .i64 0, .int .i64 0] _ _ p32
            have bD2 := below_setRow bB2 (by omega : w3.heap.size ≤ w3.heap.size + 1) #[.int .i64 0, .int .i64 0]
            generalize hwD2 : wB2.setRow (w3.heap.size + 1) #[.int .i64 0, .int .i64 0] = wS2 at *
            have zF := (cell_of_row _ _ 0 _ _ _ mF2).trans rfl
            have rgM : wS2.rangeAt gM (oM + j * 23) (mv f).toList := fun q v hq => (bD2.cell (block_lt_of_cell (rgM3 q v hq))).trans (rgM3 q v hq)
            have zC := (bD2.cell (block_lt_of_cell zC3)).trans zC3
            have HBX := hidv (hb3.trans (bD2.mono hb3.size))
            clear bA2 bB2 bD2 hb3 zC3 rgM3 hgC
            go_wp2_with (first
              | (refine wpList_store_row rfl 37 _ _ rfl _ _ rfl rfl _ _ n12 (maskSize _) (by simp [mv_size]) (mv_all _) ?_)
              | (refine wpList_store_row rfl 26 _ _ rfl _ _ rfl rfl _ _ p32 (by kernel_rfl) (by simp) (by simp [Value.oneCell']) ?_))
            rw [hwD2]
            clear hwA2 hwB2 hwD2 n12 n32 p12 p32
            refine wp_region_JL (fun _ W => Below wS2.heap.size wS2 W) (fun L _ => (Below.refl _ _).drew) (by kernel_rfl) (by kernel_rfl) (by kernel_rfl) (by kernel_rfl) [(some 65, .pointer (some ⟨w3.heap.size + 1, 0, none⟩)), (some 66, .int .i64 0), (some 67, .bool false), (some 68, .bool false), (some 69, .agg (mv f)), (some 70, .slice (some ⟨gM, oM, none⟩) mn cM), (some 71, .int .i64 (j : Int)), (some 72, .pointer (some ⟨gM, oM + j * 23, none⟩)), (some 73, .agg (mv f)), (some 74, .bool false), (some 75, .bool false), (some 76, .bool false), (some 77, .int .i64 nn), (some 78, .bool false), (some 79, .bool false), (some 80, .bool false), (some 81, .int .i64 nn), (some 82, .slice (some ⟨gC, oC, none⟩) mn c1), (some 83, .int .i64 (j : Int)), (some 84, .pointer (some ⟨gC, oC + j * 3, none⟩)), (some 85, .pointer (some ⟨gC, oC + j * 3 + 2, none⟩)), (some 86, .int .i64 st), (some 87, .bool false), (some 88, .bool false)] [(65, .pointer (some ⟨w3.heap.size + 1, 0, none⟩)), (66, .int .i64 0), (67, .bool false), (68, .bool false), (69, .agg (mv f)), (70, .slice (some ⟨gM, oM, none⟩) mn cM), (71, .int .i64 (j : Int)), (72, .pointer (some ⟨gM, oM + j * 23, none⟩)), (73, .agg (mv f)), (74, .bool false), (75, .bool false), (76, .bool false), (77, .int .i64 nn), (78, .bool false), (79, .bool false), (80, .bool false), (81, .int .i64 nn), (82, .slice (some ⟨gC, oC, none⟩) mn c1), (83, .int .i64 (j : Int)), (84, .pointer (some ⟨gC, oC + j * 3, none⟩)), (85, .pointer (some ⟨gC, oC + j * 3 + 2, none⟩)), (86, .int .i64 st), (87, .bool false), (88, .bool false)] (by kernel_rfl) (by kernel_rfl) (by kernel_rfl) ?_ ?_
            · intro i' d v o' L A W2 ho hv hLi hdep hc hJ hkept hhas
              match i', ho, hv, hLi with
              | 0, ho, hv, hLi =>
                cases Option.some.inj ho
                cases Option.some.inj hv
                have h12 : A.tmps[12]?.getD undef = .pointer (some ⟨w3.heap.size + 1, 0, none⟩) := (gd A 12).trans (hkept 12 (by kernel_rfl))
                refine wpOp_step rfl (fun K hK => ?_)
                go_simp
                exact hK _ _ ⟨rfl, hJ⟩
              | 1, ho, hv, hLi =>
                cases Option.some.inj ho
                cases Option.some.inj hv
                have h65 : A.tmps[65]?.getD undef = .pointer (some ⟨w3.heap.size + 1, 0, none⟩) := (gd A 65).trans (hhas 0 65 _ rfl (hdep ⟨0, .data⟩ (by simp) rfl))
                have zz := (hJ.cell (block_lt_of_cell zF)).trans zF
                refine wpOp_step rfl (fun K hK => ?_)
                go_simp
                exact hK _ _ ⟨rfl, hJ⟩
              | 2, ho, hv, hLi =>
                cases Option.some.inj ho
                cases Option.some.inj hv
                have h66 : A.tmps[66]?.getD undef = .int .i64 0 := (gd A 66).trans (hhas 1 66 _ rfl (hdep ⟨1, .data⟩ (by simp) rfl))
                refine wpOp_step rfl (fun K hK => ?_)
                go_simp
                exact hK _ _ ⟨rfl, hJ⟩
              | 3, ho, hv, hLi =>
                cases Option.some.inj ho
                cases Option.some.inj hv
                have h67 : A.tmps[67]?.getD undef = .bool false := (gd A 67).trans (hhas 2 67 _ rfl (hdep ⟨2, .data⟩ (by simp) rfl))
                refine wpOp_step rfl (fun K hK => ?_)
                go_simp
                exact hK _ _ ⟨rfl, hJ⟩
              | 4, ho, hv, hLi =>
                cases Option.some.inj ho
                cases Option.some.inj hv
                have hG : A.tmps[68]? = some (.bool false) := gdb (hhas 3 68 _ rfl (hdep ⟨3, .guard⟩ (by simp) rfl))
                have h10 : A.eval (.tmp 10) = .pointer (some ⟨w3.heap.size, 0, none⟩) := hkept 10 (by kernel_rfl)
                refine wpOp_step rfl (fun K hK => ?_)
                rw [if_pos (by simp [Region.wanted, yielded, hG])]
                refine wp_load_row 37 _ rfl _ h10 _ _ _ _ ((hJ.block _ (lt_of_block mM2)).trans mM2) maskType rfl (maskSize _) ?_
                exact hK _ _ ⟨rfl, hJ⟩
              | 5, ho, hv, hLi =>
                cases Option.some.inj ho
                cases Option.some.inj hv
                have hG : A.tmps[68]? = some (.bool false) := gdb (hhas 3 68 _ rfl (hdep ⟨3, .guard⟩ (by simp) rfl))
                have h7 : A.tmps[7]?.getD undef = .slice (some ⟨gM, oM, none⟩) mn cM := (gd A 7).trans (hkept 7 (by kernel_rfl))
                refine wpOp_step rfl (fun K hK => ?_)
                go_simp
                exact hK _ _ ⟨rfl, hJ⟩
              | 6, ho, hv, hLi =>
                cases Option.some.inj ho
                cases Option.some.inj hv
                have hG : A.tmps[68]? = some (.bool false) := gdb (hhas 3 68 _ rfl (hdep ⟨3, .guard⟩ (by simp) rfl))
                have h9 : A.tmps[9]?.getD undef = .int .i64 (j : Int) := (gd A 9).trans (hkept 9 (by kernel_rfl))
                refine wpOp_step rfl (fun K hK => ?_)
                go_simp
                exact hK _ _ ⟨rfl, hJ⟩
              | 7, ho, hv, hLi =>
                cases Option.some.inj ho
                cases Option.some.inj hv
                have hG : A.tmps[68]? = some (.bool false) := gdb (hhas 3 68 _ rfl (hdep ⟨3, .guard⟩ (by simp) rfl))
                have h70 : A.tmps[70]?.getD undef = .slice (some ⟨gM, oM, none⟩) mn cM := (gd A 70).trans (hhas 5 70 _ rfl (hdep ⟨5, .data⟩ (by simp) rfl))
                have h71 : A.tmps[71]?.getD undef = .int .i64 (j : Int) := (gd A 71).trans (hhas 6 71 _ rfl (hdep ⟨6, .data⟩ (by simp) rfl))
                refine wpOp_step rfl (fun K hK => ?_)
                go_simp
                exact hK _ _ ⟨rfl, hJ⟩
              | 8, ho, hv, hLi =>
                cases Option.some.inj ho
                cases Option.some.inj hv
                have hG : A.tmps[68]? = some (.bool false) := gdb (hhas 3 68 _ rfl (hdep ⟨3, .guard⟩ (by simp) rfl))
                have h72 : A.eval (.tmp 72) = .pointer (some ⟨gM, oM + j * 23, none⟩) := hhas 7 72 _ rfl (hdep ⟨7, .data⟩ (by simp) rfl)
                refine wpOp_step rfl (fun K hK => ?_)
                rw [if_pos (by simp [Region.wanted, yielded, hG])]
                refine wp_loadM7 _ rfl gM (oM + j * 23) h72 f (fun q v hq => (hJ.cell (block_lt_of_cell (rgM q v hq))).trans (rgM q v hq)) ?_
                exact hK _ _ ⟨rfl, hJ⟩
              | 9, ho, hv, hLi =>
                cases Option.some.inj ho
                cases Option.some.inj hv
                have hG : A.tmps[68]? = some (.bool false) := gdb (hhas 3 68 _ rfl (hdep ⟨3, .guard⟩ (by simp) rfl))
                have h69 : A.tmps[69]?.getD undef = .agg (mv f) := (gd A 69).trans (hhas 4 69 _ rfl (hdep ⟨4, .data⟩ (by simp) rfl))
                have h73 : A.tmps[73]?.getD undef = .agg (mv f) := (gd A 73).trans (hhas 8 73 _ rfl (hdep ⟨8, .data⟩ (by simp) rfl))
                have hnq := HNM.out f W2
                refine wpOp_step rfl (fun K hK => ?_)
                go_simp
                exact hK _ _ ⟨rfl, hJ⟩
              | 10, ho, hv, hLi =>
                cases Option.some.inj ho
                cases Option.some.inj hv
                have h68 : A.tmps[68]?.getD undef = .bool false := (gd A 68).trans (hhas 3 68 _ rfl (hdep ⟨3, .data⟩ (by simp) rfl))
                have h74 : A.tmps[74]?.getD undef = .bool false := (gd A 74).trans (hhas 9 74 _ rfl (hdep ⟨9, .data⟩ (by simp) rfl))
                refine wpOp_step rfl (fun K hK => ?_)
                go_simp
                exact hK _ _ ⟨rfl, hJ⟩
              | 11, ho, hv, hLi =>
                cases Option.some.inj ho
                cases Option.some.inj hv
                have h75 : A.tmps[75]?.getD undef = .bool false := (gd A 75).trans (hhas 10 75 _ rfl (hdep ⟨10, .data⟩ (by simp) rfl))
                refine wpOp_step rfl (fun K hK => ?_)
                go_simp
                exact hK _ _ ⟨rfl, hJ⟩
              | 12, ho, hv, hLi =>
                cases Option.some.inj ho
                cases Option.some.inj hv
                have hG : A.tmps[76]? = some (.bool false) := gdb (hhas 11 76 _ rfl (hdep ⟨11, .guard⟩ (by simp) rfl))
                have h11 : A.tmps[11]?.getD undef = .int .i64 nn := (gd A 11).trans (hkept 11 (by kernel_rfl))
                refine wpOp_step rfl (fun K hK => ?_)
                go_simp
                exact hK _ _ ⟨rfl, hJ⟩
              | 13, ho, hv, hLi =>
                cases Option.some.inj ho
                cases Option.some.inj hv
                have hG : A.tmps[76]? = some (.bool false) := gdb (hhas 11 76 _ rfl (hdep ⟨11, .guard⟩ (by simp) rfl))
                have h77 : A.tmps[77]?.getD undef = .int .i64 nn := (gd A 77).trans (hhas 12 77 _ rfl (hdep ⟨12, .data⟩ (by simp) rfl))
                have hdz : decide (nn < 1) = false := decide_eq_false (by omega)
                refine wpOp_step rfl (fun K hK => ?_)
                go_simp
                exact hK _ _ ⟨rfl, hJ⟩
              | 14, ho, hv, hLi =>
                cases Option.some.inj ho
                cases Option.some.inj hv
                have h76 : A.tmps[76]?.getD undef = .bool false := (gd A 76).trans (hhas 11 76 _ rfl (hdep ⟨11, .data⟩ (by simp) rfl))
                have h78 : A.tmps[78]?.getD undef = .bool false := (gd A 78).trans (hhas 13 78 _ rfl (hdep ⟨13, .data⟩ (by simp) rfl))
                refine wpOp_step rfl (fun K hK => ?_)
                go_simp
                exact hK _ _ ⟨rfl, hJ⟩
              | 15, ho, hv, hLi =>
                cases Option.some.inj ho
                cases Option.some.inj hv
                have h79 : A.tmps[79]?.getD undef = .bool false := (gd A 79).trans (hhas 14 79 _ rfl (hdep ⟨14, .data⟩ (by simp) rfl))
                refine wpOp_step rfl (fun K hK => ?_)
                go_simp
                exact hK _ _ ⟨rfl, hJ⟩
              | 16, ho, hv, hLi =>
                cases Option.some.inj ho
                cases Option.some.inj hv
                have hG : A.tmps[80]? = some (.bool false) := gdb (hhas 15 80 _ rfl (hdep ⟨15, .guard⟩ (by simp) rfl))
                have h11 : A.tmps[11]?.getD undef = .int .i64 nn := (gd A 11).trans (hkept 11 (by kernel_rfl))
                refine wpOp_step rfl (fun K hK => ?_)
                go_simp
                exact hK _ _ ⟨rfl, hJ⟩
              | 17, ho, hv, hLi =>
                cases Option.some.inj ho
                cases Option.some.inj hv
                have hG : A.tmps[80]? = some (.bool false) := gdb (hhas 15 80 _ rfl (hdep ⟨15, .guard⟩ (by simp) rfl))
                have h5 : A.tmps[5]?.getD undef = .slice (some ⟨gC, oC, none⟩) mn c1 := (gd A 5).trans (hkept 5 (by kernel_rfl))
                refine wpOp_step rfl (fun K hK => ?_)
                go_simp
                exact hK _ _ ⟨rfl, hJ⟩
              | 18, ho, hv, hLi =>
                cases Option.some.inj ho
                cases Option.some.inj hv
                have hG : A.tmps[80]? = some (.bool false) := gdb (hhas 15 80 _ rfl (hdep ⟨15, .guard⟩ (by simp) rfl))
                have h9 : A.tmps[9]?.getD undef = .int .i64 (j : Int) := (gd A 9).trans (hkept 9 (by kernel_rfl))
                refine wpOp_step rfl (fun K hK => ?_)
                go_simp
                exact hK _ _ ⟨rfl, hJ⟩
              | 19, ho, hv, hLi =>
                cases Option.some.inj ho
                cases Option.some.inj hv
                have hG : A.tmps[80]? = some (.bool false) := gdb (hhas 15 80 _ rfl (hdep ⟨15, .guard⟩ (by simp) rfl))
                have h82 : A.tmps[82]?.getD undef = .slice (some ⟨gC, oC, none⟩) mn c1 := (gd A 82).trans (hhas 17 82 _ rfl (hdep ⟨17, .data⟩ (by simp) rfl))
                have h83 : A.tmps[83]?.getD undef = .int .i64 (j : Int) := (gd A 83).trans (hhas 18 83 _ rfl (hdep ⟨18, .data⟩ (by simp) rfl))
                refine wpOp_step rfl (fun K hK => ?_)
                go_simp
                exact hK _ _ ⟨rfl, hJ⟩
              | 20, ho, hv, hLi =>
                cases Option.some.inj ho
                cases Option.some.inj hv
                have hG : A.tmps[80]? = some (.bool false) := gdb (hhas 15 80 _ rfl (hdep ⟨15, .guard⟩ (by simp) rfl))
                have h84 : A.tmps[84]?.getD undef = .pointer (some ⟨gC, oC + j * 3, none⟩) := (gd A 84).trans (hhas 19 84 _ rfl (hdep ⟨19, .data⟩ (by simp) rfl))
                refine wpOp_step rfl (fun K hK => ?_)
                go_simp
                exact hK _ _ ⟨rfl, hJ⟩
              | 21, ho, hv, hLi =>
                cases Option.some.inj ho
                cases Option.some.inj hv
                have hG : A.tmps[80]? = some (.bool false) := gdb (hhas 15 80 _ rfl (hdep ⟨15, .guard⟩ (by simp) rfl))
                have h85 : A.tmps[85]?.getD undef = .pointer (some ⟨gC, oC + j * 3 + 2, none⟩) := (gd A 85).trans (hhas 20 85 _ rfl (hdep ⟨20, .data⟩ (by simp) rfl))
                have zz := (hJ.cell (block_lt_of_cell zC)).trans zC
                refine wpOp_step rfl (fun K hK => ?_)
                go_simp
                exact hK _ _ ⟨rfl, hJ⟩
              | 22, ho, hv, hLi =>
                cases Option.some.inj ho
                cases Option.some.inj hv
                have hG : A.tmps[80]? = some (.bool false) := gdb (hhas 15 80 _ rfl (hdep ⟨15, .guard⟩ (by simp) rfl))
                have h81 : A.tmps[81]?.getD undef = .int .i64 nn := (gd A 81).trans (hhas 16 81 _ rfl (hdep ⟨16, .data⟩ (by simp) rfl))
                have h86 : A.tmps[86]?.getD undef = .int .i64 st := (gd A 86).trans (hhas 21 86 _ rfl (hdep ⟨21, .data⟩ (by simp) rfl))
                have hdz : decide (st < nn) = false := decide_eq_false (by omega)
                refine wpOp_step rfl (fun K hK => ?_)
                go_simp
                exact hK _ _ ⟨rfl, hJ⟩
              | 23, ho, hv, hLi =>
                cases Option.some.inj ho
                cases Option.some.inj hv
                have h80 : A.tmps[80]?.getD undef = .bool false := (gd A 80).trans (hhas 15 80 _ rfl (hdep ⟨15, .data⟩ (by simp) rfl))
                have h87 : A.tmps[87]?.getD undef = .bool false := (gd A 87).trans (hhas 22 87 _ rfl (hdep ⟨22, .data⟩ (by simp) rfl))
                refine wpOp_step rfl (fun K hK => ?_)
                go_simp
                exact hK _ _ ⟨rfl, hJ⟩
              | kk + 24, ho, hv, hLi => simp at hv
            · intro L W5 hL hJ
              simp only [putAll_cons, putAll_nil, Act.put, List.setIfInBounds_toArray, List.set_cons_succ, List.set_cons_zero]
              clear hL
              have HB9 := hidv (HBX.out.trans (hJ.mono HBX.out.size))
              clear hJ
              go_wp2_with fail
              go_roundw
              case rel => exact ⟨j + 1, by go_num, by omega, HB9.out⟩
              case measure => simp [intOf]; omega
          · have hlt' : ¬ (j : Int) < (mn : Int) := by omega
            have HB := hidv (HBB.out.trans (hb.mono HBB.out.size))
            clear hb
            go_wp2_with fail
            go_ret
            exact ⟨rfl, HB.out⟩
  · have hcf : cflt l = ((chkW l).1, ((chkW l).2 : Int)) := by
      unfold cflt
      rw [if_pos h0]
    have hmf : mflt l day = chkW l := by
      unfold mflt
      rw [if_pos h0]
    have e1 : mr = er := by rw [← HMR.out, ← HER.out, hcf, hmf]
    have e2 : ma = at0 := by rw [← HMA.out, ← HAT.out, hcf, hmf]
    have he : er ≠ 0 := by rw [← HER.out, hcf]; exact h0
    subst e1 e2
    have hbn : (mr != 0) = true := by simpa using he
    clear hcf hmf h0 HIV0 he
    by_cases h4 : mr = 4
    · have hb4 : (mr == 4) = true := by simp [h4]
      clear h4
      have y6 := HY6.out
      have y61 := HY61.out
      have y8 := HY8.out
      have y81 := HY81.out
      clear hwZ hwG nZ m6 n8 z6 z8 z61 z81 HBB HRMG
      go_wp2_with fail
      go_ret
      exact ⟨rfl, HBY.out⟩
    · have hb4 : (mr == 4) = false := by simpa using h4
      clear h4
      have y6 := HY6.out
      have y61 := HY61.out
      have y8 := HY8.out
      have y81 := HY81.out
      clear hwZ hwG nZ m6 n8 z6 z8 z61 z81 HBB HRMG
      go_wp2_with fail
      go_ret
      exact ⟨rfl, HBY.out⟩
end Go.Proofs.YtpmobjgnmidolaaDoor
