/- What slotref10.Find comes to. Written by genmtf.py. -/
import Derived.Test.YtlhjgajhcabhoaaDoorMn13
import Derived.Test.YtlhjgajhcabhoaaDoorMn14
import Derived.Test.YtlhjgajhcabhoaaDoorMn04
import Derived.Deep.OwnRows
namespace Go.Proofs.YtlhjgajhcabhoaaDoor
open Go.RowKit Msk Mx

def OutT (r : Sl) (w : World) (e : Ending) (w' : World) : Prop := ∃ v, e = .returned (.tuple #[.agg #[.int .i64 r.day, .int .i64 r.min, v], .int .i64 r.err]) ∧ RowI w' v r.who ∧ Below w.heap.size w w'
theorem rfind_post {R : Ending → World → Prop} {a : Act} {w : World} (g : Nat) (d m : Int) (v : Value) (er : Int) (hd : a.defers = []) (h4 : a.tmps.getD 4 undef = .pointer (some ⟨g, 0, none⟩)) (h5 : a.tmps.getD 5 undef = .int .i64 er)
    (hg : w.heap[g]? = some (.cells #[.int .i64 d, .int .i64 m, v] 28 (0, 0))) (hR : R (.returned (.tuple #[.agg #[.int .i64 d, .int .i64 m, v], .int .i64 er])) w) : bodyPost Tryd.prog Tryd.f9 R .ret a w := by
  refine bodyPost_ret (v := .tuple #[.agg #[.int .i64 d, .int .i64 m, v], .int .i64 er]) ?_ hd hR
  have h4' : a.tmps[4]?.getD undef = .pointer (some ⟨g, 0, none⟩) := by simpa using h4
  have h5' : a.tmps[5]?.getD undef = .int .i64 er := by simpa using h5
  have hv := run_loadVar_row (P := Tryd.prog) w g 28 28 _ _ _ hg slotType rfl (by kernel_rfl)
  simp [results, Tryd.results9, h4', h5', asAddr, hv]
theorem rowI_nil (w : World) : RowI w (.slice none 0 0) [] := ⟨none, 0, rfl, by decide, fun j n hj => by simp at hj⟩
/-- What is known of one day while its r-th one is looked at. -/
def stT (fs : List (Nat → Bool)) (W : Int) (r d j i : Nat) : Bool := if j = r then decide (1440 - d ≤ i) && cdB fs W j i else cdB fs W j i
theorem stT_step (fs : List (Nat → Bool)) (W : Int) (r d : Nat) (hd : d < 1440) (j i : Nat) : updT (stT fs W r d) r (1440 - (d + 1)) (cdB fs W r (1440 - (d + 1))) j i = stT fs W r (d + 1) j i := by
  unfold updT stT
  by_cases hj : j = r
  · subst hj
    by_cases hi : i = 1440 - (d + 1)
    · subst hi
      simp
    · rw [if_neg (fun h => hi h.2), if_pos rfl, if_pos rfl]
      have e : decide (1440 - d ≤ i) = decide (1440 - (d + 1) ≤ i) := by
        apply decide_eq_decide.2
        omega
      rw [e]
  · rw [if_neg (fun h => hj h.1), if_neg hj, if_neg hj]
theorem stT_zero (fs : List (Nat → Bool)) (W : Int) (r j i : Nat) (hi : i < 1441) : stT fs W r 0 j i = if j = r then false else cdB fs W j i := by
  unfold stT
  by_cases hj : j = r
  · rw [if_pos hj, if_pos hj]
    by_cases h : 1440 ≤ i
    · have e : i = 1440 := by omega
      subst e
      simp [cdB]
    · simp [h]
  · rw [if_neg hj, if_neg hj]
theorem stT_all (fs : List (Nat → Bool)) (W : Int) (r j i : Nat) : stT fs W r 1440 j i = cdB fs W j i := by
  unfold stT
  by_cases hj : j = r
  · rw [if_pos hj]; simp
  · rw [if_neg hj]
theorem dayG_step (s : Sv) (fs : List (Nat → Bool)) (m : Nat) (hm : m < 1440) : dayG s fs (1440 - m) (m : Int) = match (tupP (okP fs ((m : Int) - s.bef) ((m : Int) - s.bef + whole s)) s.roles).head? with
    | some who => some ((m : Int), who)
    | none => dayG s fs (1440 - (m + 1)) ((m + 1 : Nat) : Int) := by
  rw [show 1440 - m = (1440 - (m + 1)) + 1 by omega, dayG]
  rfl
theorem tupP_congr {ok ok' : Int → Bool} {roles : List (List Int)} (h : ∀ p ∈ roles, ∀ r ∈ p, ok r = ok' r) : tupP ok roles = tupP ok' roles := by
  have key : ∀ (l : List (List Int)), (∀ p ∈ l, ∀ r ∈ p, ok r = ok' r) → ∀ out, l.foldl (fun out p => tupS ok p out) out = l.foldl (fun out p => tupS ok' p out) out := by
    intro l
    induction l with
    | nil => intro _ out; rfl
    | cons p l ih =>
      intro hl out
      rw [List.foldl_cons, List.foldl_cons]
      have e : tupS ok p out = tupS ok' p out := by
        unfold tupS tupR
        congr 1
        funext t
        congr 1
        apply List.filter_congr
        intro r hr
        rw [hl p List.mem_cons_self r hr]
      rw [e]
      exact ih (fun q hq => hl q (List.mem_cons_of_mem _ hq)) _
  exact key roles h [[]]
theorem CdM.other {w W : World} {n p : Nat} {rs : Nat → Nat} {M : Nat → Nat → Bool} (h : CdM w n p rs M W) {g k : Nat} {v : Value} (h1 : w.heap.size < g) (h2 : ∀ j, j < p → rs j ≠ g) : CdM w n p rs M (W.setCell ⟨g, k, none⟩ v) := by
  have ho : ∀ q, q ≠ g → (W.setCell ⟨g, k, none⟩ v).heap[q]? = W.heap[q]? := fun q hq => heap_setCell_other W ⟨g, k, none⟩ q _ hq
  exact ⟨h.bel.setCell (by show w.heap.size ≤ g; omega) _, (ho _ (by omega)).trans h.outer, fun j hj => (ho _ (h2 j hj)).trans (h.rows j hj), h.inj, h.gt, h.le⟩
/-- Is one of the first ones free? -/
def anyN (ok : Nat → Bool) : Nat → Bool
  | 0 => false
  | r + 1 => anyN ok r || ok r
theorem anyN_false {ok : Nat → Bool} : ∀ {n : Nat}, anyN ok n = false → ∀ j, j < n → ok j = false
  | n + 1, h, j, hj => by
    rw [anyN, Bool.or_eq_false_iff] at h
    by_cases e : j = n
    · rw [e]; exact h.2
    · exact anyN_false h.1 j (by omega)
theorem rowBo_of {w : World} {g n : Nat} {m : Nat → Bool} (h : w.heap[g]? = some (.cells (bcellsT n m) 4 (0, 0))) (hn : n < 9223372036854775808) : RowBo w (.slice (some ⟨g, 0, none⟩) n n) ((List.range n).map m) := by
  refine ⟨some ⟨g, 0, none⟩, n, by simp, by simpa using hn, fun j b hj => ⟨g, 0, rfl, ?_⟩⟩
  have hj' : j < n := by simpa using (List.getElem?_eq_some_iff.1 hj).1
  rw [Nat.zero_add, cell_of_row _ _ j _ _ _ h, bcellsT_at hj']
  rw [List.getElem?_map, List.getElem?_range hj'] at hj
  exact congrArg (fun b => some (Value.bool b)) (Option.some.inj hj)
set_option maxRecDepth 100000 in
set_option maxHeartbeats 4000000 in
/-- slotref10.Find. -/
theorem rfind_any (s : Sv) (rv : Value) (ds : List (List (Nat → Bool))) (dv : Value) (w : World) (hl : -9223372036854775808 ≤ s.len ∧ s.len < 9223372036854775808) (hdl : ∀ d ∈ ds, d.length ≤ 1000000000000) (hR : RowRI w rv s.roles) (hD : RowDs w dv ds) :
    Calls Tryd.prog 9 #[svV s rv, dv] w (OutT (findP s ds) w) := by
  obtain ⟨l, b, a, roles⟩ := s
  dsimp only at hR hl
  have HL := hidr hl
  have HDL := hidr hdl
  clear hl hdl
  unfold svV
  dsimp only
  obtain ⟨pr, cr, rfl, hlr, hallr0⟩ := id hR
  clear hallr0
  have bA : Below w.heap.size w ((w.alloc (.cells #[.int .i64 l, .int .i64 b, .int .i64 a, .slice pr roles.length cr] 24)).alloc (.cells #[.int .i64 0, .int .i64 0, .slice none 0 0] 28)) := ((Below.refl _ _).alloc (Nat.le_refl _) _).alloc (by simp) _
  have nA : ((w.alloc (.cells #[.int .i64 l, .int .i64 b, .int .i64 a, .slice pr roles.length cr] 24)).alloc (.cells #[.int .i64 0, .int .i64 0, .slice none 0 0] 28)).heap[w.heap.size]? = some (.cells #[.int .i64 l, .int .i64 b, .int .i64 a, .slice pr roles.length cr] 24 (0, 0)) := by (repeat (first | refine blk_old _ _ _ (by simp only [size_alloc]; omega) ?_ | exact blk_new _ _ _ (by first | rfl | simp only [size_alloc])))
  have nS : ((w.alloc (.cells #[.int .i64 l, .int .i64 b, .int .i64 a, .slice pr roles.length cr] 24)).alloc (.cells #[.int .i64 0, .int .i64 0, .slice none 0 0] 28)).heap[w.heap.size + 1]? = some (.cells #[.int .i64 0, .int .i64 0, .slice none 0 0] 28 (0, 0)) := by (repeat (first | refine blk_old _ _ _ (by simp only [size_alloc]; omega) ?_ | exact blk_new _ _ _ (by first | rfl | simp only [size_alloc])))
  generalize hwA : (w.alloc (.cells #[.int .i64 l, .int .i64 b, .int .i64 a, .slice pr roles.length cr] 24)).alloc (.cells #[.int .i64 0, .int .i64 0, .slice none 0 0] 28) = wA at *
  have HR := hidr (hR.below bA)
  have HD := hidr (hD.below bA)
  have HB := hidr bA
  obtain ⟨pd, cd, rfl, hld, _⟩ := hD
  clear bA hR
  have HRet : Hid (∀ (W : World) (er : Int), Below wA.heap.size wA W → W.heap[w.heap.size + 1]? = some (.cells #[.int .i64 0, .int .i64 0, .slice none 0 0] 28 (0, 0)) → findP ⟨l, b, a, roles⟩ ds = ⟨er, 0, 0, []⟩ → (W.setRow (w.heap.size + 1) #[.int .i64 0, .int .i64 0, .slice none 0 0]).heap[w.heap.size + 1]? = some (.cells #[.int .i64 0, .int .i64 0, .slice none 0 0] 28 (0, 0)) ∧ OutT (findP ⟨l, b, a, roles⟩ ds) w (.returned (.tuple #[.agg #[.int .i64 0, .int .i64 0, .slice none 0 0], .int .i64 er])) (W.setRow (w.heap.size + 1) #[.int .i64 0, .int .i64 0, .slice none 0 0])) := fun W er hW hs he => by
    rw [he]
    exact ⟨setRow_heap _ _ _ _ _ _ hs, _, rfl, rowI_nil _, below_setRow (HB.out.trans (hW.mono HB.out.size)) (by omega) _⟩
  by_cases h30 : 30 < (ds.length : Int)
  · have HX : Hid (findP ⟨l, b, a, roles⟩ ds = ⟨5, 0, 0, []⟩) := by
      show _ = _
      unfold findP
      rw [if_pos (by omega)]
    have HQ := hidr (HRet.out wA 5 (Below.refl _ _) nS HX.out)
    clear HRet
    go_enter Tryd.func9, Tryd.ntmps9
    go_wp2_with (first
      | (refine wpList_store_row rfl 28 _ _ rfl _ _ rfl rfl _ _ nS (by kernel_rfl) (by simp) (by simp [Value.oneCell']) ?_))
    exact rfind_post (w.heap.size + 1) 0 0 (.slice none 0 0) 5 rfl rfl rfl HQ.out.1 HQ.out.2
  have HE : Hid (findP ⟨l, b, a, roles⟩ ds = if daysE ⟨l, b, a, roles⟩ ds ≠ 0 then ⟨daysE ⟨l, b, a, roles⟩ ds, 0, 0, []⟩ else match daysF ⟨l, b, a, roles⟩ ds 0 with
      | some x => ⟨0, (x.1 : Int), x.2.1, x.2.2⟩
      | none => ⟨11, 0, 0, []⟩) := by
    show _ = _
    unfold findP
    rw [if_neg (by omega)]
    rfl
  go_enter Tryd.func9, Tryd.ntmps9
  go_wp2_with fail
  go_loopw [27] (fun t wr => ∃ j : Nat, t = .int .i64 (j : Int) ∧ j ≤ ds.length ∧ Hid (daysE ⟨l, b, a, roles⟩ ds = daysE ⟨l, b, a, roles⟩ (ds.drop j)) ∧ Hid (Below wA.heap.size wA wr)) (fun t _ => ds.length - (intOf t).toNat)
  case atStart => exact ⟨0, rfl, by omega, rfl, Below.refl _ _⟩
  case round =>
    obtain ⟨j, rfl, hj, hX, HBr⟩ := hrel
    have hj0 : (0 : Int) ≤ (j : Int) := by omega
    by_cases hlt : j < ds.length
    · have hlt' : (j : Int) < (ds.length : Int) := by omega
      obtain ⟨fs, hjf⟩ : ∃ r, ds[j]? = some r := ⟨_, List.getElem?_eq_getElem hlt⟩
      obtain ⟨_, _, e1, _, hall⟩ := HD.out.below HBr.out
      cases e1
      obtain ⟨gd0, od0, sv, hpe, cx, hrow⟩ := hall j _ hjf
      subst hpe
      obtain ⟨pf, cf, rfl, hlf, _⟩ := hrow
      have n2 := (HBr.out.block _ (lt_of_block nA)).trans nA
      have y0 := (cell_of_row _ _ 0 _ _ _ n2).trans rfl
      have y1 := (cell_of_row _ _ 1 _ _ _ n2).trans rfl
      have y2 := (cell_of_row _ _ 2 _ _ _ n2).trans rfl
      have y3 := (cell_of_row _ _ 3 _ _ _ n2).trans rfl
      have c1 := rwrongsv_any ⟨l, b, a, roles⟩ _ (fs.length : Int) wr HL.out (HR.out.below HBr.out)
      unfold svV at c1
      dsimp only at c1
      have hS := daysE_step (s := ⟨l, b, a, roles⟩) hjf
      obtain ⟨er, her⟩ : ∃ q, wrongS ⟨l, b, a, roles⟩ (fs.length : Int) = q := ⟨_, rfl⟩
      rw [her] at c1 hS
      have nS0 := (HBr.out.block _ (lt_of_block nS)).trans nS
      clear hall hjf her
      by_cases hz : er = 0
      · subst hz
        rw [if_neg (by simp)] at hS
        have HX2 := hidr (hX.out.trans hS)
        clear hS hX
        go_wp2_with fail
        refine c1.mono ?_
        rintro e w2 ⟨rfl, b2⟩
        have HB2 := hidr (HBr.out.trans (b2.mono HBr.out.size))
        clear c1 b2
        go_wp2_with fail
        go_roundw
        case rel => exact ⟨j + 1, by go_num, by omega, HX2, HB2⟩
        case measure => simp [intOf]; omega
      · rw [if_pos hz] at hS
        have hz' : (er == 0) = false := beq_eq_false_iff_ne.2 hz
        have HX2 := hidr (hX.out.trans hS)
        clear hS hX
        go_wp2_with fail
        refine c1.mono ?_
        rintro e w2 ⟨rfl, b2⟩
        have nS2 := (b2.block _ (lt_of_block nS0)).trans nS0
        have HQ := hidr (HRet.out w2 er (HBr.out.trans (b2.mono HBr.out.size)) nS2 (HE.out.trans (by rw [HX2.out]; exact if_pos hz)))
        clear c1 b2 hz
        go_wp2_with (first
          | (refine wpList_store_row rfl 28 _ _ rfl _ _ rfl rfl _ _ nS2 (by kernel_rfl) (by simp) (by simp [Value.oneCell']) ?_))
        exact rfind_post (w.heap.size + 1) 0 0 (.slice none 0 0) er rfl rfl rfl HQ.out.1 HQ.out.2
    · have hlt' : ¬ (j : Int) < (ds.length : Int) := by omega
      have HZ : Hid (daysE ⟨l, b, a, roles⟩ ds = 0) := by
        show _ = _
        rw [hX.out, List.drop_of_length_le (by omega)]
        rfl
      have HOK := hidr (daysE_ok HZ.out)
      have HE2 := hidr (HE.out.trans (if_neg (by rw [HZ.out]; simp)))
      clear hX HE HZ
      go_wp2_with fail
      go_loopw [42] (fun t W => ∃ k : Nat, t = .int .i64 (k : Int) ∧ k ≤ ds.length ∧ Hid (daysF ⟨l, b, a, roles⟩ ds 0 = daysF ⟨l, b, a, roles⟩ (ds.drop k) k) ∧ Hid (Below wA.heap.size wA W)) (fun t _ => ds.length - (intOf t).toNat)
      case atStart => exact ⟨0, rfl, by omega, rfl, HBr⟩
      case round =>
        obtain ⟨k, rfl, hk, hX, HBk⟩ := hrel
        have hk0 : (0 : Int) ≤ (k : Int) := by omega
        by_cases hltk : k < ds.length
        · have hltk' : (k : Int) < (ds.length : Int) := by omega
          obtain ⟨fs, hjf⟩ : ∃ r, ds[k]? = some r := ⟨_, List.getElem?_eq_getElem hltk⟩
          obtain ⟨_, _, e1, _, hall⟩ := HD.out.below HBk.out
          cases e1
          obtain ⟨gd0, od0, sv, hpe, cx, hrow⟩ := hall k _ hjf
          subst hpe
          have hok := wrong_ok (HOK.out fs (List.mem_of_getElem? hjf))
          have hS := daysF_step (s := ⟨l, b, a, roles⟩) k hjf
          dsimp only at hS
          have hme := of_decide_eq_true hok.meas
          dsimp only at hme
          rw [← day_first hok (by show b ≤ 1440; omega)] at hS
          dsimp only at hS
          have HX := hidr (hX.out.trans hS)
          have HSV := hidr hok
          have HM := hidr hme
          have hfl : fs.length ≤ 1000000000000 := HDL.out fs (List.mem_of_getElem? hjf)
          have hb0 : 0 ≤ b := hme.2.2.1
          have hb1 : b ≤ 1440 := hme.2.2.2.1
          have e1 : IntKind.i64.wrap (b + l) = b + l := by rw [IntKind.wrap_i64]; omega
          have e2 : IntKind.i64.wrap (b + l + a) = b + l + a := by rw [IntKind.wrap_i64]; omega
          have nW := (HBk.out.block _ (lt_of_block nA)).trans nA
          have nS0 := (HBk.out.block _ (lt_of_block nS)).trans nS
          have hmk := run_make_row' (P := Tryd.prog) 48 49 (.slice none 0 0) 24 boolssTypeT slInfoT rfl .i64 .i64 fs.length (by omega) (by omega)
          have hmr : ∀ w, (Instr.makeSlice 49 (.int .i64 1441) (.int .i64 1441)).run Tryd.prog w = .ok (.slice (some ⟨w.heap.size, 0, none⟩) 1441 1441) (w.alloc (.cells (bcellsT 1441 fun _ => false) 4)) := fun w => by
            have h := run_make_row' (P := Tryd.prog) 49 4 (.bool false) 1 boolsTypeT boolInfoT rfl .i64 .i64 1441 (by omega) (by omega) w
            rw [bcellsT_none] at h
            exact h
          have hmf := run_make_row' (P := Tryd.prog) 49 4 (.bool false) 1 boolsTypeT boolInfoT rfl .i64 .i64 fs.length (by omega) (by omega)
          rw [ocellsT_none _ (fun _ => 0)] at hmk
          rw [bcellsT_none] at hmf
          have HMF := hidr hmf
          have HMR := hidr hmr
          have HRow := hidr hrow
          obtain ⟨pf, cf, rfl, hlf, _⟩ := hrow
          obtain ⟨w1, hw1⟩ : ∃ q, q = wr := ⟨_, rfl⟩
          rw [← hw1] at cx nW nS0 HRow HBk
          rw [← hw1]
          have bB := (Below.refl w1.heap.size w1).alloc (Nat.le_refl _) (.cells (ocellsT fs.length 0 (fun _ => 0)) 49)
          have HC0 : Hid (CdM w1 fs.length 0 (fun _ => 0) (cdB fs (b + l + a)) (w1.alloc (.cells (ocellsT fs.length 0 (fun _ => 0)) 49))) := ⟨bB, heap_alloc_new w1 _, fun j hj => by omega, fun j k hj => by omega, fun j hj => by omega, by omega⟩
          generalize hwB : w1.alloc (.cells (ocellsT fs.length 0 (fun _ => 0)) 49) = wB at *
          clear hall hjf hS hX hok hme hw1 bB hmf hmr
          go_wp2_with fail
          clear hmk hwB
          go_loopw [52] (fun t W => ∃ (r : Nat) (rs : Nat → Nat), t = .int .i64 (r : Int) ∧ r ≤ fs.length ∧ Hid (CdM w1 fs.length r rs (cdB fs (b + l + a)) W)) (fun t _ => fs.length - (intOf t).toNat)
          case atStart => exact ⟨0, _, rfl, by omega, HC0⟩
          case round =>
            clear HC0
            obtain ⟨r, rs0, rfl, hr, HC⟩ := hrel
            have hr0 : (0 : Int) ≤ (r : Int) := by omega
            by_cases hltr : r < fs.length
            · have hltr' : (r : Int) < (fs.length : Int) := by omega
              obtain ⟨f, hf⟩ : ∃ f, fs[r]? = some f := ⟨_, List.getElem?_eq_getElem hltr⟩
              obtain ⟨_, _, e3, _, hallf⟩ := HRow.out
              cases e3
              obtain ⟨gf, of, hpf, rgf0⟩ := hallf r f hf
              subst hpf
              have rgf := rangeAt_below rgf0 HC.out.bel
              have hz := mv_lit
              have bZ := (Below.refl wr.heap.size wr).alloc (Nat.le_refl _) (.cells (mv fun _ => false) 41)
              have nZ := heap_alloc_new wr (.cells (mv fun _ => false) 41)
              generalize hwZ : wr.alloc (.cells (mv fun _ => false) 41) = wZ at *
              have bY := below_setRow bZ (Nat.le_refl _) (mv f)
              have nY := setRow_heap wZ wr.heap.size _ (mv f) _ _ nZ
              generalize hwY : wZ.setRow wr.heap.size (mv f) = wY at *
              have bX := (Below.refl wY.heap.size wY).alloc (Nat.le_refl _) (.cells (bcellsT 1441 fun _ => false) 4)
              have hCY := HC.out.below bY
              have hadd := (hCY.add hltr).same (M' := stT fs (b + l + a) r 0) fun j i hj hi => (stT_zero fs (b + l + a) r j i hi).symm
              have ko := (cell_of_row _ _ r _ _ _ (hCY.below bX).outer).trans (ocellsT_not (Nat.le_refl r) hltr)
              have yo := frozen_of_row _ _ r _ _ (hCY.below bX).outer
              have nX : (wY.alloc (.cells (bcellsT 1441 fun _ => false) 4)).heap[wr.heap.size]? = _ := (bX.block _ (lt_of_block nY)).trans nY
              have hgC := lt_of_block HC.out.outer
              have hmr := HMR.out
              generalize hwX : wY.alloc (.cells (bcellsT 1441 fun _ => false) 4) = wX at *
              have nV := (heap_setCell_other wX ⟨w1.heap.size, r, none⟩ wr.heap.size (.slice (some ⟨wY.heap.size, 0, none⟩) 1441 1441) (by show wr.heap.size ≠ w1.heap.size; omega)).trans nX
              have hgB : wr.heap.size < wY.heap.size := lt_of_block nY
              have Hadd := hidr hadd
              have HNV := hidr nV
              have HF := hidr hf
              clear hallf rgf0 bZ bY bX hCY hadd nX nV hf
              go_wp2_with (first
                | (refine wpList_loadMk rfl _ rfl gf _ rfl f rgf ?_)
                | (refine wpList_store_row rfl 41 _ _ rfl _ _ rfl rfl _ _ nZ (maskSize _) (by simp [mv_size]) (mv_all _) ?_
                   rw [hwY]))
              clear ko yo hwX hwY hwZ hmr nZ
              have hadd := Hadd.out
              have nB0 := HNV.out
              clear Hadd HNV
              have hrs : (fun j => if j = r then wY.heap.size else rs0 j) r = wY.heap.size := if_pos rfl
              generalize (fun j => if j = r then wY.heap.size else rs0 j) = rs at hadd hrs
              generalize wX.setCell ⟨w1.heap.size, r, none⟩ (.slice (some ⟨wY.heap.size, 0, none⟩) 1441 1441) = wV at *
              obtain ⟨gB, hgBe⟩ : ∃ b, wr.heap.size = b := ⟨_, rfl⟩
              rw [hgBe] at nB0 hgB
              simp only [hgBe]
              have hgr : gB ≠ rs r := by omega
              clear hgBe hgB hrs hgC nY
              go_loopw [14, 15] (fun t u W => ∃ (d : Nat), t = .int .i64 (runD f d : Int) ∧ u = .int .i64 (1439 - (d : Int)) ∧ d ≤ 1440 ∧ Hid (CdM w1 fs.length (r + 1) rs (stT fs (b + l + a) r d) W) ∧ Hid (W.heap[gB]? = some (.cells (mv f) 41 (0, 0)))) (fun _ u _ => (intOf u + 1).toNat)
              case atStart => exact ⟨0, rfl, rfl, by omega, hadd, nB0⟩
              case round =>
                clear hadd nB0
                obtain ⟨d, rfl, rfl, hd, HCd, HnB⟩ := hrel
                by_cases hltd : d < 1440
                · obtain ⟨i, hi⟩ : ∃ i : Nat, 1439 - (d : Int) = (i : Int) := ⟨1439 - d, by omega⟩
                  have hi' : i = 1440 - (d + 1) := by omega
                  rw [hi]
                  have hi0 : (0 : Int) ≤ (i : Int) := by omega
                  have hi41 : (i : Int) < 1441 := by omega
                  have ew : IntKind.i64.wrap ((i : Int) - 1) = 1439 - ((d + 1 : Nat) : Int) := by rw [IntKind.wrap_i64]; omega
                  obtain ⟨rn, hrn⟩ : ∃ rn : Nat, rn = runD f d + 1 := ⟨_, rfl⟩
                  have hrd : runD f d ≤ d := ((runD_iff f d (runD f d) (by omega)).1 (Nat.le_refl _)).1
                  have er : IntKind.i64.wrap ((runD f d : Int) + 1) = (rn : Int) := by rw [IntKind.wrap_i64]; omega
                  have cH := has_ref f (i : Int) wr
                  have nB := HnB.out
                  rw [hasB_nat, decide_eq_true (by omega), Bool.true_and] at cH
                  have HCB := hidr (cdB_run (W := b + l + a) HF.out (by have := HM.out; omega) hltd)
                  have HRD : Hid (runD f (d + 1) = if f i = true then rn else 0) := by
                    show _ = _
                    rw [runD, ← hi', hrn]
                  rw [← hi'] at HCB
                  have HI' := hidr hi'
                  clear hi hi' hrd hrn
                  cases hfi : f i with
                  | true =>
                    rw [hfi] at cH HRD
                    have HRN : Hid (Value.int .i64 (rn : Int) = .int .i64 (runD f (d + 1) : Int)) := by
                      show _ = _
                      rw [HRD.out, if_pos rfl]
                    have HNX : Hid (∀ W : World, CdM w1 fs.length (r + 1) rs (updT (stT fs (b + l + a) r d) r i (decide (b + l + a ≤ (rn : Int)))) W → W.heap[gB]? = some (.cells (mv f) 41 (0, 0)) → Hid (CdM w1 fs.length (r + 1) rs (stT fs (b + l + a) r (d + 1)) W) ∧ Hid (W.heap[gB]? = some (.cells (mv f) 41 (0, 0)))) := fun W h1 h2 => by
                      refine ⟨h1.same fun j q _ _ => ?_, h2⟩
                      rw [← stT_step fs (b + l + a) r d hltd j q, ← HI'.out, HCB.out, HRD.out, if_pos rfl]
                    clear HRD HCB hfi
                    go_wp2_with (first
                      | (refine wpList_load_row rfl 41 _ rfl _ rfl _ _ _ _ nB maskType rfl (maskSize _) ?_))
                    refine cH.mono ?_
                    rintro e w6 ⟨rfl, b6⟩
                    have HC6 := hidr (HCd.out.below b6)
                    have n6 := (b6.block _ (lt_of_block nB)).trans nB
                    have nW6 := (HC6.out.bel.block _ (lt_of_block nW)).trans nW
                    have y0 := (cell_of_row _ _ 0 _ _ _ nW6).trans rfl
                    have y1 := (cell_of_row _ _ 1 _ _ _ nW6).trans rfl
                    have y2 := (cell_of_row _ _ 2 _ _ _ nW6).trans rfl
                    have ro := HC6.out.out (Nat.lt_succ_self r)
                    have rc := HC6.out.cell (k := i) (Nat.lt_succ_self r) (by omega)
                    clear cH b6 nB HCd HnB nW6
                    go_wp2_with fail
                    refine wp_region_last (by kernel_rfl) (by kernel_rfl) (by kernel_rfl) (by kernel_rfl) 16 (by kernel_rfl) (by kernel_rfl) [(71, .slice (some ⟨w1.heap.size, 0, none⟩) fs.length fs.length), (72, .int .i64 (r : Int)), (73, .pointer (some ⟨w1.heap.size, r, none⟩)), (74, .slice (some ⟨rs r, 0, none⟩) 1441 1441), (75, .int .i64 (i : Int)), (76, .int .i64 (rn : Int)), (77, .pointer (some ⟨w.heap.size, 1, none⟩)), (78, .int .i64 b), (79, .pointer (some ⟨w.heap.size, 0, none⟩)), (80, .int .i64 l), (81, .int .i64 (b + l)), (82, .pointer (some ⟨w.heap.size, 2, none⟩)), (83, .int .i64 a), (84, .int .i64 (b + l + a)), (85, .bool (decide (b + l + a ≤ (rn : Int)))), (86, .pointer (some ⟨rs r, i, none⟩))] (by kernel_rfl) (by kernel_rfl) ?_ ?_
                    · intro i' s v o' L A W ho hv hdep hJ hkept hhas
                      match i', ho, hv with
                      | 0, ho, hv =>
                        cases Option.some.inj ho
                        cases Option.some.inj hv
                        have h11 : A.tmps[11]?.getD undef = .slice (some ⟨w1.heap.size, 0, none⟩) fs.length fs.length := (gd A 11).trans (hkept 11 (by kernel_rfl))
                        refine wpOp_step rfl (fun K hK => ?_)
                        go_simp
                        exact hK _ _ ⟨rfl, Below.refl _ _⟩
                      | 1, ho, hv =>
                        cases Option.some.inj ho
                        cases Option.some.inj hv
                        have h12 : A.tmps[12]?.getD undef = .int .i64 (r : Int) := (gd A 12).trans (hkept 12 (by kernel_rfl))
                        refine wpOp_step rfl (fun K hK => ?_)
                        go_simp
                        exact hK _ _ ⟨rfl, Below.refl _ _⟩
                      | 2, ho, hv =>
                        cases Option.some.inj ho
                        cases Option.some.inj hv
                        have h71 : A.tmps[71]?.getD undef = .slice (some ⟨w1.heap.size, 0, none⟩) fs.length fs.length := (gd A 71).trans (hhas 0 71 _ rfl (hdep ⟨0, .data⟩ (by simp) rfl))
                        have h72 : A.tmps[72]?.getD undef = .int .i64 (r : Int) := (gd A 72).trans (hhas 1 72 _ rfl (hdep ⟨1, .data⟩ (by simp) rfl))
                        refine wpOp_step rfl (fun K hK => ?_)
                        go_simp
                        exact hK _ _ ⟨rfl, Below.refl _ _⟩
                      | 3, ho, hv =>
                        cases Option.some.inj ho
                        cases Option.some.inj hv
                        have h73 : A.tmps[73]?.getD undef = .pointer (some ⟨w1.heap.size, r, none⟩) := (gd A 73).trans (hhas 2 73 _ rfl (hdep ⟨2, .data⟩ (by simp) rfl))
                        have oi := (hJ.cell (block_lt_of_cell ro)).trans ro
                        refine wpOp_step rfl (fun K hK => ?_)
                        go_simp
                        exact hK _ _ ⟨rfl, Below.refl _ _⟩
                      | 4, ho, hv =>
                        cases Option.some.inj ho
                        cases Option.some.inj hv
                        have h15 : A.tmps[15]?.getD undef = .int .i64 (i : Int) := (gd A 15).trans (hkept 15 (by kernel_rfl))
                        refine wpOp_step rfl (fun K hK => ?_)
                        go_simp
                        exact hK _ _ ⟨rfl, Below.refl _ _⟩
                      | 5, ho, hv =>
                        cases Option.some.inj ho
                        cases Option.some.inj hv
                        have h14 : A.tmps[14]?.getD undef = .int .i64 (rn : Int) := (gd A 14).trans (hkept 14 (by kernel_rfl))
                        refine wpOp_step rfl (fun K hK => ?_)
                        go_simp
                        exact hK _ _ ⟨rfl, Below.refl _ _⟩
                      | 6, ho, hv =>
                        cases Option.some.inj ho
                        cases Option.some.inj hv
                        have h2 : A.tmps[2]?.getD undef = .pointer (some ⟨w.heap.size, 0, none⟩) := (gd A 2).trans (hkept 2 (by kernel_rfl))
                        refine wpOp_step rfl (fun K hK => ?_)
                        go_simp
                        exact hK _ _ ⟨rfl, Below.refl _ _⟩
                      | 7, ho, hv =>
                        cases Option.some.inj ho
                        cases Option.some.inj hv
                        have h77 : A.tmps[77]?.getD undef = .pointer (some ⟨w.heap.size, 1, none⟩) := (gd A 77).trans (hhas 6 77 _ rfl (hdep ⟨6, .data⟩ (by simp) rfl))
                        have oi := (hJ.cell (block_lt_of_cell y1)).trans y1
                        refine wpOp_step rfl (fun K hK => ?_)
                        go_simp
                        exact hK _ _ ⟨rfl, Below.refl _ _⟩
                      | 8, ho, hv =>
                        cases Option.some.inj ho
                        cases Option.some.inj hv
                        have h2 : A.tmps[2]?.getD undef = .pointer (some ⟨w.heap.size, 0, none⟩) := (gd A 2).trans (hkept 2 (by kernel_rfl))
                        refine wpOp_step rfl (fun K hK => ?_)
                        go_simp
                        exact hK _ _ ⟨rfl, Below.refl _ _⟩
                      | 9, ho, hv =>
                        cases Option.some.inj ho
                        cases Option.some.inj hv
                        have h79 : A.tmps[79]?.getD undef = .pointer (some ⟨w.heap.size, 0, none⟩) := (gd A 79).trans (hhas 8 79 _ rfl (hdep ⟨8, .data⟩ (by simp) rfl))
                        have oi := (hJ.cell (block_lt_of_cell y0)).trans y0
                        refine wpOp_step rfl (fun K hK => ?_)
                        go_simp
                        exact hK _ _ ⟨rfl, Below.refl _ _⟩
                      | 10, ho, hv =>
                        cases Option.some.inj ho
                        cases Option.some.inj hv
                        have h78 : A.tmps[78]?.getD undef = .int .i64 b := (gd A 78).trans (hhas 7 78 _ rfl (hdep ⟨7, .data⟩ (by simp) rfl))
                        have h80 : A.tmps[80]?.getD undef = .int .i64 l := (gd A 80).trans (hhas 9 80 _ rfl (hdep ⟨9, .data⟩ (by simp) rfl))
                        refine wpOp_step rfl (fun K hK => ?_)
                        go_simp
                        exact hK _ _ ⟨rfl, Below.refl _ _⟩
                      | 11, ho, hv =>
                        cases Option.some.inj ho
                        cases Option.some.inj hv
                        have h2 : A.tmps[2]?.getD undef = .pointer (some ⟨w.heap.size, 0, none⟩) := (gd A 2).trans (hkept 2 (by kernel_rfl))
                        refine wpOp_step rfl (fun K hK => ?_)
                        go_simp
                        exact hK _ _ ⟨rfl, Below.refl _ _⟩
                      | 12, ho, hv =>
                        cases Option.some.inj ho
                        cases Option.some.inj hv
                        have h82 : A.tmps[82]?.getD undef = .pointer (some ⟨w.heap.size, 2, none⟩) := (gd A 82).trans (hhas 11 82 _ rfl (hdep ⟨11, .data⟩ (by simp) rfl))
                        have oi := (hJ.cell (block_lt_of_cell y2)).trans y2
                        refine wpOp_step rfl (fun K hK => ?_)
                        go_simp
                        exact hK _ _ ⟨rfl, Below.refl _ _⟩
                      | 13, ho, hv =>
                        cases Option.some.inj ho
                        cases Option.some.inj hv
                        have h81 : A.tmps[81]?.getD undef = .int .i64 (b + l) := (gd A 81).trans (hhas 10 81 _ rfl (hdep ⟨10, .data⟩ (by simp) rfl))
                        have h83 : A.tmps[83]?.getD undef = .int .i64 a := (gd A 83).trans (hhas 12 83 _ rfl (hdep ⟨12, .data⟩ (by simp) rfl))
                        refine wpOp_step rfl (fun K hK => ?_)
                        go_simp
                        exact hK _ _ ⟨rfl, Below.refl _ _⟩
                      | 14, ho, hv =>
                        cases Option.some.inj ho
                        cases Option.some.inj hv
                        have h76 : A.tmps[76]?.getD undef = .int .i64 (rn : Int) := (gd A 76).trans (hhas 5 76 _ rfl (hdep ⟨5, .data⟩ (by simp) rfl))
                        have h84 : A.tmps[84]?.getD undef = .int .i64 (b + l + a) := (gd A 84).trans (hhas 13 84 _ rfl (hdep ⟨13, .data⟩ (by simp) rfl))
                        refine wpOp_step rfl (fun K hK => ?_)
                        go_simp
                        exact hK _ _ ⟨rfl, Below.refl _ _⟩
                      | 15, ho, hv =>
                        cases Option.some.inj ho
                        cases Option.some.inj hv
                        have h74 : A.tmps[74]?.getD undef = .slice (some ⟨rs r, 0, none⟩) 1441 1441 := (gd A 74).trans (hhas 3 74 _ rfl (hdep ⟨3, .data⟩ (by simp) rfl))
                        have h75 : A.tmps[75]?.getD undef = .int .i64 (i : Int) := (gd A 75).trans (hhas 4 75 _ rfl (hdep ⟨4, .data⟩ (by simp) rfl))
                        refine wpOp_step rfl (fun K hK => ?_)
                        go_simp
                        exact hK _ _ ⟨rfl, Below.refl _ _⟩
                      | kk + 16, ho, hv => simp at hv
                    · intro o' W ho hJ
                      cases Option.some.inj ho
                      simp only [putAll_cons, putAll_nil, Act.put, List.setIfInBounds_toArray, List.set_cons_succ, List.set_cons_zero]
                      refine wpOp_step rfl (fun K hK => ?_)
                      have hW := (HC6.out.below hJ).set (k := i) (b := decide (b + l + a ≤ (rn : Int))) (Nat.lt_succ_self r)
                      have ck := (hJ.cell (block_lt_of_cell rc)).trans rc
                      have yk : W.frozen? ⟨rs r, i, none⟩ = false := (HC6.out.below hJ).frz (Nat.lt_succ_self r) i
                      have HN := hidr (HNX.out _ hW ((heap_setCell_other W ⟨rs r, i, none⟩ gB _ hgr).trans ((hJ.block _ (lt_of_block n6)).trans n6)))
                      clear hW HNX
                      go_simp
                      refine hK _ _ ⟨⟨undef, rfl⟩, ?_⟩
                      clear hK hJ ck yk
                      go_wp2_with fail
                      go_roundw
                      case rel => exact ⟨d + 1, HRN.out, by go_num, by omega, HN.out.1, HN.out.2⟩
                      case measure =>
                        have h9 := HI'.out
                        simp [intOf]
                        omega
                  | false =>
                    rw [hfi] at cH HRD
                    have HRN : Hid (Value.int .i64 0 = .int .i64 (runD f (d + 1) : Int)) := by
                      show _ = _
                      rw [HRD.out, if_neg (by decide)]
                      rfl
                    have HNX : Hid (∀ W : World, CdM w1 fs.length (r + 1) rs (updT (stT fs (b + l + a) r d) r i (decide (b + l + a ≤ 0))) W → W.heap[gB]? = some (.cells (mv f) 41 (0, 0)) → Hid (CdM w1 fs.length (r + 1) rs (stT fs (b + l + a) r (d + 1)) W) ∧ Hid (W.heap[gB]? = some (.cells (mv f) 41 (0, 0)))) := fun W h1 h2 => by
                      refine ⟨h1.same fun j q _ _ => ?_, h2⟩
                      rw [← stT_step fs (b + l + a) r d hltd j q, ← HI'.out, HCB.out, HRD.out, if_neg (by decide)]
                      rfl
                    clear HRD HCB hfi
                    go_wp2_with (first
                      | (refine wpList_load_row rfl 41 _ rfl _ rfl _ _ _ _ nB maskType rfl (maskSize _) ?_))
                    refine cH.mono ?_
                    rintro e w6 ⟨rfl, b6⟩
                    have HC6 := hidr (HCd.out.below b6)
                    have n6 := (b6.block _ (lt_of_block nB)).trans nB
                    have nW6 := (HC6.out.bel.block _ (lt_of_block nW)).trans nW
                    have y0 := (cell_of_row _ _ 0 _ _ _ nW6).trans rfl
                    have y1 := (cell_of_row _ _ 1 _ _ _ nW6).trans rfl
                    have y2 := (cell_of_row _ _ 2 _ _ _ nW6).trans rfl
                    have ro := HC6.out.out (Nat.lt_succ_self r)
                    have rc := HC6.out.cell (k := i) (Nat.lt_succ_self r) (by omega)
                    clear cH b6 nB HCd HnB nW6
                    go_wp2_with fail
                    refine wp_region_last (by kernel_rfl) (by kernel_rfl) (by kernel_rfl) (by kernel_rfl) 16 (by kernel_rfl) (by kernel_rfl) [(71, .slice (some ⟨w1.heap.size, 0, none⟩) fs.length fs.length), (72, .int .i64 (r : Int)), (73, .pointer (some ⟨w1.heap.size, r, none⟩)), (74, .slice (some ⟨rs r, 0, none⟩) 1441 1441), (75, .int .i64 (i : Int)), (76, .int .i64 0), (77, .pointer (some ⟨w.heap.size, 1, none⟩)), (78, .int .i64 b), (79, .pointer (some ⟨w.heap.size, 0, none⟩)), (80, .int .i64 l), (81, .int .i64 (b + l)), (82, .pointer (some ⟨w.heap.size, 2, none⟩)), (83, .int .i64 a), (84, .int .i64 (b + l + a)), (85, .bool (decide (b + l + a ≤ 0))), (86, .pointer (some ⟨rs r, i, none⟩))] (by kernel_rfl) (by kernel_rfl) ?_ ?_
                    · intro i' s v o' L A W ho hv hdep hJ hkept hhas
                      match i', ho, hv with
                      | 0, ho, hv =>
                        cases Option.some.inj ho
                        cases Option.some.inj hv
                        have h11 : A.tmps[11]?.getD undef = .slice (some ⟨w1.heap.size, 0, none⟩) fs.length fs.length := (gd A 11).trans (hkept 11 (by kernel_rfl))
                        refine wpOp_step rfl (fun K hK => ?_)
                        go_simp
                        exact hK _ _ ⟨rfl, Below.refl _ _⟩
                      | 1, ho, hv =>
                        cases Option.some.inj ho
                        cases Option.some.inj hv
                        have h12 : A.tmps[12]?.getD undef = .int .i64 (r : Int) := (gd A 12).trans (hkept 12 (by kernel_rfl))
                        refine wpOp_step rfl (fun K hK => ?_)
                        go_simp
                        exact hK _ _ ⟨rfl, Below.refl _ _⟩
                      | 2, ho, hv =>
                        cases Option.some.inj ho
                        cases Option.some.inj hv
                        have h71 : A.tmps[71]?.getD undef = .slice (some ⟨w1.heap.size, 0, none⟩) fs.length fs.length := (gd A 71).trans (hhas 0 71 _ rfl (hdep ⟨0, .data⟩ (by simp) rfl))
                        have h72 : A.tmps[72]?.getD undef = .int .i64 (r : Int) := (gd A 72).trans (hhas 1 72 _ rfl (hdep ⟨1, .data⟩ (by simp) rfl))
                        refine wpOp_step rfl (fun K hK => ?_)
                        go_simp
                        exact hK _ _ ⟨rfl, Below.refl _ _⟩
                      | 3, ho, hv =>
                        cases Option.some.inj ho
                        cases Option.some.inj hv
                        have h73 : A.tmps[73]?.getD undef = .pointer (some ⟨w1.heap.size, r, none⟩) := (gd A 73).trans (hhas 2 73 _ rfl (hdep ⟨2, .data⟩ (by simp) rfl))
                        have oi := (hJ.cell (block_lt_of_cell ro)).trans ro
                        refine wpOp_step rfl (fun K hK => ?_)
                        go_simp
                        exact hK _ _ ⟨rfl, Below.refl _ _⟩
                      | 4, ho, hv =>
                        cases Option.some.inj ho
                        cases Option.some.inj hv
                        have h15 : A.tmps[15]?.getD undef = .int .i64 (i : Int) := (gd A 15).trans (hkept 15 (by kernel_rfl))
                        refine wpOp_step rfl (fun K hK => ?_)
                        go_simp
                        exact hK _ _ ⟨rfl, Below.refl _ _⟩
                      | 5, ho, hv =>
                        cases Option.some.inj ho
                        cases Option.some.inj hv
                        have h14 : A.tmps[14]?.getD undef = .int .i64 0 := (gd A 14).trans (hkept 14 (by kernel_rfl))
                        refine wpOp_step rfl (fun K hK => ?_)
                        go_simp
                        exact hK _ _ ⟨rfl, Below.refl _ _⟩
                      | 6, ho, hv =>
                        cases Option.some.inj ho
                        cases Option.some.inj hv
                        have h2 : A.tmps[2]?.getD undef = .pointer (some ⟨w.heap.size, 0, none⟩) := (gd A 2).trans (hkept 2 (by kernel_rfl))
                        refine wpOp_step rfl (fun K hK => ?_)
                        go_simp
                        exact hK _ _ ⟨rfl, Below.refl _ _⟩
                      | 7, ho, hv =>
                        cases Option.some.inj ho
                        cases Option.some.inj hv
                        have h77 : A.tmps[77]?.getD undef = .pointer (some ⟨w.heap.size, 1, none⟩) := (gd A 77).trans (hhas 6 77 _ rfl (hdep ⟨6, .data⟩ (by simp) rfl))
                        have oi := (hJ.cell (block_lt_of_cell y1)).trans y1
                        refine wpOp_step rfl (fun K hK => ?_)
                        go_simp
                        exact hK _ _ ⟨rfl, Below.refl _ _⟩
                      | 8, ho, hv =>
                        cases Option.some.inj ho
                        cases Option.some.inj hv
                        have h2 : A.tmps[2]?.getD undef = .pointer (some ⟨w.heap.size, 0, none⟩) := (gd A 2).trans (hkept 2 (by kernel_rfl))
                        refine wpOp_step rfl (fun K hK => ?_)
                        go_simp
                        exact hK _ _ ⟨rfl, Below.refl _ _⟩
                      | 9, ho, hv =>
                        cases Option.some.inj ho
                        cases Option.some.inj hv
                        have h79 : A.tmps[79]?.getD undef = .pointer (some ⟨w.heap.size, 0, none⟩) := (gd A 79).trans (hhas 8 79 _ rfl (hdep ⟨8, .data⟩ (by simp) rfl))
                        have oi := (hJ.cell (block_lt_of_cell y0)).trans y0
                        refine wpOp_step rfl (fun K hK => ?_)
                        go_simp
                        exact hK _ _ ⟨rfl, Below.refl _ _⟩
                      | 10, ho, hv =>
                        cases Option.some.inj ho
                        cases Option.some.inj hv
                        have h78 : A.tmps[78]?.getD undef = .int .i64 b := (gd A 78).trans (hhas 7 78 _ rfl (hdep ⟨7, .data⟩ (by simp) rfl))
                        have h80 : A.tmps[80]?.getD undef = .int .i64 l := (gd A 80).trans (hhas 9 80 _ rfl (hdep ⟨9, .data⟩ (by simp) rfl))
                        refine wpOp_step rfl (fun K hK => ?_)
                        go_simp
                        exact hK _ _ ⟨rfl, Below.refl _ _⟩
                      | 11, ho, hv =>
                        cases Option.some.inj ho
                        cases Option.some.inj hv
                        have h2 : A.tmps[2]?.getD undef = .pointer (some ⟨w.heap.size, 0, none⟩) := (gd A 2).trans (hkept 2 (by kernel_rfl))
                        refine wpOp_step rfl (fun K hK => ?_)
                        go_simp
                        exact hK _ _ ⟨rfl, Below.refl _ _⟩
                      | 12, ho, hv =>
                        cases Option.some.inj ho
                        cases Option.some.inj hv
                        have h82 : A.tmps[82]?.getD undef = .pointer (some ⟨w.heap.size, 2, none⟩) := (gd A 82).trans (hhas 11 82 _ rfl (hdep ⟨11, .data⟩ (by simp) rfl))
                        have oi := (hJ.cell (block_lt_of_cell y2)).trans y2
                        refine wpOp_step rfl (fun K hK => ?_)
                        go_simp
                        exact hK _ _ ⟨rfl, Below.refl _ _⟩
                      | 13, ho, hv =>
                        cases Option.some.inj ho
                        cases Option.some.inj hv
                        have h81 : A.tmps[81]?.getD undef = .int .i64 (b + l) := (gd A 81).trans (hhas 10 81 _ rfl (hdep ⟨10, .data⟩ (by simp) rfl))
                        have h83 : A.tmps[83]?.getD undef = .int .i64 a := (gd A 83).trans (hhas 12 83 _ rfl (hdep ⟨12, .data⟩ (by simp) rfl))
                        refine wpOp_step rfl (fun K hK => ?_)
                        go_simp
                        exact hK _ _ ⟨rfl, Below.refl _ _⟩
                      | 14, ho, hv =>
                        cases Option.some.inj ho
                        cases Option.some.inj hv
                        have h76 : A.tmps[76]?.getD undef = .int .i64 0 := (gd A 76).trans (hhas 5 76 _ rfl (hdep ⟨5, .data⟩ (by simp) rfl))
                        have h84 : A.tmps[84]?.getD undef = .int .i64 (b + l + a) := (gd A 84).trans (hhas 13 84 _ rfl (hdep ⟨13, .data⟩ (by simp) rfl))
                        refine wpOp_step rfl (fun K hK => ?_)
                        go_simp
                        exact hK _ _ ⟨rfl, Below.refl _ _⟩
                      | 15, ho, hv =>
                        cases Option.some.inj ho
                        cases Option.some.inj hv
                        have h74 : A.tmps[74]?.getD undef = .slice (some ⟨rs r, 0, none⟩) 1441 1441 := (gd A 74).trans (hhas 3 74 _ rfl (hdep ⟨3, .data⟩ (by simp) rfl))
                        have h75 : A.tmps[75]?.getD undef = .int .i64 (i : Int) := (gd A 75).trans (hhas 4 75 _ rfl (hdep ⟨4, .data⟩ (by simp) rfl))
                        refine wpOp_step rfl (fun K hK => ?_)
                        go_simp
                        exact hK _ _ ⟨rfl, Below.refl _ _⟩
                      | kk + 16, ho, hv => simp at hv
                    · intro o' W ho hJ
                      cases Option.some.inj ho
                      simp only [putAll_cons, putAll_nil, Act.put, List.setIfInBounds_toArray, List.set_cons_succ, List.set_cons_zero]
                      refine wpOp_step rfl (fun K hK => ?_)
                      have hW := (HC6.out.below hJ).set (k := i) (b := decide (b + l + a ≤ 0)) (Nat.lt_succ_self r)
                      have ck := (hJ.cell (block_lt_of_cell rc)).trans rc
                      have yk : W.frozen? ⟨rs r, i, none⟩ = false := (HC6.out.below hJ).frz (Nat.lt_succ_self r) i
                      have HN := hidr (HNX.out _ hW ((heap_setCell_other W ⟨rs r, i, none⟩ gB _ hgr).trans ((hJ.block _ (lt_of_block n6)).trans n6)))
                      clear hW HNX
                      go_simp
                      refine hK _ _ ⟨⟨undef, rfl⟩, ?_⟩
                      clear hK hJ ck yk
                      go_wp2_with fail
                      go_roundw
                      case rel => exact ⟨d + 1, HRN.out, by go_num, by omega, HN.out.1, HN.out.2⟩
                      case measure =>
                        have h9 := HI'.out
                        simp [intOf]
                        omega
                · have hde : d = 1440 := by omega
                  subst hde
                  have HC2 : Hid (CdM w1 fs.length (r + 1) rs (cdB fs (b + l + a)) wr) := HCd.out.same fun j i _ _ => stT_all fs (b + l + a) r j i
                  clear HCd HnB hltd hd
                  go_wp2_with fail
                  go_roundw
                  case rel => exact ⟨r + 1, rs, by go_num, by omega, HC2⟩
                  case measure => simp [intOf]; omega
            · have hltr' : ¬ (r : Int) < (fs.length : Int) := by omega
              have hre : r = fs.length := by omega
              subst hre
              obtain ⟨rs, hrs⟩ : ∃ q, q = rs0 := ⟨_, rfl⟩
              subst hrs
              have nW6 := (HC.out.bel.block _ (lt_of_block nW)).trans nW
              have y1 := (cell_of_row _ _ 1 _ _ _ nW6).trans rfl
              obtain ⟨bn, hbn⟩ : ∃ q : Nat, b = (q : Int) := ⟨b.toNat, by omega⟩
              have HBN := hidr hbn
              clear nW6 hr hltr hr0 hbn
              go_wp2_with fail
              go_loopw [16] (fun t W => ∃ (m : Nat), t = .int .i64 (m : Int) ∧ bn ≤ m ∧ m ≤ 1440 ∧ Hid (dayG ⟨l, b, a, roles⟩ fs (1440 - b).toNat b = dayG ⟨l, b, a, roles⟩ fs (1440 - m) (m : Int)) ∧ Hid (CdM w1 fs.length fs.length rs (cdB fs (b + l + a)) W)) (fun t _ => (1440 - intOf t).toNat)
              case atStart => exact ⟨bn, congrArg (Value.int .i64) HBN.out, by omega, by have := HBN.out; omega, by show _ = _; rw [HBN.out, show (1440 - (bn : Int)).toNat = 1440 - bn by omega], HC⟩
              case round =>
                clear HC y1
                obtain ⟨m, rfl, hbm, hm, HDy, HC⟩ := hrel
                by_cases hltm : m < 1440
                · have hltm' : (m : Int) < 1440 := by omega
                  obtain ⟨q, hq⟩ : ∃ q : Nat, (m : Int) - b = (q : Int) := ⟨m - bn, by have := HBN.out; omega⟩
                  have ewq : IntKind.i64.wrap ((m : Int) - b) = (q : Int) := by rw [IntKind.wrap_i64]; omega
                  have hq0 : (0 : Int) ≤ (q : Int) := by omega
                  have hq41 : (q : Int) < 1441 := by omega
                  have hdst := dayG_step ⟨l, b, a, roles⟩ fs m hltm
                  dsimp only at hdst
                  rw [hq] at hdst
                  have HST := hidr (HDy.out.trans hdst)
                  obtain ⟨okN, hokN⟩ : ∃ f : Nat → Bool, f = fun j => cdB fs (b + l + a) j q := ⟨_, rfl⟩
                  have HOKN : Hid (∀ j : Nat, okN j = okP fs (q : Int) ((q : Int) + whole ⟨l, b, a, roles⟩) (j : Int)) := fun j => by
                    rw [hokN]
                    show (decide (q < 1440) && okP fs (q : Int) ((q : Int) + (b + l + a)) (j : Int)) = _
                    rw [decide_eq_true (by omega), Bool.true_and]
                    rfl
                  have HOKM : Hid (∀ j : Nat, cdB fs (b + l + a) j q = okN j) := fun j => by rw [hokN]
                  have bF := (Below.refl wr.heap.size wr).alloc (Nat.le_refl _) (.cells (bcellsT fs.length fun _ => false) 4)
                  have nF := heap_alloc_new wr (.cells (bcellsT fs.length fun _ => false) 4)
                  have HGF : Hid (∀ j, j < fs.length → rs j ≠ wr.heap.size) := fun j hj => by
                    have := lt_of_block (HC.out.rows j hj)
                    omega
                  have hgF : w1.heap.size < wr.heap.size := lt_of_block HC.out.outer
                  have hmf := HMF.out
                  have HC6 := hidr (HC.out.below bF)
                  generalize hwF : wr.alloc (.cells (bcellsT fs.length fun _ => false) 4) = wF at *
                  have HF6 := hidr nF
                  clear bF nF hokN hdst hq HDy HC
                  go_wp2_with fail
                  clear hmf hwF
                  obtain ⟨gF, hgFe⟩ : ∃ b, wr.heap.size = b := ⟨_, rfl⟩
                  rw [hgFe] at HGF hgF HF6
                  simp only [hgFe]
                  clear hgFe
                  go_loopw [18, 99] (fun u t W => ∃ (r : Nat) (an : Bool), u = .bool an ∧ t = .int .i64 (r : Int) ∧ r ≤ fs.length ∧ Hid (an = anyN okN r) ∧ Hid (W.heap[gF]? = some (.cells (bcellsT fs.length fun j => decide (j < r) && okN j) 4 (0, 0))) ∧ Hid (CdM w1 fs.length fs.length rs (cdB fs (b + l + a)) W)) (fun _ t _ => fs.length - (intOf t).toNat)
                  case atStart => exact ⟨0, false, rfl, rfl, by omega, rfl, by show _ = _; rw [show (fun j => decide (j < 0) && okN j) = fun _ => false from funext fun j => by simp]; exact HF6.out, HC6⟩
                  case round =>
                    clear HF6 HC6
                    obtain ⟨r, an, rfl, rfl, hr, HA, HF6, HC6⟩ := hrel
                    have hr0 : (0 : Int) ≤ (r : Int) := by omega
                    by_cases hltr : r < fs.length
                    · have hltr' : (r : Int) < (fs.length : Int) := by omega
                      have nW6 := (HC6.out.bel.block _ (lt_of_block nW)).trans nW
                      have y1 := (cell_of_row _ _ 1 _ _ _ nW6).trans rfl
                      have ro := HC6.out.out hltr
                      have rc := HC6.out.cell (k := q) hltr (by omega)
                      have fc := (cell_of_row _ _ r _ _ _ HF6.out).trans (bcellsT_at hltr)
                      rw [HOKM.out] at rc
                      obtain ⟨okr, hokr⟩ : ∃ b, okN r = b := ⟨_, rfl⟩
                      rw [hokr] at rc
                      have HFE : Hid ((bcellsT fs.length fun k => if k = r then okr else decide (k < r) && okN k) = bcellsT fs.length fun j => decide (j < r + 1) && okN j) := bcellsT_congr fun k _ => by
                        by_cases e : k = r
                        · subst e
                          rw [if_pos rfl, hokr]
                          simp
                        · rw [if_neg e]
                          congr 1
                          apply decide_eq_decide.2
                          omega
                      have HOKR : Hid ((decide (r < r + 1) && okN r) = okr) := by
                        show _ = _
                        rw [hokr]
                        simp
                      have HAN : Hid (Hid ((if an = true then true else okr) = anyN okN (r + 1))) := by
                        show _ = _
                        rw [anyN, ← HA.out, hokr]
                        cases an <;> rfl
                      clear nW6 hokr HA
                      go_wp2_with fail
                      refine wp_region_last (by kernel_rfl) (by kernel_rfl) (by kernel_rfl) (by kernel_rfl) 13 (by kernel_rfl) (by kernel_rfl) [(102, .slice (some ⟨gF, 0, none⟩) fs.length fs.length), (103, .int .i64 (r : Int)), (104, .slice (some ⟨w1.heap.size, 0, none⟩) fs.length fs.length), (105, .int .i64 (r : Int)), (106, .pointer (some ⟨w1.heap.size, r, none⟩)), (107, .slice (some ⟨rs r, 0, none⟩) 1441 1441), (108, .int .i64 (m : Int)), (109, .pointer (some ⟨w.heap.size, 1, none⟩)), (110, .int .i64 b), (111, .int .i64 (q : Int)), (112, .pointer (some ⟨rs r, q, none⟩)), (113, .bool okr), (114, .pointer (some ⟨gF, r, none⟩))] (by kernel_rfl) (by kernel_rfl) ?_ ?_
                      · intro i' s v o' L A W ho hv hdep hJ hkept hhas
                        match i', ho, hv with
                        | 0, ho, hv =>
                          cases Option.some.inj ho
                          cases Option.some.inj hv
                          have h17 : A.tmps[17]?.getD undef = .slice (some ⟨gF, 0, none⟩) fs.length fs.length := (gd A 17).trans (hkept 17 (by kernel_rfl))
                          refine wpOp_step rfl (fun K hK => ?_)
                          go_simp
                          exact hK _ _ ⟨rfl, Below.refl _ _⟩
                        | 1, ho, hv =>
                          cases Option.some.inj ho
                          cases Option.some.inj hv
                          have h19 : A.tmps[19]?.getD undef = .int .i64 (r : Int) := (gd A 19).trans (hkept 19 (by kernel_rfl))
                          refine wpOp_step rfl (fun K hK => ?_)
                          go_simp
                          exact hK _ _ ⟨rfl, Below.refl _ _⟩
                        | 2, ho, hv =>
                          cases Option.some.inj ho
                          cases Option.some.inj hv
                          have h11 : A.tmps[11]?.getD undef = .slice (some ⟨w1.heap.size, 0, none⟩) fs.length fs.length := (gd A 11).trans (hkept 11 (by kernel_rfl))
                          refine wpOp_step rfl (fun K hK => ?_)
                          go_simp
                          exact hK _ _ ⟨rfl, Below.refl _ _⟩
                        | 3, ho, hv =>
                          cases Option.some.inj ho
                          cases Option.some.inj hv
                          have h19 : A.tmps[19]?.getD undef = .int .i64 (r : Int) := (gd A 19).trans (hkept 19 (by kernel_rfl))
                          refine wpOp_step rfl (fun K hK => ?_)
                          go_simp
                          exact hK _ _ ⟨rfl, Below.refl _ _⟩
                        | 4, ho, hv =>
                          cases Option.some.inj ho
                          cases Option.some.inj hv
                          have h104 : A.tmps[104]?.getD undef = .slice (some ⟨w1.heap.size, 0, none⟩) fs.length fs.length := (gd A 104).trans (hhas 2 104 _ rfl (hdep ⟨2, .data⟩ (by simp) rfl))
                          have h105 : A.tmps[105]?.getD undef = .int .i64 (r : Int) := (gd A 105).trans (hhas 3 105 _ rfl (hdep ⟨3, .data⟩ (by simp) rfl))
                          refine wpOp_step rfl (fun K hK => ?_)
                          go_simp
                          exact hK _ _ ⟨rfl, Below.refl _ _⟩
                        | 5, ho, hv =>
                          cases Option.some.inj ho
                          cases Option.some.inj hv
                          have h106 : A.tmps[106]?.getD undef = .pointer (some ⟨w1.heap.size, r, none⟩) := (gd A 106).trans (hhas 4 106 _ rfl (hdep ⟨4, .data⟩ (by simp) rfl))
                          have oi := (hJ.cell (block_lt_of_cell ro)).trans ro
                          refine wpOp_step rfl (fun K hK => ?_)
                          go_simp
                          exact hK _ _ ⟨rfl, Below.refl _ _⟩
                        | 6, ho, hv =>
                          cases Option.some.inj ho
                          cases Option.some.inj hv
                          have h16 : A.tmps[16]?.getD undef = .int .i64 (m : Int) := (gd A 16).trans (hkept 16 (by kernel_rfl))
                          refine wpOp_step rfl (fun K hK => ?_)
                          go_simp
                          exact hK _ _ ⟨rfl, Below.refl _ _⟩
                        | 7, ho, hv =>
                          cases Option.some.inj ho
                          cases Option.some.inj hv
                          have h2 : A.tmps[2]?.getD undef = .pointer (some ⟨w.heap.size, 0, none⟩) := (gd A 2).trans (hkept 2 (by kernel_rfl))
                          refine wpOp_step rfl (fun K hK => ?_)
                          go_simp
                          exact hK _ _ ⟨rfl, Below.refl _ _⟩
                        | 8, ho, hv =>
                          cases Option.some.inj ho
                          cases Option.some.inj hv
                          have h109 : A.tmps[109]?.getD undef = .pointer (some ⟨w.heap.size, 1, none⟩) := (gd A 109).trans (hhas 7 109 _ rfl (hdep ⟨7, .data⟩ (by simp) rfl))
                          have oi := (hJ.cell (block_lt_of_cell y1)).trans y1
                          refine wpOp_step rfl (fun K hK => ?_)
                          go_simp
                          exact hK _ _ ⟨rfl, Below.refl _ _⟩
                        | 9, ho, hv =>
                          cases Option.some.inj ho
                          cases Option.some.inj hv
                          have h108 : A.tmps[108]?.getD undef = .int .i64 (m : Int) := (gd A 108).trans (hhas 6 108 _ rfl (hdep ⟨6, .data⟩ (by simp) rfl))
                          have h110 : A.tmps[110]?.getD undef = .int .i64 b := (gd A 110).trans (hhas 8 110 _ rfl (hdep ⟨8, .data⟩ (by simp) rfl))
                          refine wpOp_step rfl (fun K hK => ?_)
                          go_simp
                          exact hK _ _ ⟨rfl, Below.refl _ _⟩
                        | 10, ho, hv =>
                          cases Option.some.inj ho
                          cases Option.some.inj hv
                          have h107 : A.tmps[107]?.getD undef = .slice (some ⟨rs r, 0, none⟩) 1441 1441 := (gd A 107).trans (hhas 5 107 _ rfl (hdep ⟨5, .data⟩ (by simp) rfl))
                          have h111 : A.tmps[111]?.getD undef = .int .i64 (q : Int) := (gd A 111).trans (hhas 9 111 _ rfl (hdep ⟨9, .data⟩ (by simp) rfl))
                          refine wpOp_step rfl (fun K hK => ?_)
                          go_simp
                          exact hK _ _ ⟨rfl, Below.refl _ _⟩
                        | 11, ho, hv =>
                          cases Option.some.inj ho
                          cases Option.some.inj hv
                          have h112 : A.tmps[112]?.getD undef = .pointer (some ⟨rs r, q, none⟩) := (gd A 112).trans (hhas 10 112 _ rfl (hdep ⟨10, .data⟩ (by simp) rfl))
                          have oi := (hJ.cell (block_lt_of_cell rc)).trans rc
                          refine wpOp_step rfl (fun K hK => ?_)
                          go_simp
                          exact hK _ _ ⟨rfl, Below.refl _ _⟩
                        | 12, ho, hv =>
                          cases Option.some.inj ho
                          cases Option.some.inj hv
                          have h102 : A.tmps[102]?.getD undef = .slice (some ⟨gF, 0, none⟩) fs.length fs.length := (gd A 102).trans (hhas 0 102 _ rfl (hdep ⟨0, .data⟩ (by simp) rfl))
                          have h103 : A.tmps[103]?.getD undef = .int .i64 (r : Int) := (gd A 103).trans (hhas 1 103 _ rfl (hdep ⟨1, .data⟩ (by simp) rfl))
                          refine wpOp_step rfl (fun K hK => ?_)
                          go_simp
                          exact hK _ _ ⟨rfl, Below.refl _ _⟩
                        | kk + 13, ho, hv => simp at hv
                      · intro o' W ho hJ
                        cases Option.some.inj ho
                        simp only [putAll_cons, putAll_nil, Act.put, List.setIfInBounds_toArray, List.set_cons_succ, List.set_cons_zero]
                        refine wpOp_step rfl (fun K hK => ?_)
                        have hW := (HC6.out.below hJ).other (k := r) (v := .bool okr) hgF HGF.out
                        have ck := (hJ.cell (block_lt_of_cell fc)).trans fc
                        have yk : W.frozen? ⟨gF, r, none⟩ = false := frozen_of_row _ _ r _ _ ((hJ.block _ (lt_of_block HF6.out)).trans HF6.out)
                        have nF := heap_setCell_same W gF r _ _ (.bool okr) ((hJ.block _ (lt_of_block HF6.out)).trans HF6.out)
                        rw [bcellsT_setb, HFE.out] at nF
                        have HN := hidr hW
                        have HNF := hidr nF
                        have ck2 : (W.setCell ⟨gF, r, none⟩ (.bool okr)).cell? ⟨gF, r, none⟩ = some (.bool okr) := (cell_of_row _ _ r _ _ _ nF).trans ((bcellsT_at hltr).trans (congrArg (fun b => some (Value.bool b)) HOKR.out))
                        generalize hW9 : W.setCell ⟨gF, r, none⟩ (.bool okr) = w9 at *
                        clear hW nF
                        go_simp
                        refine hK _ _ ⟨⟨undef, rfl⟩, ?_⟩
                        clear hK hJ ck yk hW9
                        cases an with
                        | true =>
                          go_wp2_with fail
                          go_roundw
                          case rel => exact ⟨r + 1, true, rfl, by go_num, by omega, HAN.out, HNF, HN⟩
                          case measure => simp [intOf]; omega
                        | false =>
                          go_wp2_with fail
                          go_roundw
                          case rel => exact ⟨r + 1, okr, rfl, by go_num, by omega, HAN.out, HNF, HN⟩
                          case measure => simp [intOf]; omega
                    · have hltr' : ¬ (r : Int) < (fs.length : Int) := by omega
                      have hre : r = fs.length := by omega
                      subst hre
                      clear hr hltr hr0
                      have HOKP : Hid (∀ p ∈ roles, ∀ x ∈ p, okP fs (q : Int) ((q : Int) + whole ⟨l, b, a, roles⟩) x = okN x.toNat ∧ x.toNat < fs.length) := fun p hp x hx => by
                        obtain ⟨h1, h2⟩ := (HSV.out.pool p hp).bd x hx
                        obtain ⟨xn, rfl⟩ : ∃ n : Nat, x = (n : Int) := ⟨x.toNat, by omega⟩
                        rw [Int.toNat_natCast]
                        exact ⟨(HOKN.out xn).symm, by omega⟩
                      cases an with
                      | false =>
                        have HDn : Hid (dayG ⟨l, b, a, roles⟩ fs (1440 - b).toNat b = dayG ⟨l, b, a, roles⟩ fs (1440 - (m + 1)) ((m + 1 : Nat) : Int)) := by
                          show _ = _
                          rw [HST.out, tup_none HSV.out.r1 fun p hp x hx => by
                            rw [(HOKP.out p hp x hx).1]
                            exact anyN_false HA.out.symm _ (HOKP.out p hp x hx).2]
                          rfl
                        have HCn := HC6
                        clear HC6 HF6 HA HOKP HST
                        go_wp2_with fail
                        go_roundw
                        case rel => exact ⟨m + 1, by go_num, by omega, by omega, HDn, HCn⟩
                        case measure => simp [intOf]; omega
                      | true =>
                        have HTE : Hid (tupP (okB ((List.range fs.length).map fun j => decide (j < fs.length) && okN j)) roles = tupP (okP fs (q : Int) ((q : Int) + whole ⟨l, b, a, roles⟩)) roles) := tupP_congr fun p hp x hx => by
                          rw [(HOKP.out p hp x hx).1]
                          have hxl := (HOKP.out p hp x hx).2
                          unfold okB
                          rw [List.getD_eq_getElem?_getD, List.getElem?_map, List.getElem?_range hxl]
                          simp [hxl]
                        have b16 := HC6.out.bel
                        have c7 := tuples_any roles _ ((List.range fs.length).map fun j => decide (j < fs.length) && okN j) _ wr (HR.out.below (HBk.out.trans (b16.mono HBk.out.size))) (rowBo_of HF6.out hlf) (fun p hp => ⟨(HSV.out.pool p hp).len8, fun x hx => by
                          have := (HSV.out.pool p hp).bd x hx
                          rw [List.length_map, List.length_range]
                          exact this⟩) HSV.out.r4
                        rw [HTE.out] at c7
                        have nW6 := (b16.block _ (lt_of_block nW)).trans nW
                        have nS6 := (b16.block _ (lt_of_block nS0)).trans nS0
                        have y3 := (cell_of_row _ _ 3 _ _ _ nW6).trans rfl
                        have hT4 := tupP_each (okP fs (q : Int) ((q : Int) + whole ⟨l, b, a, roles⟩)) roles roles.length (Nat.le_refl _)
                        rw [List.take_of_length_le (Nat.le_refl _)] at hT4
                        obtain ⟨T, hTe⟩ : ∃ q1, tupP (okP fs (q : Int) ((q : Int) + whole ⟨l, b, a, roles⟩)) roles = q1 := ⟨_, rfl⟩
                        rw [hTe] at c7 HST hT4
                        have HT4 := hidr hT4
                        clear nW6 HOKP HTE HA b16 hTe hT4
                        go_wp2_with fail
                        refine c7.mono ?_
                        rintro e w7 ⟨v7, vs7, rfl, hown7, b7⟩
                        have HCn := hidr (HC6.out.below b7)
                        have nS7 := (b7.block _ (lt_of_block nS6)).trans nS6
                        cases T with
                        | nil =>
                          have HDn : Hid (dayG ⟨l, b, a, roles⟩ fs (1440 - b).toNat b = dayG ⟨l, b, a, roles⟩ fs (1440 - (m + 1)) ((m + 1 : Nat) : Int)) := HST.out
                          obtain ⟨q7, k7, e7⟩ := owns_shape hown7.out
                          rw [hown7.len] at e7
                          subst e7
                          clear HC6 HF6 HST hown7 c7 b7 y3 nS6 nS7
                          go_wp2_with fail
                          go_roundw
                          case rel => exact ⟨m + 1, by go_num, by omega, by omega, HDn, HCn⟩
                          case measure => simp [intOf]; omega
                        | cons who ts =>
                          obtain ⟨g7, k7, sv7, e7, cw7, hrw7⟩ := hown7.first
                          subst e7
                          obtain ⟨pw, cw, ew7⟩ := owns_shape hrw7
                          subst ew7
                          have hgl : w.heap.size + 1 < wA.heap.size := lt_of_block nS
                          have hlw : who.length < 9223372036854775808 := by
                            rw [HT4.out who List.mem_cons_self]
                            have := HSV.out.r4
                            dsimp only at this
                            omega
                          have hro7 := rowI_of_owns (owns_set hrw7 (Nat.lt_of_lt_of_le hgl (Nat.le_trans HBk.out.size HC6.out.bel.size)) #[.int .i64 (k : Int), .int .i64 (m : Int), .slice pw who.length cw]) hlw
                          have HXX : Hid (findP ⟨l, b, a, roles⟩ ds = ⟨0, (k : Int), (m : Int), who⟩) := by
                            show _ = _
                            rw [HE2.out, HX.out, HST.out]
                            rfl
                          have HQ : Hid ((w7.setRow (w.heap.size + 1) #[.int .i64 (k : Int), .int .i64 (m : Int), .slice pw who.length cw]).heap[w.heap.size + 1]? = some (.cells #[.int .i64 (k : Int), .int .i64 (m : Int), .slice pw who.length cw] 28 (0, 0)) ∧ OutT (findP ⟨l, b, a, roles⟩ ds) w (.returned (.tuple #[.agg #[.int .i64 (k : Int), .int .i64 (m : Int), .slice pw who.length cw], .int .i64 0])) (w7.setRow (w.heap.size + 1) #[.int .i64 (k : Int), .int .i64 (m : Int), .slice pw who.length cw])) := by
                            rw [HXX.out]
                            refine ⟨setRow_heap _ _ _ _ _ _ nS7, _, rfl, hro7, below_setRow (HB.out.trans ((HBk.out.trans (HCn.out.bel.mono HBk.out.size)).mono HB.out.size)) (by omega) _⟩
                          obtain ⟨n7, hn7⟩ : ∃ q : Nat, ts.length + 1 = q := ⟨_, rfl⟩
                          have hn7' : 0 < (n7 : Int) := by omega
                          rw [hn7]
                          clear HC6 HF6 HST hown7 c7 b7 y3 nS6 hro7 HXX hn7
                          go_wp2_with (first
                            | (refine wpList_store_row rfl 28 _ _ rfl _ _ rfl rfl _ _ nS7 (by kernel_rfl) (by simp) (by simp [Value.oneCell']) ?_))
                          exact rfind_post (w.heap.size + 1) (k : Int) (m : Int) _ 0 rfl rfl rfl HQ.out.1 HQ.out.2
                · have hltm' : ¬ (m : Int) < 1440 := by omega
                  have hme : m = 1440 := by omega
                  subst hme
                  have HX2 : Hid (daysF ⟨l, b, a, roles⟩ ds 0 = daysF ⟨l, b, a, roles⟩ (ds.drop (k + 1)) (k + 1)) := by
                    show _ = _
                    rw [HX.out, HDy.out]
                    rfl
                  have HB2 := hidr (HBk.out.trans (HC.out.bel.mono HBk.out.size))
                  clear HX HDy HC
                  go_wp2_with fail
                  go_roundw
                  case rel => exact ⟨k + 1, by go_num, by omega, HX2, HB2⟩
                  case measure => simp [intOf]; omega
        · have hltk' : ¬ (k : Int) < (ds.length : Int) := by omega
          have HXX : Hid (findP ⟨l, b, a, roles⟩ ds = ⟨11, 0, 0, []⟩) := by
            show _ = _
            rw [HE2.out, hX.out, List.drop_of_length_le (by omega)]
            rfl
          have nS0 := (HBk.out.block _ (lt_of_block nS)).trans nS
          have HQ := hidr (HRet.out wr 11 HBk.out nS0 HXX.out)
          clear hX
          go_wp2_with (first
            | (refine wpList_store_row rfl 28 _ _ rfl _ _ rfl rfl _ _ nS0 (by kernel_rfl) (by simp) (by simp [Value.oneCell']) ?_))
          exact rfind_post (w.heap.size + 1) 0 0 (.slice none 0 0) 11 rfl rfl rfl HQ.out.1 HQ.out.2
end Go.Proofs.YtlhjgajhcabhoaaDoor
