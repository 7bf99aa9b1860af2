/- What slotlaw6.of comes to. Written by genof.py. -/
import Derived.Test.YtgfjbcdjpkcbkaaGreatDoorDh19
import Derived.Test.YtgfjbcdjpkcbkaaGreatDoorDh13
import Derived.Lib.SmallJoins
import Derived.OpenShut
namespace Go.Proofs.YtgfjbcdjpkcbkaaGreatDoor
open Go.RowKit Lx Msk
def zzn : List UInt8 := [122, 122, 95, 110, 101, 119]
def OutOf (l : List Ru) (e : Ex) (n : Nat) (day : Int) (w : World) (r : Ending) (w' : World) : Prop :=
  ((mflt (l ++ [(zzn, e)]) day).1 = 0 ∧ r = .returned (.tuple #[.agg (mv (meanP (l ++ [(zzn, e)]) (wkB day) day n)), .bool true]) ∧ Below w.heap.size w w') ∨ ((mflt (l ++ [(zzn, e)]) day).1 ≠ 0 ∧ r = .returned (.tuple #[.agg (mv fun _ => false), .bool false]) ∧ Below w.heap.size w w')
theorem of_post {R : Ending → World → Prop} {a : Act} {w : World} (g : Nat) (f : Nat → Bool) (b : Bool) (hd : a.defers = []) (h2 : a.tmps.getD 7 undef = .bool b) (h3 : a.tmps.getD 6 undef = .pointer (some ⟨g, 0, none⟩))
    (hg : w.heap[g]? = some (.cells (mv f) 43 (0, 0))) (hR : R (.returned (.tuple #[.agg (mv f), .bool b])) w) : bodyPost Tryz.prog Tryz.f11 R .ret a w := by
  refine bodyPost_ret (v := .tuple #[.agg (mv f), .bool b]) ?_ hd hR
  have h2' : a.tmps[7]?.getD undef = .bool b := by simpa using h2
  have h3' : a.tmps[6]?.getD undef = .pointer (some ⟨g, 0, none⟩) := by simpa using h3
  have hv := run_loadVar_row (P := Tryz.prog) w g 43 43 _ _ _ hg maskType rfl (maskSize _)
  simp [results, Tryz.results11, h2', h3', asAddr, hv]
set_option maxRecDepth 100000 in
set_option maxHeartbeats 4000000 in
theorem of6_any (us : List (Ru × Value)) (pv : Option Addr) (cv : Nat) (e : Ex) (pe : Option Addr) (ce : Nat) (day : Int) (l : List Ru) (w : World) (h : InR w (.slice pv us.length cv) us) (hE : RuleIn w ((zzn, e), .slice pe e.kids.length ce)) (h80 : us.length * 80 ≤ 140737488351232) (hp0 : pv = none → cv = 0) (hl : us.map (fun p => p.1) = l) :
    Calls Tryz.prog 11 #[.slice pv us.length cv, .agg #[.int .i64 e.kind, .int .i64 e.a, .int .i64 e.b, .string ⟨e.name.toArray⟩, .slice pe e.kids.length ce], .int .i64 day] w (OutOf l e us.length day w) := by
  have hll : l.length = us.length := by rw [← hl, List.length_map]
  have hlen := h.len
  have hz := mv_lit
  obtain ⟨i0, hi, hz0, hz1, hz2⟩ := info_parts ruleInfo
  have bA : Below w.heap.size w ((w.alloc (.cells #[.int .i64 e.kind, .int .i64 e.a, .int .i64 e.b, .string ⟨e.name.toArray⟩, .slice pe e.kids.length ce] 31)).alloc (.cells (mv fun _ => false) 43)) := ((Below.refl _ _).alloc (Nat.le_refl _) _).alloc (by simp) _
  have nE : ((w.alloc (.cells #[.int .i64 e.kind, .int .i64 e.a, .int .i64 e.b, .string ⟨e.name.toArray⟩, .slice pe e.kids.length ce] 31)).alloc (.cells (mv fun _ => false) 43)).heap[w.heap.size]? = some (.cells #[.int .i64 e.kind, .int .i64 e.a, .int .i64 e.b, .string ⟨e.name.toArray⟩, .slice pe e.kids.length ce] 31 (0, 0)) := by (repeat (first | refine blk_old _ _ _ (by simp only [size_alloc]; omega) ?_ | exact blk_new _ _ _ (by first | rfl | simp only [size_alloc])))
  have n6 : ((w.alloc (.cells #[.int .i64 e.kind, .int .i64 e.a, .int .i64 e.b, .string ⟨e.name.toArray⟩, .slice pe e.kids.length ce] 31)).alloc (.cells (mv fun _ => false) 43)).heap[w.heap.size + 1]? = some (.cells (mv fun _ => false) 43 (0, 0)) := by (repeat (first | refine blk_old _ _ _ (by simp only [size_alloc]; omega) ?_ | exact blk_new _ _ _ (by first | rfl | simp only [size_alloc])))
  generalize hwB : (w.alloc (.cells #[.int .i64 e.kind, .int .i64 e.a, .int .i64 e.b, .string ⟨e.name.toArray⟩, .slice pe e.kids.length ce] 31)).alloc (.cells (mv fun _ => false) 43) = wB at *
  have HIN := hid5 (h.below bA)
  obtain ⟨us2, hus2⟩ : ∃ us2, us ++ [(((zzn, e) : Ru), Value.slice pe e.kids.length ce)] = us2 := ⟨_, rfl⟩
  have hl2 : us2.length = us.length + 1 := by rw [← hus2]; simp
  have hm2 : us2.map (fun p => p.1) = l ++ [(zzn, e)] := by
    rw [← hus2, List.map_append, hl]
    rfl
  obtain ⟨er2, her2⟩ : ∃ x, (mflt (l ++ [(zzn, e)]) day).1 = x := ⟨_, rfl⟩
  obtain ⟨at2, hat2⟩ : ∃ x : Int, ((mflt (l ++ [(zzn, e)]) day).2 : Int) = x := ⟨_, rfl⟩
  obtain ⟨fb, hfb⟩ : ∃ x, meanL (l ++ [(zzn, e)]) day = x := ⟨_, rfl⟩
  have HCM : Hid (∀ (W : World) (v7 : Value), Below wB.heap.size wB W → W.ownsRow wB.heap.size 33 6 v7 us2.length (flatR us2) → Calls Tryz.prog 8 #[v7, .int .i64 day] W fun r W' => ∃ vm, r = .returned (.tuple #[vm, .agg #[.int .i64 er2, .int .i64 at2]]) ∧ RowM W' vm fb ∧ Below W.heap.size W W') := fun W v7 hW ho => by
    have := mall_any us2 v7 day W (inR_more hus2 HIN.out (hE.below bA) hW ho (by omega))
    rw [hm2] at this
    unfold OutMe at this
    rw [her2, hat2, hfb] at this
    exact this
  have HLL := hid5 hll
  have HP := hid5 hp0
  have HZ := hid5 hz0
  have HL2 := hid5 hl2
  have HUS := hid5 hus2
  have Her2 := hid5 her2
  have Hfb := hid5 hfb
  clear h hE hl hll hp0 hz0 hl2 hus2 hm2 her2 hat2 hfb
  go_enter Tryz.func11, Tryz.ntmps11
  go_wp2_with fail
  clear hwB
  refine wp_region_lastQ (Below wB.heap.size wB) (osq wB.heap.size us us2 (.slice pv us.length cv) day #[.int .i64 e.kind, .int .i64 e.a, .int .i64 e.b, .string ⟨e.name.toArray⟩, .slice pe e.kids.length ce] #[.string ⟨zzn.toArray⟩, .int .i64 e.kind, .int .i64 e.a, .int .i64 e.b, .string ⟨e.name.toArray⟩, .slice pe e.kids.length ce] er2 at2 fb) ((Below.refl _ _).drew) (by kernel_rfl) (by kernel_rfl) (by kernel_rfl) (by kernel_rfl) 14 (by kernel_rfl) (by kernel_rfl) [11, 12, 13, 14, 15, 16, 17, 18, 19, 10, 20, 21, 9, 8] (by kernel_rfl) (by kernel_rfl) ?_ ?_
  · intro i' s o' L A W2 ho hs hLi hdep hc hJ hkept hhas
    match i', ho, hs, hLi with
    | 0, ho, hs, hLi =>
      cases Option.some.inj ho
      cases Option.some.inj hs
      have hsz := hJ.size
      have hb := (Below.refl W2.heap.size W2).alloc (Nat.le_refl _) (.cells #[] 33)
      have hnew := heap_alloc_new W2 (.cells #[] 33)
      refine wpOp_step rfl (fun K hK => ?_)
      go_simp
      exact hK _ _ ⟨_, rfl, fun _ => ⟨_, rfl, hnew, hsz⟩, hJ.trans (hb.mono hJ.size), fun j u _ _ _ h => osq_below (fun k hk => (Bool.or_eq_false_iff.1 hk).2) hb j u h⟩
    | 1, ho, hs, hLi =>
      cases Option.some.inj ho
      cases Option.some.inj hs
      have h0 : A.tmps[0]?.getD undef = .slice pv us.length cv := (gd A 0).trans (hkept 0 (by kernel_rfl))
      refine wpOp_step rfl (fun K hK => ?_)
      go_simp
      exact hK _ _ ⟨_, rfl, rfl, hJ, fun j u _ _ _ h => osq_below (fun k hk => (Bool.or_eq_false_iff.1 hk).2) (Below.refl _ _) j u h⟩
    | 2, ho, hs, hLi =>
      cases Option.some.inj ho
      cases Option.some.inj hs
      have no6 : L 6 = true → False := fun h => by
        have := hc 6 _ rfl h ⟨2, .data⟩ (by simp) rfl
        rw [hLi] at this; cases this
      have no8 : L 8 = true → False := fun h => no6 (hc 8 _ rfl h ⟨6, .data⟩ (by simp) rfl)
      have no9 : L 9 = true → False := fun h => no8 (hc 9 _ rfl h ⟨8, .data⟩ (by simp) rfl)
      have no10 : L 10 = true → False := fun h => no9 (hc 10 _ rfl h ⟨9, .data⟩ (by simp) rfl)
      have no13 : L 13 = true → False := fun h => no10 (hc 13 _ rfl h ⟨10, .data⟩ (by simp) rfl)
      have hjs : ∀ j, j < 14 → L j = true → j ≠ 6 ∧ j ≠ 8 ∧ j ≠ 9 ∧ j ≠ 10 ∧ j < 13 := fun j hj hL => ⟨fun e => no6 (e ▸ hL), fun e => no8 (e ▸ hL), fun e => no9 (e ▸ hL), fun e => no10 (e ▸ hL), by
        have : j ≠ 13 := fun e => no13 (e ▸ hL)
        omega⟩
      obtain ⟨g, e22, hh, hB⟩ := hhas 0 11 rfl (hdep ⟨0, .data⟩ (by simp) rfl) hLi
      have x22 : A.eval (.tmp 11) = .slice (some ⟨g, 0, none⟩) 0 0 := e22
      have e23 : A.eval (.tmp 12) = .slice pv us.length cv := hhas 1 12 rfl (hdep ⟨1, .data⟩ (by simp) rfl)
      have own0 : W2.ownsRow wB.heap.size 33 6 (.slice (some ⟨g, 0, none⟩) 0 0) 0 [] := ⟨by simp, .inr ⟨g, 0, #[], rfl, hB, hh, Nat.le_refl _, by unfold maxLen; omega, by simp, by simp⟩⟩
      refine wpOp_step rfl (fun K hK => ?_)
      show Oper.wp _ _ _ _ _ _
      refine wp_append_in _ _ rfl wB.heap.size i0 hi HZ.out hz1 hz2 (.slice (some ⟨g, 0, none⟩) 0 0) 0 [] x22 own0 us pv cv e23 (HIN.out.below hJ) HP.out (by unfold maxLen; omega) (by omega) hJ.size ?_
      intro v' W' hown hgrow
      have hn : W'.ownsRow wB.heap.size 33 6 v' us.length (flatR us) := by simpa using hown
      refine hK _ _ ⟨v', rfl, fun _ => hn, hJ.grown hgrow hJ.size (fun q hq => ?_), fun j u hj hjl hLj hs => osq_grown hgrow (fun q hq => ?_) (fun _ => by simp) (fun e => absurd e hj) (fun _ => .inr ⟨fun h => (Bool.or_eq_false_iff.1 h).2, fun q hq hh' => ?_⟩) (hjs j hjl hLj) u hs⟩
      · have : g = q := Option.some.inj hq
        omega
      · have : g = q := Option.some.inj hq
        subst this
        exact ⟨_, hh⟩
      · have : g = q := Option.some.inj hq
        subst this
        rw [hh] at hh'
        injection hh' with hh'
        injection hh' with e1
        have := congrArg Array.size e1
        simp at this
    | 3, ho, hs, hLi =>
      cases Option.some.inj ho
      cases Option.some.inj hs
      have x6 : A.eval (.tmp 4) = .pointer (some ⟨w.heap.size, 0, none⟩) := hkept 4 (by kernel_rfl)
      have nW := (hJ.block _ (lt_of_block nE)).trans nE
      refine wpOp_step rfl (fun K hK => ?_)
      show Oper.wp _ _ _ _ _ _
      refine wp_load_row 31 _ rfl _ x6 _ _ _ _ nW exprType5 rfl (by kernel_rfl) ?_
      exact hK _ _ ⟨_, rfl, rfl, hJ, fun j u _ _ _ h => osq_below (fun k hk => (Bool.or_eq_false_iff.1 hk).2) (Below.refl _ _) j u h⟩
    | 4, ho, hs, hLi =>
      cases Option.some.inj ho
      cases Option.some.inj hs
      have h14 : A.tmps[14]?.getD undef = .agg #[.int .i64 e.kind, .int .i64 e.a, .int .i64 e.b, .string ⟨e.name.toArray⟩, .slice pe e.kids.length ce] := (gd A 14).trans (hhas 3 14 rfl (hdep ⟨3, .data⟩ (by simp) rfl))
      refine wpOp_step rfl (fun K hK => ?_)
      go_simp
      exact hK _ _ ⟨_, rfl, rfl, hJ, fun j u _ _ _ h => osq_below (fun k hk => (Bool.or_eq_false_iff.1 hk).2) (Below.refl _ _) j u h⟩
    | 5, ho, hs, hLi =>
      cases Option.some.inj ho
      cases Option.some.inj hs
      have h15 : A.tmps[15]?.getD undef = .agg #[.string ⟨zzn.toArray⟩, .int .i64 e.kind, .int .i64 e.a, .int .i64 e.b, .string ⟨e.name.toArray⟩, .slice pe e.kids.length ce] := (gd A 15).trans (hhas 4 15 rfl (hdep ⟨4, .data⟩ (by simp) rfl))
      have hsz := hJ.size
      have hb := (Below.refl W2.heap.size W2).alloc (Nat.le_refl _) (.cells #[.string ⟨zzn.toArray⟩, .int .i64 e.kind, .int .i64 e.a, .int .i64 e.b, .string ⟨e.name.toArray⟩, .slice pe e.kids.length ce] 33)
      have hnew := heap_alloc_new W2 (.cells #[.string ⟨zzn.toArray⟩, .int .i64 e.kind, .int .i64 e.a, .int .i64 e.b, .string ⟨e.name.toArray⟩, .slice pe e.kids.length ce] 33)
      refine wpOp_step rfl (fun K hK => ?_)
      go_simp
      exact hK _ _ ⟨_, rfl, fun _ => ⟨_, rfl, hnew⟩, hJ.trans (hb.mono hJ.size), fun j u _ _ _ h => osq_below (fun k hk => (Bool.or_eq_false_iff.1 hk).2) hb j u h⟩
    | 6, ho, hs, hLi =>
      cases Option.some.inj ho
      cases Option.some.inj hs
      have no8 : L 8 = true → False := fun h => by
        have := hc 8 _ rfl h ⟨6, .data⟩ (by simp) rfl
        rw [hLi] at this; cases this
      have no9 : L 9 = true → False := fun h => no8 (hc 9 _ rfl h ⟨8, .data⟩ (by simp) rfl)
      have no10 : L 10 = true → False := fun h => no9 (hc 10 _ rfl h ⟨9, .data⟩ (by simp) rfl)
      have no13 : L 13 = true → False := fun h => no10 (hc 13 _ rfl h ⟨10, .data⟩ (by simp) rfl)
      have hjs : ∀ j, j < 14 → j ≠ 6 → L j = true → j ≠ 6 ∧ j ≠ 8 ∧ j ≠ 9 ∧ j ≠ 10 ∧ j < 13 := fun j hj h7 hL => ⟨h7, fun e => no8 (e ▸ hL), fun e => no9 (e ▸ hL), fun e => no10 (e ▸ hL), by
        have : j ≠ 13 := fun e => no13 (e ▸ hL)
        omega⟩
      have hL2 := (hdep ⟨2, .data⟩ (by simp) rfl)
      have own2 := hhas 2 13 rfl hL2 hLi
      obtain ⟨g, e28, hh⟩ := hhas 5 16 rfl (hdep ⟨5, .data⟩ (by simp) rfl) hLi
      have x28 : A.eval (.tmp 16) = .slice (some ⟨g, 0, none⟩) 1 1 := e28
      have hlo := own2.lt
      have hty : ∀ q, (A.tmps.getD 13 undef).ownBlock = some q → ∃ cur, W2.heap[q]? = some (.cells cur 33 (0, 0)) := fun q hq => by
        obtain ⟨_, ho2⟩ := own2
        rcases ho2 with ⟨e2, _⟩ | ⟨gb, cap, cur, e2, _, hhb, _⟩
        · rw [e2] at hq; cases hq
        · rw [e2] at hq
          have e3 : gb = q := Option.some.inj hq
          subst e3
          exact ⟨cur, hhb⟩
      refine wpOp_step rfl (fun K hK => ?_)
      show Oper.wp _ _ _ _ _ _
      refine wp_append_own W2 _ _ 22 rfl wB.heap.size 33 i0 _ 6 80 rulesType hi HZ.out hz1 hz2 rfl (by decide) (A.tmps.getD 13 undef) us.length (flatR us) rfl own2 ⟨g, 0, none⟩ 1 1 #[.string ⟨zzn.toArray⟩, .int .i64 e.kind, .int .i64 e.a, .int .i64 e.b, .string ⟨e.name.toArray⟩, .slice pe e.kids.length ce].toList x28 rfl ?c1 ?c2 ?c3 ?c4 ?c5 ?_
      case c1 =>
        intro k u' hk'
        match k, hk' with
        | 0, hk' => cases hk'; exact (cell_of_row _ _ 0 _ _ _ hh).trans rfl
        | 1, hk' => cases hk'; exact (cell_of_row _ _ 1 _ _ _ hh).trans rfl
        | 2, hk' => cases hk'; exact (cell_of_row _ _ 2 _ _ _ hh).trans rfl
        | 3, hk' => cases hk'; exact (cell_of_row _ _ 3 _ _ _ hh).trans rfl
        | 4, hk' => cases hk'; exact (cell_of_row _ _ 4 _ _ _ hh).trans rfl
        | 5, hk' => cases hk'; exact (cell_of_row _ _ 5 _ _ _ hh).trans rfl
        | k + 6, hk' => simp at hk'
      case c2 =>
        intro u hu
        simp only [List.mem_cons, List.not_mem_nil, or_false] at hu
        rcases hu with rfl | rfl | rfl | rfl | rfl | rfl <;> rfl
      case c3 => unfold maxLen; omega
      case c4 => omega
      case c5 => exact hJ.size
      intro v' W' hown hgrow _
      have hn : W'.ownsRow wB.heap.size 33 6 v' us2.length (flatR us2) := by
        rw [HL2.out, ← HUS.out, flatR_snoc]
        exact hown
      exact hK _ _ ⟨v', rfl, hn, hJ.grown hgrow hJ.size (fun q hq => (hlo q hq).1), fun j u hj hjl hLj hs => osq_grown hgrow hty (fun _ => by simp [hL2]) (fun _ => by simp) (fun _ => .inl (by simp)) (hjs j hjl hj hLj) u hs⟩
    | 7, ho, hs, hLi =>
      cases Option.some.inj ho
      cases Option.some.inj hs
      have h2 : A.tmps[2]?.getD undef = .int .i64 day := (gd A 2).trans (hkept 2 (by kernel_rfl))
      refine wpOp_step rfl (fun K hK => ?_)
      go_simp
      exact hK _ _ ⟨_, rfl, rfl, hJ, fun j u _ _ _ h => osq_below (fun k hk => (Bool.or_eq_false_iff.1 hk).2) (Below.refl _ _) j u h⟩
    | 8, ho, hs, hLi =>
      cases Option.some.inj ho
      cases Option.some.inj hs
      have own7 := hhas 6 17 rfl (hdep ⟨6, .data⟩ (by simp) rfl)
      obtain ⟨v7, e29⟩ : ∃ v, A.tmps.getD 17 undef = v := ⟨_, rfl⟩
      rw [e29] at own7
      have h17 : A.tmps[17]?.getD undef = v7 := (gd A 17).trans e29
      have h18 : A.tmps[18]?.getD undef = .int .i64 day := (gd A 18).trans (hhas 7 18 rfl (hdep ⟨7, .data⟩ (by simp) rfl))
      have cM := HCM.out W2 v7 hJ own7
      refine wpOp_step rfl (fun K hK => ?_)
      go_simp
      refine cM.mono ?_
      rintro e' W' ⟨vm, rfl, hrow, hb'⟩
      exact hK _ _ ⟨_, rfl, ⟨vm, rfl, hrow⟩, hJ.trans (hb'.mono hJ.size), fun j u _ _ _ h => osq_below (fun k hk => (Bool.or_eq_false_iff.1 hk).2) hb' j u h⟩
    | 9, ho, hs, hLi =>
      cases Option.some.inj ho
      cases Option.some.inj hs
      obtain ⟨vm, e31, hrow⟩ := hhas 8 19 rfl (hdep ⟨8, .data⟩ (by simp) rfl)
      have h19 : A.tmps[19]?.getD undef = .tuple #[vm, .agg #[.int .i64 er2, .int .i64 at2]] := (gd A 19).trans e31
      refine wpOp_step rfl (fun K hK => ?_)
      go_simp
      exact hK _ _ ⟨_, rfl, ⟨vm, rfl, hrow⟩, hJ, fun j u _ _ _ h => osq_below (fun k hk => (Bool.or_eq_false_iff.1 hk).2) (Below.refl _ _) j u h⟩
    | 10, ho, hs, hLi =>
      cases Option.some.inj ho
      cases Option.some.inj hs
      obtain ⟨vm, e21, hrow⟩ := hhas 9 10 rfl (hdep ⟨9, .data⟩ (by simp) rfl)
      have h10 : A.tmps[10]?.getD undef = .tuple #[vm, .agg #[.int .i64 er2, .int .i64 at2]] := (gd A 10).trans e21
      refine wpOp_step rfl (fun K hK => ?_)
      go_simp
      exact hK _ _ ⟨_, rfl, hrow, hJ, fun j u _ _ _ h => osq_below (fun k hk => (Bool.or_eq_false_iff.1 hk).2) (Below.refl _ _) j u h⟩
    | 11, ho, hs, hLi =>
      cases Option.some.inj ho
      cases Option.some.inj hs
      obtain ⟨vm, e21, _⟩ := hhas 9 10 rfl (hdep ⟨9, .data⟩ (by simp) rfl)
      have h10 : A.tmps[10]?.getD undef = .tuple #[vm, .agg #[.int .i64 er2, .int .i64 at2]] := (gd A 10).trans e21
      refine wpOp_step rfl (fun K hK => ?_)
      go_simp
      exact hK _ _ ⟨_, rfl, rfl, hJ, fun j u _ _ _ h => osq_below (fun k hk => (Bool.or_eq_false_iff.1 hk).2) (Below.refl _ _) j u h⟩
    | 12, ho, hs, hLi =>
      cases Option.some.inj ho
      cases Option.some.inj hs
      have hsz := hJ.size
      have hb := (Below.refl W2.heap.size W2).alloc (Nat.le_refl _) (.cells #[.int .i64 0, .int .i64 0] 26)
      have hnew := heap_alloc_new W2 (.cells #[.int .i64 0, .int .i64 0] 26)
      refine wpOp_step rfl (fun K hK => ?_)
      go_simp
      exact hK _ _ ⟨_, rfl, ⟨_, rfl, hsz, hnew⟩, hJ.trans (hb.mono hJ.size), fun j u _ _ _ h => osq_below (fun k hk => (Bool.or_eq_false_iff.1 hk).2) hb j u h⟩
    | 13, ho, hs, hLi =>
      cases Option.some.inj ho
      cases Option.some.inj hs
      have hrow := hhas 10 20 rfl (hdep ⟨10, .data⟩ (by simp) rfl)
      obtain ⟨vm, e32⟩ : ∃ v, A.tmps.getD 20 undef = v := ⟨_, rfl⟩
      rw [e32] at hrow
      have h20 : A.tmps[20]?.getD undef = vm := (gd A 20).trans e32
      refine wpOp_step rfl (fun K hK => ?_)
      go_simp
      exact hK _ _ ⟨_, rfl, hrow, hJ, fun j u _ _ _ h => osq_below (fun k hk => (Bool.or_eq_false_iff.1 hk).2) (Below.refl _ _) j u h⟩
    | kk + 14, ho, hs, hLi => simp at hs
  · intro o' L W2 A ho hL hJ hhas hkept hput
    obtain ⟨g12, e9, b12, k12⟩ := hhas 12 9 rfl
    have e21 := hhas 11 21 rfl
    have hrb := hhas 13 8 rfl
    obtain ⟨x11, e11⟩ : ∃ x, A.tmps.getD 11 undef = x := ⟨_, rfl⟩
    obtain ⟨x12, e12⟩ : ∃ x, A.tmps.getD 12 undef = x := ⟨_, rfl⟩
    obtain ⟨x13, e13⟩ : ∃ x, A.tmps.getD 13 undef = x := ⟨_, rfl⟩
    obtain ⟨x14, e14⟩ : ∃ x, A.tmps.getD 14 undef = x := ⟨_, rfl⟩
    obtain ⟨x15, e15⟩ : ∃ x, A.tmps.getD 15 undef = x := ⟨_, rfl⟩
    obtain ⟨x16, e16⟩ : ∃ x, A.tmps.getD 16 undef = x := ⟨_, rfl⟩
    obtain ⟨x17, e17⟩ : ∃ x, A.tmps.getD 17 undef = x := ⟨_, rfl⟩
    obtain ⟨x18, e18⟩ : ∃ x, A.tmps.getD 18 undef = x := ⟨_, rfl⟩
    obtain ⟨x19, e19⟩ : ∃ x, A.tmps.getD 19 undef = x := ⟨_, rfl⟩
    obtain ⟨x10, e10⟩ : ∃ x, A.tmps.getD 10 undef = x := ⟨_, rfl⟩
    obtain ⟨x20, e20⟩ : ∃ x, A.tmps.getD 20 undef = x := ⟨_, rfl⟩
    obtain ⟨vb, e8⟩ : ∃ x, A.tmps.getD 8 undef = x := ⟨_, rfl⟩
    rw [e8] at hrb
    have hA : A = putAll [(11, x11), (12, x12), (13, x13), (14, x14), (15, x15), (16, x16), (17, x17), (18, x18), (19, x19), (10, x10), (20, x20), (21, .agg #[.int .i64 er2, .int .i64 at2]), (9, .pointer (some ⟨g12, 0, none⟩)), (8, vb)] _ := hput _ (by kernel_rfl) (fun j s v hj => match j, hj with
      | 0, hj => by cases Option.some.inj hj; exact e11
      | 1, hj => by cases Option.some.inj hj; exact e12
      | 2, hj => by cases Option.some.inj hj; exact e13
      | 3, hj => by cases Option.some.inj hj; exact e14
      | 4, hj => by cases Option.some.inj hj; exact e15
      | 5, hj => by cases Option.some.inj hj; exact e16
      | 6, hj => by cases Option.some.inj hj; exact e17
      | 7, hj => by cases Option.some.inj hj; exact e18
      | 8, hj => by cases Option.some.inj hj; exact e19
      | 9, hj => by cases Option.some.inj hj; exact e10
      | 10, hj => by cases Option.some.inj hj; exact e20
      | 11, hj => by cases Option.some.inj hj; exact e21
      | 12, hj => by cases Option.some.inj hj; exact e9
      | 13, hj => by cases Option.some.inj hj; exact e8
      | kk + 14, hj => by simp at hj)
    cases Option.some.inj ho
    have hx : A.eval (.tmp 9) = .pointer (some ⟨g12, 0, none⟩) := e9
    have hy : A.eval (.tmp 21) = .agg #[.int .i64 er2, .int .i64 at2] := e21
    have n6' := (hJ.block _ (lt_of_block n6)).trans n6
    have ng : g12 ≠ w.heap.size + 1 := fun e => by have := lt_of_block n6; omega
    have b15 := below_setRow hJ b12 #[.int .i64 er2, .int .i64 at2]
    have k12' := setRow_heap _ _ _ #[.int .i64 er2, .int .i64 at2] _ _ k12
    have k6' := (setRow_other W2 g12 _ #[.int .i64 er2, .int .i64 at2] (fun e => ng e.symm)).trans n6'
    have hrb' : RowM (W2.setRow g12 #[.int .i64 er2, .int .i64 at2]) vb fb := hrb.apart k12
    refine wpOp_step rfl (fun K hK => ?_)
    show Oper.wp _ _ _ _ _ _
    refine wp_store_row 26 _ _ rfl _ _ hx hy _ _ k12 (by kernel_rfl) (by simp) (by simp [Value.oneCell']) ?_
    refine hK _ _ ⟨⟨undef, rfl⟩, ?_⟩
    change Exit.then _ _ Exit.normal A _
    subst hA
    simp only [putAll_cons, putAll_nil, Act.put, List.setIfInBounds_toArray, List.set_cons_succ, List.set_cons_zero]
    clear hK hx hy hput hhas hkept e9 e21 k12 n6' hrb
    generalize W2.setRow g12 #[.int .i64 er2, .int .i64 at2] = W5 at *
    have hbw5 := bA.trans (b15.mono bA.size)
    have z12 := (cell_of_row _ _ 0 _ _ _ k12').trans rfl
    have HBF := hid5 hbw5
    clear b15 hbw5 hJ b12 ng k12' HCM HIN HUS nE
    by_cases h2 : er2 = 0
    · subst h2
      have hlb := meanL_len Her2.out
      rw [Hfb.out, List.length_append, HLL.out] at hlb
      obtain ⟨pb, cb, rfl, hb40, hrowb⟩ := hrb'
      obtain ⟨gq, oq, hpq, hrq⟩ := hrowb us.length (meanP (l ++ [(zzn, e)]) (wkB day) day us.length) (by
        rw [← Hfb.out, ← HLL.out]
        exact meanL_at Her2.out (by simp))
      subst hpq
      have HRQ := hid5 hrq
      rw [show fb.length = us.length + 1 by simpa using hlb] at *
      have h40 : (us.length : Int) + 1 ≤ 40 := by have := hb40.1; omega
      have HO : Hid (∀ cs, OutOf l e us.length day w (.returned (.tuple #[.agg (mv (meanP (l ++ [(zzn, e)]) (wkB day) day us.length)), .bool true])) (W5.setRow (w.heap.size + 1) cs)) := fun cs => .inl ⟨Her2.out, rfl, below_setRow HBF.out (by omega) _⟩
      have hlI : (us.length : Int) < (us.length : Int) + 1 := by omega
      clear hrowb hb40 hlb hrq Her2 Hfb
      generalize meanP (l ++ [(zzn, e)]) (wkB day) day us.length = F at *
      go_wp2_with (first
        | (refine wpList_load_mask rfl _ rfl gq (oq + us.length * 23) rfl F ?r ?_; (case r => exact HRQ.out))
        | (refine wpList_store_row rfl 43 _ _ rfl _ _ rfl rfl _ _ k6' (maskSize _) (by simp [mv_size]) (mv_all _) ?_))
      exact of_post (w.heap.size + 1) F true rfl rfl rfl (setRow_heap _ _ _ _ _ _ k6') (HO.out _)
    · have h2' : (er2 != 0) = true := by simpa using h2
      have HO : Hid (∀ cs, OutOf l e us.length day w (.returned (.tuple #[.agg (mv fun _ => false), .bool false])) (W5.setRow (w.heap.size + 1) cs)) := fun cs => .inr ⟨by rw [Her2.out]; exact h2, rfl, below_setRow HBF.out (by omega) _⟩
      clear h2 hrb' Her2 Hfb
      go_wp2_with (refine wpList_store_row rfl 43 _ _ rfl _ _ rfl rfl _ _ k6' (maskSize _) (by simp [mv_size]) (mv_all _) ?_)
      exact of_post (w.heap.size + 1) (fun _ => false) false rfl rfl rfl (setRow_heap _ _ _ _ _ _ k6') (HO.out _)
end Go.Proofs.YtgfjbcdjpkcbkaaGreatDoor

/- What is weekly, and what has dates, beside rules: plain; and an expression put around another one. -/
namespace Go.Proofs.YtgfjbcdjpkcbkaaGreatDoor
open Go.RowKit Lx Msk
theorem last_at (l : List Ru) (u : Ru) : (l ++ [u])[l.length]? = some u := by simp
theorem of_eq {l : List Ru} {e : Ex} {day : Int} (h : (mflt (l ++ [(zzn, e)]) day).1 = 0) : meanP (l ++ [(zzn, e)]) (wkB day) day l.length = valE (wkB day) day (fun x => meanP (l ++ [(zzn, e)]) (wkB day) day (atP5 (l ++ [(zzn, e)]) x).toNat) e := meanP_eq (mflt_chk h) (last_at l _)
theorem ruleIn_wrap {W : World} {nm : List UInt8} {e : Ex} {pe : Option Addr} {ce g : Nat} (kd x y : Int) (h : RuleIn W ((nm, e), .slice pe e.kids.length ce)) (hg : W.heap[g]? = some (.cells #[.int .i64 e.kind, .int .i64 e.a, .int .i64 e.b, .string ⟨e.name.toArray⟩, .slice pe e.kids.length ce] 31 (0, 0))) :
    RuleIn W ((zzn, ⟨kd, x, y, [], [e]⟩), .slice (some ⟨g, 0, none⟩) 1 1) := by
  obtain ⟨_, h2, d, h3⟩ := h
  refine ⟨by show zzn.length ≤ _; decide, by show ([] : List UInt8).length ≤ _; decide, d + 1, .inr ⟨g, 0, 1, lt_of_block hg, rfl, by show 1 < _; decide, fun j k hj => ?_⟩⟩
  match j, hj with
  | 0, hj =>
    cases hj
    exact ⟨h2, _, (cell_of_row _ _ 0 _ _ _ hg).trans rfl, (cell_of_row _ _ 1 _ _ _ hg).trans rfl, (cell_of_row _ _ 2 _ _ _ hg).trans rfl, (cell_of_row _ _ 3 _ _ _ hg).trans rfl, (cell_of_row _ _ 4 _ _ _ hg).trans rfl, h3⟩
  | j + 1, hj => simp at hj
theorem OutOf.flat {l : List Ru} {e : Ex} {n : Nat} {day : Int} {w w' : World} {r : Ending} (h : OutOf l e n day w r w') : ∃ (f : Nat → Bool) (ok : Bool), r = .returned (.tuple #[.agg (mv f), .bool ok]) ∧ (ok = true → (mflt (l ++ [(zzn, e)]) day).1 = 0 ∧ f = meanP (l ++ [(zzn, e)]) (wkB day) day n) ∧ Below w.heap.size w w' := by
  rcases h with ⟨h1, h2, h3⟩ | ⟨h1, h2, h3⟩
  · exact ⟨_, true, h2, fun _ => ⟨h1, rfl⟩, h3⟩
  · exact ⟨_, false, h2, fun e => (by cases e), h3⟩
end Go.Proofs.YtgfjbcdjpkcbkaaGreatDoor

/- How rules that came in read: a tree of expressions for each, in memory as it is. -/
namespace Go.Proofs.YtgfjbcdjpkcbkaaGreatDoor
open Go.ChangeShapes Go.WideShapes Go.ChangeAt Go.WideMaps Go.WideElems Go.RowKit Go.Joins Lx
variable {H : Type} {enc : TypeId × Value → H} {W : World}
theorem inE : Tryz.prog.cellsOf 31 = 5 := by kernel_rfl
theorem inR : Tryz.prog.cellsOf 33 = 6 := by kernel_rfl
theorem inI : Tryz.prog.cellsOf 3 = 1 := by kernel_rfl
theorem inS : Tryz.prog.cellsOf 9 = 1 := by kernel_rfl
theorem inL : Tryz.prog.cellsOf 29 = 1 := by kernel_rfl
theorem in_add (g o n : Nat) : (⟨g, o, none⟩ : Addr).add n = ⟨g, o + n, none⟩ := by
  by_cases h : n = 0
  · subst h; simp [Addr.add]
  · simp [Addr.add, h]
theorem KidsB.up {B : Nat → Prop} : ∀ {d : Nat} {w : World} {sl : Value} {ks : List Ex}, KidsB B d w sl ks → KidsB B (d + 1) w sl ks
  | 0, _, _, _, h => .inl h
  | d + 1, w, sl, ks, h => by
    rcases h with h | ⟨g, o, c, hB, hs, hl, hk⟩
    · exact .inl h
    · refine .inr ⟨g, o, c, hB, hs, hl, fun j k hj => ?_⟩
      obtain ⟨hn, sk, c0, c1, c2, c3, c4, r⟩ := hk j k hj
      exact ⟨hn, sk, c0, c1, c2, c3, c4, KidsB.up r⟩
theorem KidsB.nil (B : Nat → Prop) (d : Nat) (w : World) (p : Option Addr) (c : Nat) : KidsB B d w (.slice p 0 c) [] := by
  cases d with
  | zero => exact ⟨rfl, p, c, rfl⟩
  | succ d => exact .inl ⟨rfl, p, c, rfl⟩
theorem five {α : Type} {l : List α} (h : l.length = 5) : ∃ a b c d e, l = [a, b, c, d, e] := by
  match l, h with
  | [a, b, c, d, e], _ => exact ⟨a, b, c, d, e, rfl⟩
set_option maxRecDepth 100000 in
theorem expr_parts {fuel : Nat} {cs : List Value} {y : DataW H × List MemPlace} (h : DataW.trod enc Tryz.prog W 0 (fun _ => true) true fuel 31 cs = some y) :
    ∃ (k a b : Int) (s : ByteArray) (sl : Value) (m : Nat) (z : DataW H × List MemPlace), fuel = m + 1 ∧ cs = [.int .i64 k, .int .i64 a, .int .i64 b, .string s, sl] ∧ s.size ≤ maxLen ∧ DataW.trod enc Tryz.prog W 0 (fun _ => true) true m 29 [sl] = some z := by
  obtain ⟨xs, m, hf, _, hl, hx, hall⟩ := DataW.trod_struct Tryz.underlying31 h
  rw [inE] at hl
  have hx5 : xs.length = 5 := hx
  obtain ⟨c0, c1, c2, c3, c4, rfl⟩ := five hl
  obtain ⟨x0, x1, x2, x3, x4, rfl⟩ := five hx5
  have h0 : DataW.trod enc Tryz.prog W 0 (fun _ => true) true m 3 (([c0, c1, c2, c3, c4].drop 0).take (Tryz.prog.cellsOf 3)) = some x0 := hall 0 _ rfl
  have h1 : DataW.trod enc Tryz.prog W 0 (fun _ => true) true m 3 (([c0, c1, c2, c3, c4].drop 1).take (Tryz.prog.cellsOf 3)) = some x1 := hall 1 _ rfl
  have h2 : DataW.trod enc Tryz.prog W 0 (fun _ => true) true m 3 (([c0, c1, c2, c3, c4].drop 2).take (Tryz.prog.cellsOf 3)) = some x2 := hall 2 _ rfl
  have h3 : DataW.trod enc Tryz.prog W 0 (fun _ => true) true m 9 (([c0, c1, c2, c3, c4].drop 3).take (Tryz.prog.cellsOf 9)) = some x3 := hall 3 _ rfl
  have h4 : DataW.trod enc Tryz.prog W 0 (fun _ => true) true m 29 (([c0, c1, c2, c3, c4].drop 4).take (Tryz.prog.cellsOf 29)) = some x4 := hall 4 _ rfl
  rw [inI] at h0 h1 h2
  rw [inS] at h3
  rw [inL] at h4
  obtain ⟨k, e0, _⟩ := DataW.trod_int Tryz.underlying3 h0
  obtain ⟨a, e1, _⟩ := DataW.trod_int Tryz.underlying3 h1
  obtain ⟨b, e2, _⟩ := DataW.trod_int Tryz.underlying3 h2
  obtain ⟨s, e3, _, hs⟩ := DataW.trod_string Tryz.underlying9 h3
  simp at e0 e1 e2 e3
  subst e0 e1 e2 e3
  exact ⟨k, a, b, s, c4, m, x4, hf, rfl, hs, h4⟩
theorem str_list (s : ByteArray) : (⟨(s.data.toList).toArray⟩ : ByteArray) = s := by simp
set_option maxRecDepth 100000 in
theorem open_kids : ∀ (fuel : Nat) (cs : List Value) (x : DataW H × List MemPlace), DataW.trod enc Tryz.prog W 0 (fun _ => true) true fuel 29 cs = some x →
    ∃ (sl : Value) (ks : List Ex), cs = [sl] ∧ KidsB (fun k => k < W.heap.size) fuel W sl ks := by
  intro fuel
  induction fuel using Nat.strongRecOn with
  | ind fuel ih =>
    intro cs x h
    rcases DataW.trod_slice Tryz.underlying29 h with ⟨e, _⟩ | ⟨a, len, cap, elems, rest, m, hf, e, _, _, hlc, hm, hlen, hel, _⟩
    · exact ⟨_, [], e, KidsB.nil _ _ _ _ _⟩
    · by_cases hz : len = 0
      · subst hz
        exact ⟨_, [], e, KidsB.nil _ _ _ _ _⟩
      · obtain ⟨g, o, s⟩ := a
        have each : ∀ i, i < len → ∃ (k : Ex) (sk : Value), s = none ∧ g < W.heap.size ∧ k.name.length ≤ 9223372036854775807 ∧
            W.cell? ⟨g, o + i * 5, none⟩ = some (.int .i64 k.kind) ∧ W.cell? ⟨g, o + i * 5 + 1, none⟩ = some (.int .i64 k.a) ∧ W.cell? ⟨g, o + i * 5 + 2, none⟩ = some (.int .i64 k.b) ∧
            W.cell? ⟨g, o + i * 5 + 3, none⟩ = some (.string ⟨k.name.toArray⟩) ∧ W.cell? ⟨g, o + i * 5 + 4, none⟩ = some sk ∧ KidsB (fun k => k < W.heap.size) m W sk k.kids := by
          have spot : s = none := by
            have h1 := hel 0 (by omega)
            rw [inE] at h1
            have hy : elems[0]? = some (elems[0]'(by omega)) := List.getElem?_eq_getElem _
            rw [hy, Option.bind_eq_some_iff] at h1
            obtain ⟨cs', hc, ht⟩ := h1
            have q := (World.cells?_some hc).2.2 0 (by omega)
            have hl' := (World.cells?_some hc).2.1
            have e0 : cs'[0]? = some (cs'[0]'(by omega)) := List.getElem?_eq_getElem _
            rw [e0] at q
            have q' := World.cell?_spot q
            simpa [Addr.add] using q'
          subst spot
          intro i hi
          have h1 := hel i hi
          rw [inE] at h1
          have hy : elems[i]? = some (elems[i]'(by omega)) := List.getElem?_eq_getElem _
          rw [hy, Option.bind_eq_some_iff] at h1
          obtain ⟨cs', hc, ht⟩ := h1
          obtain ⟨k, a, b, nm, sl, m', z, hm', hcs, hs, htk⟩ := expr_parts ht
          subst hcs
          have q := (World.cells?_some hc).2.2
          rw [in_add] at q
          have q0 := q 0 (by omega)
          have q1 := q 1 (by omega)
          have q2 := q 2 (by omega)
          have q3 := q 3 (by omega)
          have q4 := q 4 (by omega)
          simp only [in_add, Nat.add_zero] at q0 q1 q2 q3 q4
          obtain ⟨sl', ks, esl, hkk⟩ := ih m' (by omega) [sl] z htk
          have esl' : sl = sl' := by simpa using esl
          subst esl'
          subst hm'
          refine ⟨⟨k, a, b, nm.data.toList, ks⟩, sl, rfl, ?_, ?_, ?_, ?_, ?_, ?_, ?_, hkk.up⟩
          · exact block_lt_of_cell (a := ⟨g, o + i * 5, none⟩) (by simpa using q0)
          · rw [← Lib.size_eq]; unfold maxLen at hs; exact hs
          · simpa using q0
          · simpa using q1
          · simpa using q2
          · rw [str_list]; simpa using q3
          · simpa using q4
        have hs0 : s = none := by obtain ⟨_, _, h, _⟩ := each 0 (by omega); exact h
        have hg0 : g < W.heap.size := by obtain ⟨_, _, _, h, _⟩ := each 0 (by omega); exact h
        subst hs0
        let pick : Nat → Ex := fun i => if h : i < len then Classical.choose (each i h) else ex0
        have hpick : ∀ i (h : i < len), pick i = Classical.choose (each i h) := fun i h => by simp only [pick, h, dif_pos]
        refine ⟨.slice (some ⟨g, o, none⟩) len cap, (List.range len).map pick, e, ?_⟩
        subst hf
        refine .inr ⟨g, o, cap, hg0, by simp, by simp; unfold maxLen at hm; omega, fun j k hj => ?_⟩
        have hjl : j < len := by
          have := (List.getElem?_eq_some_iff.1 hj).1
          simpa using this
        have hk : k = pick j := by
          rw [List.getElem?_map, List.getElem?_range hjl] at hj
          exact (Option.some.inj hj).symm
        rw [hk, hpick j hjl]
        obtain ⟨sk, _, _, h3, h4⟩ := Classical.choose_spec (each j hjl)
        exact ⟨h3, sk, h4⟩
end Go.Proofs.YtgfjbcdjpkcbkaaGreatDoor

/- Signs, beside rules: plain; and two expressions put together. -/
namespace Go.Proofs.YtgfjbcdjpkcbkaaGreatDoor
open Go.RowKit Lx Msk
section
variable {l : List Ru} {nm : List UInt8} {e e' : Ex}
end
def twoE (k : Int) (a b : Ex) : Ex := ⟨k, 0, 0, [], [a, b]⟩
section
variable {l : List Ru} {a b : Ex} {day : Int}
end
theorem KidsB.upTo {B : Nat → Prop} {d : Nat} {w : World} {sl : Value} {ks : List Ex} (h : KidsB B d w sl ks) : ∀ n, KidsB B (d + n) w sl ks
  | 0 => h
  | n + 1 => (KidsB.upTo h n).up
theorem ruleIn_two {W : World} {nm nm' : List UInt8} {e e' : Ex} {pe pe' : Option Addr} {ce ce' g : Nat} (kd : Int) (h : RuleIn W ((nm, e), .slice pe e.kids.length ce)) (h' : RuleIn W ((nm', e'), .slice pe' e'.kids.length ce'))
    (hg : W.heap[g]? = some (.cells #[.int .i64 e.kind, .int .i64 e.a, .int .i64 e.b, .string ⟨e.name.toArray⟩, .slice pe e.kids.length ce, .int .i64 e'.kind, .int .i64 e'.a, .int .i64 e'.b, .string ⟨e'.name.toArray⟩, .slice pe' e'.kids.length ce'] 31 (0, 0))) :
    RuleIn W ((zzn, twoE kd e e'), .slice (some ⟨g, 0, none⟩) 2 2) := by
  obtain ⟨_, h2, d, h3⟩ := h
  obtain ⟨_, h2', d', h3'⟩ := h'
  have k3 := h3.upTo d'
  have k3' := h3'.upTo d
  rw [Nat.add_comm] at k3'
  refine ⟨by show zzn.length ≤ _; decide, by show ([] : List UInt8).length ≤ _; decide, d + d' + 1, .inr ⟨g, 0, 2, lt_of_block hg, rfl, by show 2 < _; decide, fun j k hj => ?_⟩⟩
  match j, hj with
  | 0, hj =>
    cases hj
    exact ⟨h2, _, (cell_of_row _ _ 0 _ _ _ hg).trans rfl, (cell_of_row _ _ 1 _ _ _ hg).trans rfl, (cell_of_row _ _ 2 _ _ _ hg).trans rfl, (cell_of_row _ _ 3 _ _ _ hg).trans rfl, (cell_of_row _ _ 4 _ _ _ hg).trans rfl, k3⟩
  | 1, hj =>
    cases hj
    exact ⟨h2', _, (cell_of_row _ _ 5 _ _ _ hg).trans rfl, (cell_of_row _ _ 6 _ _ _ hg).trans rfl, (cell_of_row _ _ 7 _ _ _ hg).trans rfl, (cell_of_row _ _ 8 _ _ _ hg).trans rfl, (cell_of_row _ _ 9 _ _ _ hg).trans rfl, k3'⟩
  | j + 2, hj => simp [twoE] at hj
set_option maxRecDepth 100000 in
set_option maxHeartbeats 1000000 in
theorem two_any (kd : Int) (e e' : Ex) (pe pe' : Option Addr) (ce ce' : Nat) (w : World) :
    Calls Tryz.prog 12 #[.int .i64 kd, .agg #[.int .i64 e.kind, .int .i64 e.a, .int .i64 e.b, .string ⟨e.name.toArray⟩, .slice pe e.kids.length ce], .agg #[.int .i64 e'.kind, .int .i64 e'.a, .int .i64 e'.b, .string ⟨e'.name.toArray⟩, .slice pe' e'.kids.length ce']] w fun r w' =>
      ∃ g : Nat, r = .returned (.agg #[.int .i64 kd, .int .i64 0, .int .i64 0, .string ⟨#[]⟩, .slice (some ⟨g, 0, none⟩) 2 2]) ∧ w'.heap[g]? = some (.cells #[.int .i64 e.kind, .int .i64 e.a, .int .i64 e.b, .string ⟨e.name.toArray⟩, .slice pe e.kids.length ce, .int .i64 e'.kind, .int .i64 e'.a, .int .i64 e'.b, .string ⟨e'.name.toArray⟩, .slice pe' e'.kids.length ce'] 31 (0, 0)) ∧ Below w.heap.size w w' := by
  have b3 : Below w.heap.size w (((w.alloc (.cells #[.int .i64 e.kind, .int .i64 e.a, .int .i64 e.b, .string ⟨e.name.toArray⟩, .slice pe e.kids.length ce] 31)).alloc (.cells #[.int .i64 e'.kind, .int .i64 e'.a, .int .i64 e'.b, .string ⟨e'.name.toArray⟩, .slice pe' e'.kids.length ce'] 31)).alloc (.cells #[.int .i64 0, .int .i64 0, .int .i64 0, .string ⟨#[]⟩, .slice none 0 0] 31)) := (((Below.refl _ _).alloc (Nat.le_refl _) _).alloc (by simp) _).alloc (by simp only [size_alloc]; omega) _
  have n1 : (((w.alloc (.cells #[.int .i64 e.kind, .int .i64 e.a, .int .i64 e.b, .string ⟨e.name.toArray⟩, .slice pe e.kids.length ce] 31)).alloc (.cells #[.int .i64 e'.kind, .int .i64 e'.a, .int .i64 e'.b, .string ⟨e'.name.toArray⟩, .slice pe' e'.kids.length ce'] 31)).alloc (.cells #[.int .i64 0, .int .i64 0, .int .i64 0, .string ⟨#[]⟩, .slice none 0 0] 31)).heap[w.heap.size]? = some (.cells #[.int .i64 e.kind, .int .i64 e.a, .int .i64 e.b, .string ⟨e.name.toArray⟩, .slice pe e.kids.length ce] 31 (0, 0)) := by (repeat (first | refine blk_old _ _ _ (by simp only [size_alloc]; omega) ?_ | exact blk_new _ _ _ (by first | rfl | simp only [size_alloc])))
  have n2 : (((w.alloc (.cells #[.int .i64 e.kind, .int .i64 e.a, .int .i64 e.b, .string ⟨e.name.toArray⟩, .slice pe e.kids.length ce] 31)).alloc (.cells #[.int .i64 e'.kind, .int .i64 e'.a, .int .i64 e'.b, .string ⟨e'.name.toArray⟩, .slice pe' e'.kids.length ce'] 31)).alloc (.cells #[.int .i64 0, .int .i64 0, .int .i64 0, .string ⟨#[]⟩, .slice none 0 0] 31)).heap[w.heap.size + 1]? = some (.cells #[.int .i64 e'.kind, .int .i64 e'.a, .int .i64 e'.b, .string ⟨e'.name.toArray⟩, .slice pe' e'.kids.length ce'] 31 (0, 0)) := by (repeat (first | refine blk_old _ _ _ (by simp only [size_alloc]; omega) ?_ | exact blk_new _ _ _ (by first | rfl | simp only [size_alloc])))
  have n3 : (((w.alloc (.cells #[.int .i64 e.kind, .int .i64 e.a, .int .i64 e.b, .string ⟨e.name.toArray⟩, .slice pe e.kids.length ce] 31)).alloc (.cells #[.int .i64 e'.kind, .int .i64 e'.a, .int .i64 e'.b, .string ⟨e'.name.toArray⟩, .slice pe' e'.kids.length ce'] 31)).alloc (.cells #[.int .i64 0, .int .i64 0, .int .i64 0, .string ⟨#[]⟩, .slice none 0 0] 31)).heap[w.heap.size + 1 + 1]? = some (.cells #[.int .i64 0, .int .i64 0, .int .i64 0, .string ⟨#[]⟩, .slice none 0 0] 31 (0, 0)) := by (repeat (first | refine blk_old _ _ _ (by simp only [size_alloc]; omega) ?_ | exact blk_new _ _ _ (by first | rfl | simp only [size_alloc])))
  generalize hw3 : (((w.alloc (.cells #[.int .i64 e.kind, .int .i64 e.a, .int .i64 e.b, .string ⟨e.name.toArray⟩, .slice pe e.kids.length ce] 31)).alloc (.cells #[.int .i64 e'.kind, .int .i64 e'.a, .int .i64 e'.b, .string ⟨e'.name.toArray⟩, .slice pe' e'.kids.length ce'] 31)).alloc (.cells #[.int .i64 0, .int .i64 0, .int .i64 0, .string ⟨#[]⟩, .slice none 0 0] 31)) = w3 at *
  have b4 := b3.alloc b3.size (.cells #[.int .i64 e.kind, .int .i64 e.a, .int .i64 e.b, .string ⟨e.name.toArray⟩, .slice pe e.kids.length ce, .int .i64 e'.kind, .int .i64 e'.a, .int .i64 e'.b, .string ⟨e'.name.toArray⟩, .slice pe' e'.kids.length ce'] 31)
  have n4 := heap_alloc_new w3 (.cells #[.int .i64 e.kind, .int .i64 e.a, .int .i64 e.b, .string ⟨e.name.toArray⟩, .slice pe e.kids.length ce, .int .i64 e'.kind, .int .i64 e'.a, .int .i64 e'.b, .string ⟨e'.name.toArray⟩, .slice pe' e'.kids.length ce'] 31)
  have n34 := (Below.heap_alloc w3 (.cells #[.int .i64 e.kind, .int .i64 e.a, .int .i64 e.b, .string ⟨e.name.toArray⟩, .slice pe e.kids.length ce, .int .i64 e'.kind, .int .i64 e'.a, .int .i64 e'.b, .string ⟨e'.name.toArray⟩, .slice pe' e'.kids.length ce'] 31) _ (lt_of_block n3)).trans n3
  have s3 := lt_of_block n3
  generalize hw4 : w3.alloc (.cells #[.int .i64 e.kind, .int .i64 e.a, .int .i64 e.b, .string ⟨e.name.toArray⟩, .slice pe e.kids.length ce, .int .i64 e'.kind, .int .i64 e'.a, .int .i64 e'.b, .string ⟨e'.name.toArray⟩, .slice pe' e'.kids.length ce'] 31) = w4 at *
  have HO : Hid (∀ cs, (w4.setRow (w.heap.size + 1 + 1) cs).heap[w3.heap.size]? = w4.heap[w3.heap.size]?) := fun cs => setRow_other _ _ _ _ (by omega)
  have HB := hid5 b4
  have HN := hid5 n4
  clear n3 s3 b3 b4 n4
  go_enter Tryz.func12, Tryz.ntmps12
  go_wp2_with (first
    | (refine wpList_load_row rfl 31 _ rfl _ rfl _ _ _ _ n1 exprType5 rfl (by kernel_rfl) ?_)
    | (refine wpList_load_row rfl 31 _ rfl _ rfl _ _ _ _ n2 exprType5 rfl (by kernel_rfl) ?_)
    | (refine wpList_store_row rfl 31 _ _ rfl _ _ rfl rfl _ _ n34 (by kernel_rfl) (by rfl) (by simp [Value.oneCell']) ?_))
  refine bodyPost_ret (v := .agg #[.int .i64 kd, .int .i64 0, .int .i64 0, .string ⟨#[]⟩, .slice (some ⟨w3.heap.size, 0, none⟩) 2 2]) ?_ rfl ⟨_, rfl, (HO.out _).trans HN.out, below_setRow HB.out (by omega) _⟩
  exact results_cell_row rfl _ _ (w.heap.size + 1 + 1) _ _ _ _ rfl (setRow_heap _ _ _ _ _ _ n34) exprType5 rfl (by kernel_rfl)
end Go.Proofs.YtgfjbcdjpkcbkaaGreatDoor

/- What is shifted, beside rules: plain; and an expression that is shifted. -/
namespace Go.Proofs.YtgfjbcdjpkcbkaaGreatDoor
open Go.RowKit Lx Msk
def shE (n : Int) (e : Ex) : Ex := ⟨9, n, 0, [], [e]⟩
theorem nms_shE (n : Int) (e : Ex) : nms (shE n e) = nms e := by
  rw [nms_eq, if_neg (show ¬ (shE n e).kind = 10 by show ¬ (9 : Int) = 10; omega)]
  simp [shE, nmsL]
theorem nms_two6 (a b : Ex) : nms (twoE 6 a b) = nms a ++ nms b := by
  rw [nms_eq, if_neg (show ¬ (twoE 6 a b).kind = 10 by show ¬ (6 : Int) = 10; omega)]
  simp [twoE, nmsL]
section
variable {l : List Ru} {day : Int}
def valP (l : List Ru) (day : Int) (e a : Ex) : Nat → Bool := valE (wkB day) day (fun x => meanP (l ++ [(zzn, e)]) (wkB day) day (atP5 (l ++ [(zzn, e)]) x).toNat) a
theorem valP_same {e e' a : Ex} (h : (mflt (l ++ [(zzn, e)]) day).1 = 0) (h' : (mflt (l ++ [(zzn, e')]) day).1 = 0) (ha : ∀ x ∈ nms a, x ∈ nms e) : valP l day e a = valP l day e' a := by
  refine val_indep (mflt_chk h) (mflt_chk h') (last_at l _) (fun x => at_names x) (fun j hj => ?_) (e := a) ha
  by_cases hlt : j < l.length
  · rw [List.getElem?_append_left hlt, List.getElem?_append_left hlt]
  · rw [List.getElem?_eq_none (by simp; omega), List.getElem?_eq_none (by simp; omega)]
theorem valP_shift (e a : Ex) (n : Int) : valP l day e (shE n a) = shf (valP l day e a) n := by
  unfold valP
  rw [valE_eq]
  rfl
theorem valP_two (e a b : Ex) : valP l day e (twoE 6 a b) = fun i => (valP l day e a i || valP l day e b i) && decide (i < 1440) := by
  unfold valP
  rw [valE_eq]
  rfl
theorem shf_shf (f : Nat → Bool) {m n : Int} (h : (0 < m ∧ 0 < n) ∨ (m < 0 ∧ n < 0)) : shf (shf f m) n = shf f (m + n) := by
  funext t
  unfold shf
  by_cases h1 : t < 1440
  · by_cases h2 : n ≤ (t : Int)
    · by_cases h3 : (t : Int) - n < 1440
      · have e0 : (((t : Int) - n).toNat : Int) = (t : Int) - n := by omega
        have e1 : ((t : Int) - n).toNat < 1440 := by omega
        rw [e0]
        by_cases h4 : m ≤ (t : Int) - n
        · by_cases h5 : (t : Int) - n - m < 1440
          · have e2 : (t : Int) - (m + n) = (t : Int) - n - m := by omega
            have e3 : m + n ≤ (t : Int) := by omega
            rw [e2]
            simp [h1, h2, h3, e1, h4, h5, e3]
          · have e2 : ¬ (t : Int) - (m + n) < 1440 := by omega
            simp [h5, e2]
        · have e2 : ¬ m + n ≤ (t : Int) := by omega
          simp [h4, e2]
      · have e2 : ¬ (t : Int) - (m + n) < 1440 := by omega
        simp [h3, e2]
    · have e2 : ¬ m + n ≤ (t : Int) := by omega
      simp [h2, e2]
  · simp [h1]
theorem shf_two (f g : Nat → Bool) (n : Int) : shf (fun i => (f i || g i) && decide (i < 1440)) n = fun i => (shf f n i || shf g n i) && decide (i < 1440) := by
  funext t
  unfold shf
  by_cases h1 : t < 1440
  · by_cases h2 : n ≤ (t : Int)
    · by_cases h3 : (t : Int) - n < 1440
      · have e1 : ((t : Int) - n).toNat < 1440 := by omega
        simp [h1, h2, h3, e1]
      · simp [h3]
    · simp [h2]
  · simp [h1]
theorem shift_both {a : Ex} {m n : Int} (hs : (0 < m ∧ 0 < n) ∨ (m < 0 ∧ n < 0)) (h : (mflt (l ++ [(zzn, shE n (shE m a))]) day).1 = 0) (h' : (mflt (l ++ [(zzn, shE (m + n) a)]) day).1 = 0) :
    meanP (l ++ [(zzn, shE n (shE m a))]) (wkB day) day l.length = meanP (l ++ [(zzn, shE (m + n) a)]) (wkB day) day l.length := by
  have e1 : meanP (l ++ [(zzn, shE n (shE m a))]) (wkB day) day l.length = valP l day (shE n (shE m a)) (shE n (shE m a)) := of_eq h
  have e2 : meanP (l ++ [(zzn, shE (m + n) a)]) (wkB day) day l.length = valP l day (shE (m + n) a) (shE (m + n) a) := of_eq h'
  rw [e1, e2, valP_shift, valP_shift, valP_shift, shf_shf _ hs, valP_same h h' (a := a) fun x hx => by rw [nms_shE, nms_shE]; exact hx]
theorem shift_sum {a b : Ex} {m : Int} (h : (mflt (l ++ [(zzn, shE m (twoE 6 a b))]) day).1 = 0) (h' : (mflt (l ++ [(zzn, twoE 6 (shE m a) (shE m b))]) day).1 = 0) :
    meanP (l ++ [(zzn, shE m (twoE 6 a b))]) (wkB day) day l.length = meanP (l ++ [(zzn, twoE 6 (shE m a) (shE m b))]) (wkB day) day l.length := by
  have e1 : meanP (l ++ [(zzn, shE m (twoE 6 a b))]) (wkB day) day l.length = valP l day (shE m (twoE 6 a b)) (shE m (twoE 6 a b)) := of_eq h
  have e2 : meanP (l ++ [(zzn, twoE 6 (shE m a) (shE m b))]) (wkB day) day l.length = valP l day (twoE 6 (shE m a) (shE m b)) (twoE 6 (shE m a) (shE m b)) := of_eq h'
  rw [e1, e2, valP_shift, valP_two, valP_two, shf_two, valP_shift, valP_shift]
  rw [valP_same h h' (a := a) fun x hx => by rw [nms_shE, nms_two6]; exact List.mem_append_left _ hx]
  rw [valP_same h h' (a := b) fun x hx => by rw [nms_shE, nms_two6]; exact List.mem_append_right _ hx]
end
set_option maxRecDepth 100000 in
set_option maxHeartbeats 1000000 in
theorem by_any (n : Int) (e : Ex) (pe : Option Addr) (ce : Nat) (w : World) :
    Calls Tryz.prog 10 #[.agg #[.int .i64 e.kind, .int .i64 e.a, .int .i64 e.b, .string ⟨e.name.toArray⟩, .slice pe e.kids.length ce], .int .i64 n] w fun r w' =>
      ∃ g : Nat, r = .returned (.agg #[.int .i64 9, .int .i64 n, .int .i64 0, .string ⟨#[]⟩, .slice (some ⟨g, 0, none⟩) 1 1]) ∧ w'.heap[g]? = some (.cells #[.int .i64 e.kind, .int .i64 e.a, .int .i64 e.b, .string ⟨e.name.toArray⟩, .slice pe e.kids.length ce] 31 (0, 0)) ∧ Below w.heap.size w w' := by
  have b3 : Below w.heap.size w ((w.alloc (.cells #[.int .i64 e.kind, .int .i64 e.a, .int .i64 e.b, .string ⟨e.name.toArray⟩, .slice pe e.kids.length ce] 31)).alloc (.cells #[.int .i64 0, .int .i64 0, .int .i64 0, .string ⟨#[]⟩, .slice none 0 0] 31)) := ((Below.refl _ _).alloc (Nat.le_refl _) _).alloc (by simp) _
  have n1 : ((w.alloc (.cells #[.int .i64 e.kind, .int .i64 e.a, .int .i64 e.b, .string ⟨e.name.toArray⟩, .slice pe e.kids.length ce] 31)).alloc (.cells #[.int .i64 0, .int .i64 0, .int .i64 0, .string ⟨#[]⟩, .slice none 0 0] 31)).heap[w.heap.size]? = some (.cells #[.int .i64 e.kind, .int .i64 e.a, .int .i64 e.b, .string ⟨e.name.toArray⟩, .slice pe e.kids.length ce] 31 (0, 0)) := by (repeat (first | refine blk_old _ _ _ (by simp only [size_alloc]; omega) ?_ | exact blk_new _ _ _ (by first | rfl | simp only [size_alloc])))
  have n3 : ((w.alloc (.cells #[.int .i64 e.kind, .int .i64 e.a, .int .i64 e.b, .string ⟨e.name.toArray⟩, .slice pe e.kids.length ce] 31)).alloc (.cells #[.int .i64 0, .int .i64 0, .int .i64 0, .string ⟨#[]⟩, .slice none 0 0] 31)).heap[w.heap.size + 1]? = some (.cells #[.int .i64 0, .int .i64 0, .int .i64 0, .string ⟨#[]⟩, .slice none 0 0] 31 (0, 0)) := by (repeat (first | refine blk_old _ _ _ (by simp only [size_alloc]; omega) ?_ | exact blk_new _ _ _ (by first | rfl | simp only [size_alloc])))
  generalize hw3 : (w.alloc (.cells #[.int .i64 e.kind, .int .i64 e.a, .int .i64 e.b, .string ⟨e.name.toArray⟩, .slice pe e.kids.length ce] 31)).alloc (.cells #[.int .i64 0, .int .i64 0, .int .i64 0, .string ⟨#[]⟩, .slice none 0 0] 31) = w3 at *
  have b4 := b3.alloc b3.size (.cells #[.int .i64 e.kind, .int .i64 e.a, .int .i64 e.b, .string ⟨e.name.toArray⟩, .slice pe e.kids.length ce] 31)
  have n4 := heap_alloc_new w3 (.cells #[.int .i64 e.kind, .int .i64 e.a, .int .i64 e.b, .string ⟨e.name.toArray⟩, .slice pe e.kids.length ce] 31)
  have n34 := (Below.heap_alloc w3 (.cells #[.int .i64 e.kind, .int .i64 e.a, .int .i64 e.b, .string ⟨e.name.toArray⟩, .slice pe e.kids.length ce] 31) _ (lt_of_block n3)).trans n3
  have s3 := lt_of_block n3
  generalize hw4 : w3.alloc (.cells #[.int .i64 e.kind, .int .i64 e.a, .int .i64 e.b, .string ⟨e.name.toArray⟩, .slice pe e.kids.length ce] 31) = w4 at *
  have HO : Hid (∀ cs, (w4.setRow (w.heap.size + 1) cs).heap[w3.heap.size]? = w4.heap[w3.heap.size]?) := fun cs => setRow_other _ _ _ _ (by omega)
  have HB := hid5 b4
  have HN := hid5 n4
  clear n3 s3 b3 b4 n4
  go_enter Tryz.func10, Tryz.ntmps10
  go_wp2_with (first
    | (refine wpList_load_row rfl 31 _ rfl _ rfl _ _ _ _ n1 exprType5 rfl (by kernel_rfl) ?_)
    | (refine wpList_store_row rfl 31 _ _ rfl _ _ rfl rfl _ _ n34 (by kernel_rfl) (by rfl) (by simp [Value.oneCell']) ?_))
  refine bodyPost_ret (v := .agg #[.int .i64 9, .int .i64 n, .int .i64 0, .string ⟨#[]⟩, .slice (some ⟨w3.heap.size, 0, none⟩) 1 1]) ?_ rfl ⟨_, rfl, (HO.out _).trans HN.out, below_setRow HB.out (by omega) _⟩
  exact results_cell_row rfl _ _ (w.heap.size + 1) _ _ _ _ rfl (setRow_heap _ _ _ _ _ _ n34) exprType5 rfl (by kernel_rfl)
end Go.Proofs.YtgfjbcdjpkcbkaaGreatDoor
