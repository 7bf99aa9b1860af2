/- A rule put behind rules, as 'of' does it: what is said while it goes on. Written by genof.py. -/
import Derived.Test.YtllcpoibnmhghaaGreatDoorTb37
import Derived.Test.YtllcpoibnmhghaaGreatDoorTb38
namespace Go.Proofs.YtllcpoibnmhghaaGreatDoor
open Go.RowKit Lx
section
variable {B : Nat} {us us2 : List (Ru × Value)} {LV : Value} {day : Int} {exr rowu : Array Value} {er at0 : Int} {fs : List (Nat → Bool)} {L L' : Nat → Bool} {W W' : World}
/-- What each operation yields, where so much has been done. -/
def osq (B : Nat) (us us2 : List (Ru × Value)) (LV : Value) (day : Int) (exr rowu : Array Value) (er at0 : Int) (fs : List (Nat → Bool)) (L : Nat → Bool) (i : Nat) (v : Value) (W : World) : Prop := match i with
  | 0 => L 2 = false → ∃ g : Nat, v = .slice (some ⟨g, 0, none⟩) 0 0 ∧ W.heap[g]? = some (.cells #[] 38 (0, 0)) ∧ B ≤ g
  | 1 => v = LV
  | 2 => L 6 = false → W.ownsRow B 38 6 v us.length (flatR us)
  | 3 => v = .agg exr
  | 4 => v = .agg rowu
  | 5 => L 6 = false → ∃ g : Nat, v = .slice (some ⟨g, 0, none⟩) 1 1 ∧ W.heap[g]? = some (.cells rowu 38 (0, 0))
  | 6 => W.ownsRow B 38 6 v us2.length (flatR us2)
  | 7 => v = .int .i64 day
  | 8 => ∃ vm, v = .tuple #[vm, .agg #[.int .i64 er, .int .i64 at0]] ∧ RowM W vm fs
  | 9 => ∃ vm, v = .tuple #[vm, .agg #[.int .i64 er, .int .i64 at0]] ∧ RowM W vm fs
  | 11 => v = .agg #[.int .i64 er, .int .i64 at0]
  | 12 => ∃ g : Nat, v = .pointer (some ⟨g, 0, none⟩) ∧ B ≤ g ∧ W.heap[g]? = some (.cells #[.int .i64 0, .int .i64 0] 43 (0, 0))
  | _ => RowM W v fs
theorem osq_below (hL : ∀ k, L' k = false → L k = false) (hb : Below W.heap.size W W') (j : Nat) (u : Value) (h : osq B us us2 LV day exr rowu er at0 fs L j u W) : osq B us us2 LV day exr rowu er at0 fs L' j u W' := by
  unfold osq at *
  split at h
  · intro h2
    obtain ⟨g, e, hh, hB⟩ := h (hL _ h2)
    exact ⟨g, e, (hb.block _ (lt_of_block hh)).trans hh, hB⟩
  · exact h
  · intro h2
    exact owns_below (h (hL _ h2)) hb
  · exact h
  · exact h
  · intro h2
    obtain ⟨g, e, hh⟩ := h (hL _ h2)
    exact ⟨g, e, (hb.block _ (lt_of_block hh)).trans hh⟩
  · exact owns_below h hb
  · exact h
  · obtain ⟨vm, e, hr⟩ := h
    exact ⟨vm, e, hr.later hb⟩
  · obtain ⟨vm, e, hr⟩ := h
    exact ⟨vm, e, hr.later hb⟩
  · exact h
  · obtain ⟨g, e, hB, hh⟩ := h
    exact ⟨g, e, hB, (hb.block _ (lt_of_block hh)).trans hh⟩
  · exact h.later hb
/-- A row of rules grows: all but that row's is as it was. -/
theorem osq_grown {blk : Option Nat} (hg : W.grownBy W' blk) (hrule : ∀ q, blk = some q → ∃ cur, W.heap[q]? = some (.cells cur 38 (0, 0))) {j : Nat} (h0 : j = 0 → L' 2 = true) (h2 : j = 2 → L' 6 = true) (h5 : j = 5 → L' 6 = true ∨ (L' 6 = false → L 6 = false) ∧ ∀ q, blk = some q → W.heap[q]? ≠ some (.cells rowu 38 (0, 0)))
    (hj : j ≠ 6 ∧ j ≠ 8 ∧ j ≠ 9 ∧ j ≠ 10 ∧ j < 13) (u : Value) (h : osq B us us2 LV day exr rowu er at0 fs L j u W) : osq B us us2 LV day exr rowu er at0 fs L' j u W' := by
  obtain ⟨n7, n9, n10, n11, n14⟩ := hj
  have hkeep : ∀ (q : Nat) (o : Obj), W.heap[q]? = some o → (∀ cur, o ≠ .cells cur 38 (0, 0)) → W'.heap[q]? = some o := fun q o hq hne => by
    refine (hg.block q (lt_of_block hq) (fun e => ?_)).trans hq
    obtain ⟨cur, hc⟩ := hrule q e.symm
    rw [hq] at hc
    exact hne cur (Option.some.inj hc)
  match j, h0, h2, h5, n7, n9, n10, n11, n14, h with
  | 0, h0, _, _, _, _, _, _, _, _ => intro e; rw [h0 rfl] at e; cases e
  | 1, _, _, _, _, _, _, _, _, h => exact h
  | 2, _, h2, _, _, _, _, _, _, _ => intro e; rw [h2 rfl] at e; cases e
  | 3, _, _, _, _, _, _, _, _, h => exact h
  | 4, _, _, _, _, _, _, _, _, h => exact h
  | 5, _, _, h5, _, _, _, _, _, h =>
    intro e
    rcases h5 rfl with h7 | ⟨h7, hne⟩
    · rw [h7] at e; cases e
    · obtain ⟨g, e1, hh⟩ := h (h7 e)
      exact ⟨g, e1, (hg.block g (lt_of_block hh) (fun e2 => hne g e2.symm hh)).trans hh⟩
  | 7, _, _, _, _, _, _, _, _, h => exact h
  | 11, _, _, _, _, _, _, _, _, h => exact h
  | 12, _, _, _, _, _, _, _, _, h =>
    obtain ⟨g, e, hB, hh⟩ := h
    refine ⟨g, e, hB, hkeep g _ hh fun cur e2 => ?_⟩
    injection e2 with _ e3
    exact absurd e3 (by decide)
  | 6, _, _, _, n, _, _, _, _, _ => exact absurd rfl n
  | 8, _, _, _, _, n, _, _, _, _ => exact absurd rfl n
  | 9, _, _, _, _, _, n, _, _, _ => exact absurd rfl n
  | 10, _, _, _, _, _, _, n, _, _ => exact absurd rfl n
  | j + 13, _, _, _, _, _, _, _, n, _ => omega
end
end Go.Proofs.YtllcpoibnmhghaaGreatDoor

/- What slotlaw6.of comes to. Written by genof.py. -/
namespace Go.Proofs.YtllcpoibnmhghaaGreatDoor
open Go.RowKit Lx Msk
/-- The name of what is asked of. -/
def zzn : List UInt8 := [122, 122, 95, 110, 101, 119]
/-- What an expression means beside rules, or that something is wrong. -/
def OutOf (l : List Ru) (e : Ex) (n : Nat) (day : Int) (w : World) (r : Ending) (w' : World) : Prop :=
  ((mflt (l ++ [(zzn, e)]) day).1 = 0 ∧ r = .returned (.tuple #[.agg (mv (meanP (l ++ [(zzn, e)]) (wkB day) day n)), .bool true]) ∧ Below w.heap.size w w') ∨ ((mflt (l ++ [(zzn, e)]) day).1 ≠ 0 ∧ r = .returned (.tuple #[.agg (mv fun _ => false), .bool false]) ∧ Below w.heap.size w w')
theorem of_post {R : Ending → World → Prop} {a : Act} {w : World} (g : Nat) (f : Nat → Bool) (b : Bool) (hd : a.defers = []) (h2 : a.tmps.getD 7 undef = .bool b) (h3 : a.tmps.getD 6 undef = .pointer (some ⟨g, 0, none⟩))
    (hg : w.heap[g]? = some (.cells (mv f) 29 (0, 0))) (hR : R (.returned (.tuple #[.agg (mv f), .bool b])) w) : bodyPost Tryz.prog Tryz.f9 R .ret a w := by
  refine bodyPost_ret (v := .tuple #[.agg (mv f), .bool b]) ?_ hd hR
  have h2' : a.tmps[7]?.getD undef = .bool b := by simpa using h2
  have h3' : a.tmps[6]?.getD undef = .pointer (some ⟨g, 0, none⟩) := by simpa using h3
  have hv := run_loadVar_row (P := Tryz.prog) w g 29 29 _ _ _ hg maskType rfl (maskSize _)
  simp [results, Tryz.results9, h2', h3', asAddr, hv]
set_option maxRecDepth 100000 in
set_option maxHeartbeats 4000000 in
theorem of6_any (us : List (Ru × Value)) (pv : Option Addr) (cv : Nat) (e : Ex) (pe : Option Addr) (ce : Nat) (day : Int) (l : List Ru) (w : World) (h : InR w (.slice pv us.length cv) us) (hE : RuleIn w ((zzn, e), .slice pe e.kids.length ce)) (h80 : us.length * 80 ≤ 140737488351232) (hp0 : pv = none → cv = 0) (hl : us.map (fun p => p.1) = l) :
    Calls Tryz.prog 9 #[.slice pv us.length cv, .agg #[.int .i64 e.kind, .int .i64 e.a, .int .i64 e.b, .string ⟨e.name.toArray⟩, .slice pe e.kids.length ce], .int .i64 day] w (OutOf l e us.length day w) := by
  have hll : l.length = us.length := by rw [← hl, List.length_map]
  have hlen := h.len
  have hz := mv_lit
  obtain ⟨i0, hi, hz0, hz1, hz2⟩ := info_parts ruleInfo
  have bA : Below w.heap.size w ((w.alloc (.cells #[.int .i64 e.kind, .int .i64 e.a, .int .i64 e.b, .string ⟨e.name.toArray⟩, .slice pe e.kids.length ce] 25)).alloc (.cells (mv fun _ => false) 29)) := ((Below.refl _ _).alloc (Nat.le_refl _) _).alloc (by simp) _
  have nE : ((w.alloc (.cells #[.int .i64 e.kind, .int .i64 e.a, .int .i64 e.b, .string ⟨e.name.toArray⟩, .slice pe e.kids.length ce] 25)).alloc (.cells (mv fun _ => false) 29)).heap[w.heap.size]? = some (.cells #[.int .i64 e.kind, .int .i64 e.a, .int .i64 e.b, .string ⟨e.name.toArray⟩, .slice pe e.kids.length ce] 25 (0, 0)) := by (repeat (first | refine blk_old _ _ _ (by simp only [size_alloc]; omega) ?_ | exact blk_new _ _ _ (by first | rfl | simp only [size_alloc])))
  have n6 : ((w.alloc (.cells #[.int .i64 e.kind, .int .i64 e.a, .int .i64 e.b, .string ⟨e.name.toArray⟩, .slice pe e.kids.length ce] 25)).alloc (.cells (mv fun _ => false) 29)).heap[w.heap.size + 1]? = some (.cells (mv fun _ => false) 29 (0, 0)) := by (repeat (first | refine blk_old _ _ _ (by simp only [size_alloc]; omega) ?_ | exact blk_new _ _ _ (by first | rfl | simp only [size_alloc])))
  generalize hwB : (w.alloc (.cells #[.int .i64 e.kind, .int .i64 e.a, .int .i64 e.b, .string ⟨e.name.toArray⟩, .slice pe e.kids.length ce] 25)).alloc (.cells (mv fun _ => false) 29) = wB at *
  have HIN := hid5 (h.below bA)
  obtain ⟨us2, hus2⟩ : ∃ us2, us ++ [(((zzn, e) : Ru), Value.slice pe e.kids.length ce)] = us2 := ⟨_, rfl⟩
  have hl2 : us2.length = us.length + 1 := by rw [← hus2]; simp
  have hm2 : us2.map (fun p => p.1) = l ++ [(zzn, e)] := by
    rw [← hus2, List.map_append, hl]
    rfl
  obtain ⟨er2, her2⟩ : ∃ x, (mflt (l ++ [(zzn, e)]) day).1 = x := ⟨_, rfl⟩
  obtain ⟨at2, hat2⟩ : ∃ x : Int, ((mflt (l ++ [(zzn, e)]) day).2 : Int) = x := ⟨_, rfl⟩
  obtain ⟨fb, hfb⟩ : ∃ x, meanL (l ++ [(zzn, e)]) day = x := ⟨_, rfl⟩
  have HCM : Hid (∀ (W : World) (v7 : Value), Below wB.heap.size wB W → W.ownsRow wB.heap.size 38 6 v7 us2.length (flatR us2) → Calls Tryz.prog 16 #[v7, .int .i64 day] W fun r W' => ∃ vm, r = .returned (.tuple #[vm, .agg #[.int .i64 er2, .int .i64 at2]]) ∧ RowM W' vm fb ∧ Below W.heap.size W W') := fun W v7 hW ho => by
    have := mall_any us2 v7 day W (inR_more hus2 HIN.out (hE.below bA) hW ho (by omega))
    rw [hm2] at this
    unfold OutMe at this
    rw [her2, hat2, hfb] at this
    exact this
  have HLL := hid5 hll
  have HP := hid5 hp0
  have HZ := hid5 hz0
  have HL2 := hid5 hl2
  have HUS := hid5 hus2
  have Her2 := hid5 her2
  have Hfb := hid5 hfb
  clear h hE hl hll hp0 hz0 hl2 hus2 hm2 her2 hat2 hfb
  go_enter Tryz.func9, Tryz.ntmps9
  go_wp2_with fail
  clear hwB
  refine wp_region_lastQ (Below wB.heap.size wB) (osq wB.heap.size us us2 (.slice pv us.length cv) day #[.int .i64 e.kind, .int .i64 e.a, .int .i64 e.b, .string ⟨e.name.toArray⟩, .slice pe e.kids.length ce] #[.string ⟨zzn.toArray⟩, .int .i64 e.kind, .int .i64 e.a, .int .i64 e.b, .string ⟨e.name.toArray⟩, .slice pe e.kids.length ce] er2 at2 fb) ((Below.refl _ _).drew) (by kernel_rfl) (by kernel_rfl) (by kernel_rfl) (by kernel_rfl) 14 (by kernel_rfl) (by kernel_rfl) [11, 12, 13, 14, 15, 16, 17, 18, 19, 10, 20, 21, 9, 8] (by kernel_rfl) (by kernel_rfl) ?_ ?_
  · intro i' s o' L A W2 ho hs hLi hdep hc hJ hkept hhas
    match i', ho, hs, hLi with
    | 0, ho, hs, hLi =>
      cases Option.some.inj ho
      cases Option.some.inj hs
      have hsz := hJ.size
      have hb := (Below.refl W2.heap.size W2).alloc (Nat.le_refl _) (.cells #[] 38)
      have hnew := heap_alloc_new W2 (.cells #[] 38)
      refine wpOp_step rfl (fun K hK => ?_)
      go_simp
      exact hK _ _ ⟨_, rfl, fun _ => ⟨_, rfl, hnew, hsz⟩, hJ.trans (hb.mono hJ.size), fun j u _ _ _ h => osq_below (fun k hk => (Bool.or_eq_false_iff.1 hk).2) hb j u h⟩
    | 1, ho, hs, hLi =>
      cases Option.some.inj ho
      cases Option.some.inj hs
      have h0 : A.tmps[0]?.getD undef = .slice pv us.length cv := (gd A 0).trans (hkept 0 (by kernel_rfl))
      refine wpOp_step rfl (fun K hK => ?_)
      go_simp
      exact hK _ _ ⟨_, rfl, rfl, hJ, fun j u _ _ _ h => osq_below (fun k hk => (Bool.or_eq_false_iff.1 hk).2) (Below.refl _ _) j u h⟩
    | 2, ho, hs, hLi =>
      cases Option.some.inj ho
      cases Option.some.inj hs
      have no6 : L 6 = true → False := fun h => by
        have := hc 6 _ rfl h ⟨2, .data⟩ (by simp) rfl
        rw [hLi] at this; cases this
      have no8 : L 8 = true → False := fun h => no6 (hc 8 _ rfl h ⟨6, .data⟩ (by simp) rfl)
      have no9 : L 9 = true → False := fun h => no8 (hc 9 _ rfl h ⟨8, .data⟩ (by simp) rfl)
      have no10 : L 10 = true → False := fun h => no9 (hc 10 _ rfl h ⟨9, .data⟩ (by simp) rfl)
      have no13 : L 13 = true → False := fun h => no10 (hc 13 _ rfl h ⟨10, .data⟩ (by simp) rfl)
      have hjs : ∀ j, j < 14 → L j = true → j ≠ 6 ∧ j ≠ 8 ∧ j ≠ 9 ∧ j ≠ 10 ∧ j < 13 := fun j hj hL => ⟨fun e => no6 (e ▸ hL), fun e => no8 (e ▸ hL), fun e => no9 (e ▸ hL), fun e => no10 (e ▸ hL), by
        have : j ≠ 13 := fun e => no13 (e ▸ hL)
        omega⟩
      obtain ⟨g, e22, hh, hB⟩ := hhas 0 11 rfl (hdep ⟨0, .data⟩ (by simp) rfl) hLi
      have x22 : A.eval (.tmp 11) = .slice (some ⟨g, 0, none⟩) 0 0 := e22
      have e23 : A.eval (.tmp 12) = .slice pv us.length cv := hhas 1 12 rfl (hdep ⟨1, .data⟩ (by simp) rfl)
      have own0 : W2.ownsRow wB.heap.size 38 6 (.slice (some ⟨g, 0, none⟩) 0 0) 0 [] := ⟨by simp, .inr ⟨g, 0, #[], rfl, hB, hh, Nat.le_refl _, by unfold maxLen; omega, by simp, by simp⟩⟩
      refine wpOp_step rfl (fun K hK => ?_)
      show Oper.wp _ _ _ _ _ _
      refine wp_append_in _ _ rfl wB.heap.size i0 hi HZ.out hz1 hz2 (.slice (some ⟨g, 0, none⟩) 0 0) 0 [] x22 own0 us pv cv e23 (HIN.out.below hJ) HP.out (by unfold maxLen; omega) (by omega) hJ.size ?_
      intro v' W' hown hgrow
      have hn : W'.ownsRow wB.heap.size 38 6 v' us.length (flatR us) := by simpa using hown
      refine hK _ _ ⟨v', rfl, fun _ => hn, hJ.grown hgrow hJ.size (fun q hq => ?_), fun j u hj hjl hLj hs => osq_grown hgrow (fun q hq => ?_) (fun _ => by simp) (fun e => absurd e hj) (fun _ => .inr ⟨fun h => (Bool.or_eq_false_iff.1 h).2, fun q hq hh' => ?_⟩) (hjs j hjl hLj) u hs⟩
      · have : g = q := Option.some.inj hq
        omega
      · have : g = q := Option.some.inj hq
        subst this
        exact ⟨_, hh⟩
      · have : g = q := Option.some.inj hq
        subst this
        rw [hh] at hh'
        injection hh' with hh'
        injection hh' with e1
        have := congrArg Array.size e1
        simp at this
    | 3, ho, hs, hLi =>
      cases Option.some.inj ho
      cases Option.some.inj hs
      have x6 : A.eval (.tmp 4) = .pointer (some ⟨w.heap.size, 0, none⟩) := hkept 4 (by kernel_rfl)
      have nW := (hJ.block _ (lt_of_block nE)).trans nE
      refine wpOp_step rfl (fun K hK => ?_)
      show Oper.wp _ _ _ _ _ _
      refine wp_load_row 25 _ rfl _ x6 _ _ _ _ nW exprType5 rfl (by kernel_rfl) ?_
      exact hK _ _ ⟨_, rfl, rfl, hJ, fun j u _ _ _ h => osq_below (fun k hk => (Bool.or_eq_false_iff.1 hk).2) (Below.refl _ _) j u h⟩
    | 4, ho, hs, hLi =>
      cases Option.some.inj ho
      cases Option.some.inj hs
      have h14 : A.tmps[14]?.getD undef = .agg #[.int .i64 e.kind, .int .i64 e.a, .int .i64 e.b, .string ⟨e.name.toArray⟩, .slice pe e.kids.length ce] := (gd A 14).trans (hhas 3 14 rfl (hdep ⟨3, .data⟩ (by simp) rfl))
      refine wpOp_step rfl (fun K hK => ?_)
      go_simp
      exact hK _ _ ⟨_, rfl, rfl, hJ, fun j u _ _ _ h => osq_below (fun k hk => (Bool.or_eq_false_iff.1 hk).2) (Below.refl _ _) j u h⟩
    | 5, ho, hs, hLi =>
      cases Option.some.inj ho
      cases Option.some.inj hs
      have h15 : A.tmps[15]?.getD undef = .agg #[.string ⟨zzn.toArray⟩, .int .i64 e.kind, .int .i64 e.a, .int .i64 e.b, .string ⟨e.name.toArray⟩, .slice pe e.kids.length ce] := (gd A 15).trans (hhas 4 15 rfl (hdep ⟨4, .data⟩ (by simp) rfl))
      have hsz := hJ.size
      have hb := (Below.refl W2.heap.size W2).alloc (Nat.le_refl _) (.cells #[.string ⟨zzn.toArray⟩, .int .i64 e.kind, .int .i64 e.a, .int .i64 e.b, .string ⟨e.name.toArray⟩, .slice pe e.kids.length ce] 38)
      have hnew := heap_alloc_new W2 (.cells #[.string ⟨zzn.toArray⟩, .int .i64 e.kind, .int .i64 e.a, .int .i64 e.b, .string ⟨e.name.toArray⟩, .slice pe e.kids.length ce] 38)
      refine wpOp_step rfl (fun K hK => ?_)
      go_simp
      exact hK _ _ ⟨_, rfl, fun _ => ⟨_, rfl, hnew⟩, hJ.trans (hb.mono hJ.size), fun j u _ _ _ h => osq_below (fun k hk => (Bool.or_eq_false_iff.1 hk).2) hb j u h⟩
    | 6, ho, hs, hLi =>
      cases Option.some.inj ho
      cases Option.some.inj hs
      have no8 : L 8 = true → False := fun h => by
        have := hc 8 _ rfl h ⟨6, .data⟩ (by simp) rfl
        rw [hLi] at this; cases this
      have no9 : L 9 = true → False := fun h => no8 (hc 9 _ rfl h ⟨8, .data⟩ (by simp) rfl)
      have no10 : L 10 = true → False := fun h => no9 (hc 10 _ rfl h ⟨9, .data⟩ (by simp) rfl)
      have no13 : L 13 = true → False := fun h => no10 (hc 13 _ rfl h ⟨10, .data⟩ (by simp) rfl)
      have hjs : ∀ j, j < 14 → j ≠ 6 → L j = true → j ≠ 6 ∧ j ≠ 8 ∧ j ≠ 9 ∧ j ≠ 10 ∧ j < 13 := fun j hj h7 hL => ⟨h7, fun e => no8 (e ▸ hL), fun e => no9 (e ▸ hL), fun e => no10 (e ▸ hL), by
        have : j ≠ 13 := fun e => no13 (e ▸ hL)
        omega⟩
      have hL2 := (hdep ⟨2, .data⟩ (by simp) rfl)
      have own2 := hhas 2 13 rfl hL2 hLi
      obtain ⟨g, e28, hh⟩ := hhas 5 16 rfl (hdep ⟨5, .data⟩ (by simp) rfl) hLi
      have x28 : A.eval (.tmp 16) = .slice (some ⟨g, 0, none⟩) 1 1 := e28
      have hlo := own2.lt
      have hty : ∀ q, (A.tmps.getD 13 undef).ownBlock = some q → ∃ cur, W2.heap[q]? = some (.cells cur 38 (0, 0)) := fun q hq => by
        obtain ⟨_, ho2⟩ := own2
        rcases ho2 with ⟨e2, _⟩ | ⟨gb, cap, cur, e2, _, hhb, _⟩
        · rw [e2] at hq; cases hq
        · rw [e2] at hq
          have e3 : gb = q := Option.some.inj hq
          subst e3
          exact ⟨cur, hhb⟩
      refine wpOp_step rfl (fun K hK => ?_)
      show Oper.wp _ _ _ _ _ _
      refine wp_append_own W2 _ _ 22 rfl wB.heap.size 38 i0 _ 6 80 rulesType hi HZ.out hz1 hz2 rfl (by decide) (A.tmps.getD 13 undef) us.length (flatR us) rfl own2 ⟨g, 0, none⟩ 1 1 #[.string ⟨zzn.toArray⟩, .int .i64 e.kind, .int .i64 e.a, .int .i64 e.b, .string ⟨e.name.toArray⟩, .slice pe e.kids.length ce].toList x28 rfl ?c1 ?c2 ?c3 ?c4 ?c5 ?_
      case c1 =>
        intro k u' hk'
        match k, hk' with
        | 0, hk' => cases hk'; exact (cell_of_row _ _ 0 _ _ _ hh).trans rfl
        | 1, hk' => cases hk'; exact (cell_of_row _ _ 1 _ _ _ hh).trans rfl
        | 2, hk' => cases hk'; exact (cell_of_row _ _ 2 _ _ _ hh).trans rfl
        | 3, hk' => cases hk'; exact (cell_of_row _ _ 3 _ _ _ hh).trans rfl
        | 4, hk' => cases hk'; exact (cell_of_row _ _ 4 _ _ _ hh).trans rfl
        | 5, hk' => cases hk'; exact (cell_of_row _ _ 5 _ _ _ hh).trans rfl
        | k + 6, hk' => simp at hk'
      case c2 =>
        intro u hu
        simp only [List.mem_cons, List.not_mem_nil, or_false] at hu
        rcases hu with rfl | rfl | rfl | rfl | rfl | rfl <;> rfl
      case c3 => unfold maxLen; omega
      case c4 => omega
      case c5 => exact hJ.size
      intro v' W' hown hgrow _
      have hn : W'.ownsRow wB.heap.size 38 6 v' us2.length (flatR us2) := by
        rw [HL2.out, ← HUS.out, flatR_snoc]
        exact hown
      exact hK _ _ ⟨v', rfl, hn, hJ.grown hgrow hJ.size (fun q hq => (hlo q hq).1), fun j u hj hjl hLj hs => osq_grown hgrow hty (fun _ => by simp [hL2]) (fun _ => by simp) (fun _ => .inl (by simp)) (hjs j hjl hj hLj) u hs⟩
    | 7, ho, hs, hLi =>
      cases Option.some.inj ho
      cases Option.some.inj hs
      have h2 : A.tmps[2]?.getD undef = .int .i64 day := (gd A 2).trans (hkept 2 (by kernel_rfl))
      refine wpOp_step rfl (fun K hK => ?_)
      go_simp
      exact hK _ _ ⟨_, rfl, rfl, hJ, fun j u _ _ _ h => osq_below (fun k hk => (Bool.or_eq_false_iff.1 hk).2) (Below.refl _ _) j u h⟩
    | 8, ho, hs, hLi =>
      cases Option.some.inj ho
      cases Option.some.inj hs
      have own7 := hhas 6 17 rfl (hdep ⟨6, .data⟩ (by simp) rfl)
      obtain ⟨v7, e29⟩ : ∃ v, A.tmps.getD 17 undef = v := ⟨_, rfl⟩
      rw [e29] at own7
      have h17 : A.tmps[17]?.getD undef = v7 := (gd A 17).trans e29
      have h18 : A.tmps[18]?.getD undef = .int .i64 day := (gd A 18).trans (hhas 7 18 rfl (hdep ⟨7, .data⟩ (by simp) rfl))
      have cM := HCM.out W2 v7 hJ own7
      refine wpOp_step rfl (fun K hK => ?_)
      go_simp
      refine cM.mono ?_
      rintro e' W' ⟨vm, rfl, hrow, hb'⟩
      exact hK _ _ ⟨_, rfl, ⟨vm, rfl, hrow⟩, hJ.trans (hb'.mono hJ.size), fun j u _ _ _ h => osq_below (fun k hk => (Bool.or_eq_false_iff.1 hk).2) hb' j u h⟩
    | 9, ho, hs, hLi =>
      cases Option.some.inj ho
      cases Option.some.inj hs
      obtain ⟨vm, e31, hrow⟩ := hhas 8 19 rfl (hdep ⟨8, .data⟩ (by simp) rfl)
      have h19 : A.tmps[19]?.getD undef = .tuple #[vm, .agg #[.int .i64 er2, .int .i64 at2]] := (gd A 19).trans e31
      refine wpOp_step rfl (fun K hK => ?_)
      go_simp
      exact hK _ _ ⟨_, rfl, ⟨vm, rfl, hrow⟩, hJ, fun j u _ _ _ h => osq_below (fun k hk => (Bool.or_eq_false_iff.1 hk).2) (Below.refl _ _) j u h⟩
    | 10, ho, hs, hLi =>
      cases Option.some.inj ho
      cases Option.some.inj hs
      obtain ⟨vm, e21, hrow⟩ := hhas 9 10 rfl (hdep ⟨9, .data⟩ (by simp) rfl)
      have h10 : A.tmps[10]?.getD undef = .tuple #[vm, .agg #[.int .i64 er2, .int .i64 at2]] := (gd A 10).trans e21
      refine wpOp_step rfl (fun K hK => ?_)
      go_simp
      exact hK _ _ ⟨_, rfl, hrow, hJ, fun j u _ _ _ h => osq_below (fun k hk => (Bool.or_eq_false_iff.1 hk).2) (Below.refl _ _) j u h⟩
    | 11, ho, hs, hLi =>
      cases Option.some.inj ho
      cases Option.some.inj hs
      obtain ⟨vm, e21, _⟩ := hhas 9 10 rfl (hdep ⟨9, .data⟩ (by simp) rfl)
      have h10 : A.tmps[10]?.getD undef = .tuple #[vm, .agg #[.int .i64 er2, .int .i64 at2]] := (gd A 10).trans e21
      refine wpOp_step rfl (fun K hK => ?_)
      go_simp
      exact hK _ _ ⟨_, rfl, rfl, hJ, fun j u _ _ _ h => osq_below (fun k hk => (Bool.or_eq_false_iff.1 hk).2) (Below.refl _ _) j u h⟩
    | 12, ho, hs, hLi =>
      cases Option.some.inj ho
      cases Option.some.inj hs
      have hsz := hJ.size
      have hb := (Below.refl W2.heap.size W2).alloc (Nat.le_refl _) (.cells #[.int .i64 0, .int .i64 0] 43)
      have hnew := heap_alloc_new W2 (.cells #[.int .i64 0, .int .i64 0] 43)
      refine wpOp_step rfl (fun K hK => ?_)
      go_simp
      exact hK _ _ ⟨_, rfl, ⟨_, rfl, hsz, hnew⟩, hJ.trans (hb.mono hJ.size), fun j u _ _ _ h => osq_below (fun k hk => (Bool.or_eq_false_iff.1 hk).2) hb j u h⟩
    | 13, ho, hs, hLi =>
      cases Option.some.inj ho
      cases Option.some.inj hs
      have hrow := hhas 10 20 rfl (hdep ⟨10, .data⟩ (by simp) rfl)
      obtain ⟨vm, e32⟩ : ∃ v, A.tmps.getD 20 undef = v := ⟨_, rfl⟩
      rw [e32] at hrow
      have h20 : A.tmps[20]?.getD undef = vm := (gd A 20).trans e32
      refine wpOp_step rfl (fun K hK => ?_)
      go_simp
      exact hK _ _ ⟨_, rfl, hrow, hJ, fun j u _ _ _ h => osq_below (fun k hk => (Bool.or_eq_false_iff.1 hk).2) (Below.refl _ _) j u h⟩
    | kk + 14, ho, hs, hLi => simp at hs
  · intro o' L W2 A ho hL hJ hhas hkept hput
    obtain ⟨g12, e9, b12, k12⟩ := hhas 12 9 rfl
    have e21 := hhas 11 21 rfl
    have hrb := hhas 13 8 rfl
    obtain ⟨x11, e11⟩ : ∃ x, A.tmps.getD 11 undef = x := ⟨_, rfl⟩
    obtain ⟨x12, e12⟩ : ∃ x, A.tmps.getD 12 undef = x := ⟨_, rfl⟩
    obtain ⟨x13, e13⟩ : ∃ x, A.tmps.getD 13 undef = x := ⟨_, rfl⟩
    obtain ⟨x14, e14⟩ : ∃ x, A.tmps.getD 14 undef = x := ⟨_, rfl⟩
    obtain ⟨x15, e15⟩ : ∃ x, A.tmps.getD 15 undef = x := ⟨_, rfl⟩
    obtain ⟨x16, e16⟩ : ∃ x, A.tmps.getD 16 undef = x := ⟨_, rfl⟩
    obtain ⟨x17, e17⟩ : ∃ x, A.tmps.getD 17 undef = x := ⟨_, rfl⟩
    obtain ⟨x18, e18⟩ : ∃ x, A.tmps.getD 18 undef = x := ⟨_, rfl⟩
    obtain ⟨x19, e19⟩ : ∃ x, A.tmps.getD 19 undef = x := ⟨_, rfl⟩
    obtain ⟨x10, e10⟩ : ∃ x, A.tmps.getD 10 undef = x := ⟨_, rfl⟩
    obtain ⟨x20, e20⟩ : ∃ x, A.tmps.getD 20 undef = x := ⟨_, rfl⟩
    obtain ⟨vb, e8⟩ : ∃ x, A.tmps.getD 8 undef = x := ⟨_, rfl⟩
    rw [e8] at hrb
    have hA : A = putAll [(11, x11), (12, x12), (13, x13), (14, x14), (15, x15), (16, x16), (17, x17), (18, x18), (19, x19), (10, x10), (20, x20), (21, .agg #[.int .i64 er2, .int .i64 at2]), (9, .pointer (some ⟨g12, 0, none⟩)), (8, vb)] _ := hput _ (by kernel_rfl) (fun j s v hj => match j, hj with
      | 0, hj => by cases Option.some.inj hj; exact e11
      | 1, hj => by cases Option.some.inj hj; exact e12
      | 2, hj => by cases Option.some.inj hj; exact e13
      | 3, hj => by cases Option.some.inj hj; exact e14
      | 4, hj => by cases Option.some.inj hj; exact e15
      | 5, hj => by cases Option.some.inj hj; exact e16
      | 6, hj => by cases Option.some.inj hj; exact e17
      | 7, hj => by cases Option.some.inj hj; exact e18
      | 8, hj => by cases Option.some.inj hj; exact e19
      | 9, hj => by cases Option.some.inj hj; exact e10
      | 10, hj => by cases Option.some.inj hj; exact e20
      | 11, hj => by cases Option.some.inj hj; exact e21
      | 12, hj => by cases Option.some.inj hj; exact e9
      | 13, hj => by cases Option.some.inj hj; exact e8
      | kk + 14, hj => by simp at hj)
    cases Option.some.inj ho
    have hx : A.eval (.tmp 9) = .pointer (some ⟨g12, 0, none⟩) := e9
    have hy : A.eval (.tmp 21) = .agg #[.int .i64 er2, .int .i64 at2] := e21
    have n6' := (hJ.block _ (lt_of_block n6)).trans n6
    have ng : g12 ≠ w.heap.size + 1 := fun e => by have := lt_of_block n6; omega
    have b15 := below_setRow hJ b12 #[.int .i64 er2, .int .i64 at2]
    have k12' := setRow_heap _ _ _ #[.int .i64 er2, .int .i64 at2] _ _ k12
    have k6' := (setRow_other W2 g12 _ #[.int .i64 er2, .int .i64 at2] (fun e => ng e.symm)).trans n6'
    have hrb' : RowM (W2.setRow g12 #[.int .i64 er2, .int .i64 at2]) vb fb := hrb.apart k12
    refine wpOp_step rfl (fun K hK => ?_)
    show Oper.wp _ _ _ _ _ _
    refine wp_store_row 43 _ _ rfl _ _ hx hy _ _ k12 (by kernel_rfl) (by simp) (by simp [Value.oneCell']) ?_
    refine hK _ _ ⟨⟨undef, rfl⟩, ?_⟩
    change Exit.then _ _ Exit.normal A _
    subst hA
    simp only [putAll_cons, putAll_nil, Act.put, List.setIfInBounds_toArray, List.set_cons_succ, List.set_cons_zero]
    clear hK hx hy hput hhas hkept e9 e21 k12 n6' hrb
    generalize W2.setRow g12 #[.int .i64 er2, .int .i64 at2] = W5 at *
    have hbw5 := bA.trans (b15.mono bA.size)
    have z12 := (cell_of_row _ _ 0 _ _ _ k12').trans rfl
    have HBF := hid5 hbw5
    clear b15 hbw5 hJ b12 ng k12' HCM HIN HUS nE
    by_cases h2 : er2 = 0
    · subst h2
      have hlb := meanL_len Her2.out
      rw [Hfb.out, List.length_append, HLL.out] at hlb
      obtain ⟨pb, cb, rfl, hb40, hrowb⟩ := hrb'
      obtain ⟨gq, oq, hpq, hrq⟩ := hrowb us.length (meanP (l ++ [(zzn, e)]) (wkB day) day us.length) (by
        rw [← Hfb.out, ← HLL.out]
        exact meanL_at Her2.out (by simp))
      subst hpq
      have HRQ := hid5 hrq
      rw [show fb.length = us.length + 1 by simpa using hlb] at *
      have h40 : (us.length : Int) + 1 ≤ 40 := by have := hb40.1; omega
      have HO : Hid (∀ cs, OutOf l e us.length day w (.returned (.tuple #[.agg (mv (meanP (l ++ [(zzn, e)]) (wkB day) day us.length)), .bool true])) (W5.setRow (w.heap.size + 1) cs)) := fun cs => .inl ⟨Her2.out, rfl, below_setRow HBF.out (by omega) _⟩
      have hlI : (us.length : Int) < (us.length : Int) + 1 := by omega
      clear hrowb hb40 hlb hrq Her2 Hfb
      generalize meanP (l ++ [(zzn, e)]) (wkB day) day us.length = F at *
      go_wp2_with (first
        | (refine wpList_load_mask rfl _ rfl gq (oq + us.length * 23) rfl F ?r ?_; (case r => exact HRQ.out))
        | (refine wpList_store_row rfl 29 _ _ rfl _ _ rfl rfl _ _ k6' (maskSize _) (by simp [mv_size]) (mv_all _) ?_))
      exact of_post (w.heap.size + 1) F true rfl rfl rfl (setRow_heap _ _ _ _ _ _ k6') (HO.out _)
    · have h2' : (er2 != 0) = true := by simpa using h2
      have HO : Hid (∀ cs, OutOf l e us.length day w (.returned (.tuple #[.agg (mv fun _ => false), .bool false])) (W5.setRow (w.heap.size + 1) cs)) := fun cs => .inr ⟨by rw [Her2.out]; exact h2, rfl, below_setRow HBF.out (by omega) _⟩
      clear h2 hrb' Her2 Hfb
      go_wp2_with (refine wpList_store_row rfl 29 _ _ rfl _ _ rfl rfl _ _ k6' (maskSize _) (by simp [mv_size]) (mv_all _) ?_)
      exact of_post (w.heap.size + 1) (fun _ => false) false rfl rfl rfl (setRow_heap _ _ _ _ _ _ k6') (HO.out _)
end Go.Proofs.YtllcpoibnmhghaaGreatDoor

/- What is weekly, and what has dates, beside rules: plain; and an expression put around another one. -/
namespace Go.Proofs.YtllcpoibnmhghaaGreatDoor
open Go.RowKit Lx Msk
theorem mflt_day {l : List Ru} {day : Int} (h : (mflt l day).1 = 0) : 0 ≤ day ∧ day < 146097 := by
  unfold mflt at h
  split at h
  · rename_i h1
    exact absurd h h1
  · split at h
    · cases h
    · omega
theorem last_at (l : List Ru) (u : Ru) : (l ++ [u])[l.length]? = some u := by simp
theorem of_eq {l : List Ru} {e : Ex} {day : Int} (h : (mflt (l ++ [(zzn, e)]) day).1 = 0) : meanP (l ++ [(zzn, e)]) (wkB day) day l.length = valE (wkB day) day (fun x => meanP (l ++ [(zzn, e)]) (wkB day) day (atP5 (l ++ [(zzn, e)]) x).toNat) e := meanP_eq (mflt_chk h) (last_at l _)
/-- A part means the same by itself. -/
theorem of_part {l : List Ru} {a e : Ex} {day : Int} (h : (mflt (l ++ [(zzn, a)]) day).1 = 0) (h' : (mflt (l ++ [(zzn, e)]) day).1 = 0) : valE (wkB day) day (fun x => meanP (l ++ [(zzn, e)]) (wkB day) day (atP5 (l ++ [(zzn, e)]) x).toNat) a = meanP (l ++ [(zzn, a)]) (wkB day) day l.length := by
  rw [of_eq h]
  refine (val_indep (mflt_chk h) (mflt_chk h') (last_at l _) (fun x => at_names x) (fun j hj => ?_) (e := a) (fun x hx => hx)).symm
  by_cases hlt : j < l.length
  · rw [List.getElem?_append_left hlt, List.getElem?_append_left hlt]
  · rw [List.getElem?_eq_none (by simp; omega), List.getElem?_eq_none (by simp; omega)]
theorem of_week {l : List Ru} {a : Ex} {set day : Int} (h : (mflt (l ++ [(zzn, a)]) day).1 = 0) (h' : (mflt (l ++ [(zzn, ⟨4, set, 0, [], [a]⟩)]) day).1 = 0) :
    meanP (l ++ [(zzn, ⟨4, set, 0, [], [a]⟩)]) (wkB day) day l.length = if wkB day set = true then meanP (l ++ [(zzn, a)]) (wkB day) day l.length else fun _ => false := by
  rw [← of_part h h', of_eq h', valE_eq]
  rfl
theorem of_dates {l : List Ru} {a : Ex} {x y day : Int} (h : (mflt (l ++ [(zzn, a)]) day).1 = 0) (h' : (mflt (l ++ [(zzn, ⟨5, x, y, [], [a]⟩)]) day).1 = 0) :
    meanP (l ++ [(zzn, ⟨5, x, y, [], [a]⟩)]) (wkB day) day l.length = if x ≤ day ∧ day ≤ y then meanP (l ++ [(zzn, a)]) (wkB day) day l.length else fun _ => false := by
  rw [← of_part h h', of_eq h', valE_eq]
  rfl
/-- An expression around another one. -/
theorem ruleIn_wrap {W : World} {nm : List UInt8} {e : Ex} {pe : Option Addr} {ce g : Nat} (kd x y : Int) (h : RuleIn W ((nm, e), .slice pe e.kids.length ce)) (hg : W.heap[g]? = some (.cells #[.int .i64 e.kind, .int .i64 e.a, .int .i64 e.b, .string ⟨e.name.toArray⟩, .slice pe e.kids.length ce] 25 (0, 0))) :
    RuleIn W ((zzn, ⟨kd, x, y, [], [e]⟩), .slice (some ⟨g, 0, none⟩) 1 1) := by
  obtain ⟨_, h2, d, h3⟩ := h
  refine ⟨by show zzn.length ≤ _; decide, by show ([] : List UInt8).length ≤ _; decide, d + 1, .inr ⟨g, 0, 1, lt_of_block hg, rfl, by show 1 < _; decide, fun j k hj => ?_⟩⟩
  match j, hj with
  | 0, hj =>
    cases hj
    exact ⟨h2, _, (cell_of_row _ _ 0 _ _ _ hg).trans rfl, (cell_of_row _ _ 1 _ _ _ hg).trans rfl, (cell_of_row _ _ 2 _ _ _ hg).trans rfl, (cell_of_row _ _ 3 _ _ _ hg).trans rfl, (cell_of_row _ _ 4 _ _ _ hg).trans rfl, h3⟩
  | j + 1, hj => simp at hj
theorem OutOf.flat {l : List Ru} {e : Ex} {n : Nat} {day : Int} {w w' : World} {r : Ending} (h : OutOf l e n day w r w') : ∃ (f : Nat → Bool) (ok : Bool), r = .returned (.tuple #[.agg (mv f), .bool ok]) ∧ (ok = true → (mflt (l ++ [(zzn, e)]) day).1 = 0 ∧ f = meanP (l ++ [(zzn, e)]) (wkB day) day n) ∧ Below w.heap.size w w' := by
  rcases h with ⟨h1, h2, h3⟩ | ⟨h1, h2, h3⟩
  · exact ⟨_, true, h2, fun _ => ⟨h1, rfl⟩, h3⟩
  · exact ⟨_, false, h2, fun e => (by cases e), h3⟩
end Go.Proofs.YtllcpoibnmhghaaGreatDoor
