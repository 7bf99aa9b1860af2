/- The machine in memory; put and take. Written by gencwa.py. -/
import Derived.Test.YtpmobjgnmidolaaGreatDoorDz06
import Derived.Deep.AppendSrc
import Derived.Test.YtpmobjgnmidolaaGreatDoorDz03
import Derived.Test.YtpmobjgnmidolaaGreatDoorDz02
import Derived.Test.YtpmobjgnmidolaaGreatDoorDz05
import Derived.Test.YtpmobjgnmidolaaGreatDoorDz04
import Derived.OwnWalk
namespace Go.Proofs.YtpmobjgnmidolaaGreatDoor
open Go.RowKit Msk Vx
def iv (f : In × Value) : Array Value := #[.int .i64 f.1.op, .int .i64 f.1.a, .int .i64 f.1.b, .int .i64 f.1.to, f.2]
def flatI (S : List (In × Value)) : List Value := S.flatMap fun f => (iv f).toList
theorem flatI_len : ∀ S : List (In × Value), (flatI S).length = S.length * 5
  | [] => rfl
  | f :: S => by
    have := flatI_len S
    unfold flatI at this ⊢
    rw [List.flatMap_cons, List.length_append, this]
    have h : (iv f).toList.length = 5 := rfl
    rw [h, List.length_cons]
    omega
theorem flatI_snoc (S : List (In × Value)) (f : In × Value) : flatI (S ++ [f]) = flatI S ++ (iv f).toList := by
  unfold flatI
  rw [List.flatMap_append]
  simp
structure WsC (w0 : World) (gm : Nat) (mp : Value) (S : List (In × Value)) (W : World) : Prop where
  bel : Below w0.heap.size w0 W
  gt : w0.heap.size ≤ gm
  row : ∃ sv, W.heap[gm]? = some (.cells #[mp, sv] 53 (0, 0)) ∧ W.ownsRow w0.heap.size 46 5 sv S.length (flatI S)
theorem WsC.below {w0 W W' : World} {gm : Nat} {mp : Value} {S : List (In × Value)} (h : WsC w0 gm mp S W) (hb : Below W.heap.size W W') : WsC w0 gm mp S W' := by
  obtain ⟨h1, h2, sv, h3, h4⟩ := h
  exact ⟨h1.trans (hb.mono h1.size), h2, sv, (hb.block _ (lt_of_block h3)).trans h3, own_below h4 hb⟩
theorem own_neI {w : World} {base n : Nat} {sv : Value} {xs : List Value} {g : Nat} {cs : Array Value} {T : TypeId} (h : w.ownsRow base 46 5 sv n xs) (hg : w.heap[g]? = some (.cells cs T (0, 0))) (hT : T ≠ 46) : some g ≠ sv.ownBlock := by
  rcases h.2 with ⟨e, _⟩ | ⟨b, cap, cur, e, _, hb, _⟩
  · rw [e]; simp [Value.ownBlock]
  · rw [e]
    intro q
    have q' : g = b := by simpa [Value.ownBlock] using q
    subst q'
    rw [hg] at hb
    injection hb with hb
    injection hb with _ h2 _
    exact hT h2
theorem own_sliceI {w : World} {base n : Nat} {sv : Value} {xs : List Value} (h : w.ownsRow base 46 5 sv n xs) : ∃ p c, sv = .slice p n c := by
  rcases h.2 with ⟨e, e2⟩ | ⟨b, cap, cur, e, _⟩
  · exact ⟨none, 0, by rw [e, e2]⟩
  · exact ⟨_, cap, e⟩
theorem insInfoW : (Tryz.prog.info? 46).map (fun i => (i.zero, i.size, i.bytes)) = some (some (.agg #[.int .i64 0, .int .i64 0, .int .i64 0, .int .i64 0, .slice none 0 0]), 5, 56) := by kernel_rfl
theorem inssTypeW : Tryz.prog.underlying 30 = some (.slice 46) := by kernel_rfl
def rowB (gm : Nat) (W : World) : Option Nat := match W.cell? ⟨gm, 1, none⟩ with
  | some v => v.ownBlock
  | none => none
theorem rowB_at {gm : Nat} {W : World} {mp sv : Value} (h : W.heap[gm]? = some (.cells #[mp, sv] 53 (0, 0))) : rowB gm W = sv.ownBlock := by
  unfold rowB
  rw [cell_of_row _ _ 1 _ _ _ h]
  rfl
structure Fr2 (gm : Nat) (W W' : World) : Prop where
  blk : ∀ q, q < W.heap.size → q ≠ gm → rowB gm W ≠ some q → W'.heap[q]? = W.heap[q]?
  row : rowB gm W' = rowB gm W ∨ ∃ g, rowB gm W' = some g ∧ W.heap.size ≤ g
  size : W.heap.size ≤ W'.heap.size
theorem Fr2.trans {gm : Nat} {w w' w'' : World} (h : Fr2 gm w w') (h' : Fr2 gm w' w'') : Fr2 gm w w'' := by
  refine ⟨fun q hq hne hr => ?_, ?_, Nat.le_trans h.size h'.size⟩
  · refine (h'.blk q (Nat.lt_of_lt_of_le hq h.size) hne ?_).trans (h.blk q hq hne hr)
    rcases h.row with e | ⟨g, e, hg⟩
    · rw [e]; exact hr
    · rw [e]; intro e2; injection e2 with e2; omega
  · rcases h'.row with e | ⟨g, e, hg⟩
    · rw [e]; exact h.row
    · exact .inr ⟨g, e, Nat.le_trans h.size hg⟩
theorem Fr2.below {gm : Nat} {w w' : World} (hg : gm < w.heap.size) (hb : Below w.heap.size w w') : Fr2 gm w w' := by
  refine ⟨fun q hq _ _ => hb.block q hq, .inl ?_, hb.size⟩
  unfold rowB
  rw [World.cell?_of_block (a := ⟨gm, 1, none⟩) (hb.block gm hg)]
theorem app_block {w : World} {base n : Nat} {v x : Value} {xs news : List Value} (hown : w.ownsRow base 46 5 v n xs) (hs : Src Tryz.prog 5 30 x 1 news w) (hn : n ≤ 1000) (ty : TypeId) {v' : Value} {w' : World} (hr : (Builtin.append_ #[30, 30] ty #[v, x]).run Tryz.prog w = .ok v' w') : v'.ownBlock = v.ownBlock ∨ ∃ g, v'.ownBlock = some g ∧ w.heap.size ≤ g := by
  obtain ⟨i0, hi, hz0, hz1, hz2⟩ := info_parts insInfoW
  have hs' : Src Tryz.prog i0.size 30 x 1 news w := by rw [hz1]; exact hs
  have grow : ∀ (bs : Option Addr) (sc : Nat) (olds : List Value), v = .slice bs n sc → sc < n + 1 → (Builtin.firstCells i0.size n (.slice bs n sc)).run Tryz.prog w.drew = .ok olds.toArray w.drew → v'.ownBlock = v.ownBlock ∨ ∃ g, v'.ownBlock = some g ∧ w.heap.size ≤ g := by
    rintro bs sc olds rfl hg hold
    have hrun := run_append_grow_src (P := Tryz.prog) w 30 30 ty 46 i0 _ inssTypeW hi hz0 bs n sc olds hold x 1 news hs' hg (by omega) (growslice_fits hg (by rw [hz2]; omega))
    rw [hr] at hrun
    injection hrun with e1 _
    rw [e1]
    exact .inr ⟨w.heap.size, rfl, Nat.le_refl _⟩
  rcases hown.2 with ⟨e, e2⟩ | ⟨g, cap, cur, e, _, hg, hnc, _, hcs, htake⟩
  · subst e2
    exact grow none 0 [] e (by omega) (run_firstCells_none w.drew i0.size 0 0 0)
  · by_cases hfit : n + 1 ≤ cap
    · subst e
      have hlen : news.length = 1 * 5 := hs.newsLen
      have hrow : ∀ j, j < news.length → (w.cell? ⟨g, 0 + n * i0.size + j, none⟩).isSome = true ∧ w.frozen? ⟨g, 0 + n * i0.size + j, none⟩ = false := fun j hj => by
        rw [hz1]
        have hjs : 0 + n * 5 + j < cur.size := by rw [hcs]; omega
        exact ⟨by rw [cell_of_row _ _ _ _ _ _ hg, Array.getElem?_eq_getElem hjs]; rfl, frozen_of_row _ _ _ _ _ hg⟩
      have hrun := run_append_room_src (P := Tryz.prog) w 30 30 ty 46 i0 inssTypeW hi g 0 n cap x 1 news hs' hfit (fun j hj => (hrow j hj).1) (fun j hj => (hrow j hj).2)
      rw [hr] at hrun
      injection hrun with e1 _
      rw [e1]
      exact .inl rfl
    · refine grow (some ⟨g, 0, none⟩) cap xs e (by omega) ?_
      rw [hz1]
      refine run_firstCells_some w.drew 5 n ⟨g, 0, none⟩ n cap xs hown.1 (fun j u hu => ?_)
      rw [Addr.add_lit, Nat.zero_add]
      have hj : j < n * 5 := by
        have := (List.getElem?_eq_some_iff.1 hu).1
        rw [hown.1] at this
        exact this
      refine (cell_of_row _ _ _ _ _ _ hg).trans ?_
      rw [← htake, List.getElem?_take_of_lt hj, Array.getElem?_toList] at hu
      exact hu
theorem wp_append_I {op : Oper} {a : Act} {w : World} {K : Act → World → Prop} {Q : Exit → Act → World → Prop} (s x : Operand) (ho : op.op = .call { callee := .builtin .append, args := #[s, x], argTypes := #[30, 30] }) (base : Nat) (v : Value) (n : Nat) (xs : List Value) (hs : a.eval s = v) (hown : w.ownsRow base 46 5 v n xs) (g : Nat) (news : List Value) (hx : a.eval x = .slice (some ⟨g, 0, none⟩) 1 1) (hl : news.length = 5)
    (hnews : ∀ j u, news[j]? = some u → w.cell? ((⟨g, 0, none⟩ : Addr).add j) = some u) (h1 : ∀ u ∈ news, u.oneCell' = true) (hn : n ≤ 1000) (hb : base ≤ w.heap.size)
    (h : ∀ v' w', w'.ownsRow base 46 5 v' (n + 1) (xs ++ news) → w.grownBy w' v.ownBlock → (v'.ownBlock = v.ownBlock ∨ ∃ g, v'.ownBlock = some g ∧ w.heap.size ≤ g) → K (a.put op.dst v') w') : op.wp Tryz.prog a w K Q := by
  obtain ⟨i0, hi, hz0, hz1, hz2⟩ := info_parts insInfoW
  obtain ⟨v', w', hr, h2, h3, _⟩ := run_append_own (P := Tryz.prog) (w := w) base 30 op.type 46 i0 _ 5 56 inssTypeW hi hz0 hz1 hz2 rfl (by decide) v n xs hown ⟨g, 0, none⟩ 1 1 news hl hnews h1 (by unfold maxLen; omega) (by omega) hb
  have hblk := app_block hown (Src.ofSlice w inssTypeW ⟨g, 0, none⟩ 1 1 news hl hnews h1) hn op.type hr
  unfold Oper.wp
  simp [execOp, ho, resolve, invoke, builtin, hs, hx, hr, Result.andThen]
  exact h v' w' h2 h3 hblk
theorem insTypeW : Tryz.prog.underlying 46 = some (.struct (Tryz.prog.fieldsOf 46)) := by kernel_rfl
theorem ivl_len (f : In × Value) : (iv f).toList.length = 5 := rfl
theorem iv_all {f : In × Value} (h : ∃ p n c, f.2 = .slice p n c) : (iv f).all (·.oneCell') = true := by
  obtain ⟨p, n, c, e⟩ := h
  unfold iv
  rw [e]
  simp [Value.oneCell']
theorem buildI (f : In × Value) (h : ∃ p n c, f.2 = .slice p n c) (W : World) : (Instr.buildSlice 30 1 #[(0, .agg (iv f))]).run Tryz.prog W = .ok (.slice (some ⟨W.heap.size, 0, none⟩) 1 1) (W.alloc (.cells (iv f) 46)) := by
  obtain ⟨p, n, c, e⟩ := h
  unfold iv
  rw [e]
  kernel_rfl
theorem wp_buildI {op : Oper} {a : Act} {w : World} {K : Act → World → Prop} {Q : Exit → Act → World → Prop} (x : Operand) (ho : op.op = .buildSlice 30 1 #[(0, x)]) (f : In × Value) (hf : ∃ p n c, f.2 = .slice p n c) (hx : a.eval x = .agg (iv f)) (h : K (a.put op.dst (.slice (some ⟨w.heap.size, 0, none⟩) 1 1)) (w.alloc (.cells (iv f) 46))) : op.wp Tryz.prog a w K Q := by
  unfold Oper.wp execOp
  have hb := buildI f hf w
  simp only [ho, hx, List.map_toArray, List.map_cons, List.map_nil, Sem.run_bind, Sem.run_pure, Result.andThen_ok, hb]
  exact h
structure PutJI (base : Nat) (sv : Value) (n : Nat) (xs : List Value) (W1 : World) (L : Nat → Bool) (W : World) : Prop where
  grown : W1.grownBy W sv.ownBlock
  own : L 7 = false → W.ownsRow base 46 5 sv n xs
def pspI (base gm : Nat) (sv : Value) (n : Nat) (xs : List Value) (f : In × Value) (lo : Nat) (L : Nat → Bool) (i : Nat) (v : Value) (W : World) : Prop := match i with
  | 0 => v = .pointer (some ⟨gm, 0, none⟩)
  | 1 => v = .pointer (some ⟨gm, 0, none⟩)
  | 2 => v = .pointer (some ⟨gm, 0, none⟩)
  | 3 => v = .pointer (some ⟨gm, 1, none⟩)
  | 4 => v = sv
  | 5 => v = .agg (iv f)
  | 6 => ∃ g, v = .slice (some ⟨g, 0, none⟩) 1 1 ∧ (L 7 = false → W.heap[g]? = some (.cells (iv f) 46 (0, 0)) ∧ lo ≤ g)
  | 7 => W.ownsRow base 46 5 v (n + 1) (xs ++ (iv f).toList) ∧ (v.ownBlock = sv.ownBlock ∨ ∃ g, v.ownBlock = some g ∧ lo ≤ g)
  | 8 => v = .pointer (some ⟨gm, 0, none⟩)
  | 9 => v = .pointer (some ⟨gm, 1, none⟩)
  | _ => True
theorem pspI_keep {base gm n lo : Nat} {sv : Value} {xs : List Value} {f : In × Value} {L L' : Nat → Bool} (hL : L' 7 = false → L 7 = false) {W W' : World} (hb : Below W.heap.size W W') : ∀ (j : Nat) (u : Value), pspI base gm sv n xs f lo L j u W → pspI base gm sv n xs f lo L' j u W'
  | 0, _, h => h
  | 1, _, h => h
  | 2, _, h => h
  | 3, _, h => h
  | 4, _, h => h
  | 5, _, h => h
  | 6, _, ⟨g, h1, h2⟩ => ⟨g, h1, fun e => ⟨(hb.block _ (lt_of_block (h2 (hL e)).1)).trans (h2 (hL e)).1, (h2 (hL e)).2⟩⟩
  | 7, _, h => ⟨own_below h.1 hb, h.2⟩
  | 8, _, h => h
  | 9, _, h => h
  | _ + 10, _, h => h
theorem pspI_app {base gm n lo : Nat} {sv : Value} {xs : List Value} {f : In × Value} {L : Nat → Bool} {W W' : World} {j0 : Nat} (hj : j0 ≠ 7) : ∀ (j : Nat), j = j0 → ∀ (u : Value), pspI base gm sv n xs f lo L j u W → pspI base gm sv n xs f lo (fun k => decide (7 = k) || L k) j u W'
  | 0, _, _, h => h
  | 1, _, _, h => h
  | 2, _, _, h => h
  | 3, _, _, h => h
  | 4, _, _, h => h
  | 5, _, _, h => h
  | 6, _, _, ⟨g, h1, _⟩ => ⟨g, h1, fun e => by simp at e⟩
  | 7, e, _, _ => absurd e.symm hj
  | 8, _, _, h => h
  | 9, _, _, h => h
  | _ + 10, _, _, h => h
set_option maxRecDepth 100000 in
set_option maxHeartbeats 4000000 in
theorem wput_any (w0 : World) (gm : Nat) (mp : Value) (S : List (In × Value)) (f : In × Value) (W : World) (h : WsC w0 gm mp S W) (hS : S.length ≤ 1000) (hf : ∃ p n c, f.2 = .slice p n c) :
    Calls Tryz.prog 25 #[.pointer (some ⟨gm, 0, none⟩), .agg (iv f)] W fun e W' => e = .returned (.tuple #[]) ∧ WsC w0 gm mp (S ++ [f]) W' ∧ (∀ (q : Nat) (c : Array Value) (T : TypeId), W.heap[q]? = some (.cells c T (0, 0)) → T ≠ 46 → q ≠ gm → W'.heap[q]? = some (.cells c T (0, 0))) ∧ Fr2 gm W W' := by
  obtain ⟨hbel, hgt, sv, nM0, own0⟩ := h
  obtain ⟨i0, hi, hz0, hz1, hz2⟩ := info_parts insInfoW
  have HZ := hidv hz0
  have HFS0 := hidv hf
  clear hf
  have bB := (Below.refl W.heap.size W).alloc (Nat.le_refl _) (.cells (iv f) 46)
  have nB0 := heap_alloc_new W (.cells (iv f) 46)
  have nM := (bB.block _ (lt_of_block nM0)).trans nM0
  have own1 := own_below own0 bB
  have HRB := hidv (rowB_at nM0)
  have HBW : Hid (∀ q, q < W.heap.size → (W.alloc (.cells (iv f) 46)).heap[q]? = W.heap[q]?) := fun q hq => bB.block q hq
  have HSW : Hid (W.heap.size ≤ (W.alloc (.cells (iv f) 46)).heap.size) := bB.size
  have hneM := own_neI own1 nM (by decide)
  have hneB : some W.heap.size ≠ sv.ownBlock := fun e => by
    have := (own0.lt _ e.symm).2
    omega
  have hb1 := hbel.trans (bB.mono hbel.size)
  have hb0 := hb1.size
  obtain ⟨p0, c0, hsv⟩ := own_sliceI own0
  subst hsv
  have HFR : Hid (∀ (q : Nat) (c : Array Value) (T : TypeId), W.heap[q]? = some (.cells c T (0, 0)) → (W.alloc (.cells (iv f) 46)).heap[q]? = some (.cells c T (0, 0))) := fun q c T hq => (bB.block _ (lt_of_block hq)).trans hq
  obtain ⟨gb, hgb⟩ : ∃ b, W.heap.size = b := ⟨_, rfl⟩
  generalize hwB : W.alloc (.cells (iv f) 46) = wB at *
  rw [hgb] at hneB
  have nB : wB.heap[gb]? = some (.cells (iv f) 46 (0, 0)) := by rw [← hgb]; exact nB0
  clear hz0 nB0 nM0 own0 bB hbel
  go_enter Tryz.func25, Tryz.ntmps25
  go_wp2_with fail
  clear hwB
  refine wp_region_lastR (PutJI w0.heap.size (.slice p0 S.length c0) S.length (flatI S) wB) (pspI w0.heap.size gm (.slice p0 S.length c0) S.length (flatI S) f wB.heap.size) (fun L _ => ⟨⟨rfl, rfl, rfl, Nat.le_refl _, fun _ _ _ => rfl⟩, fun _ => own1⟩) (by kernel_rfl) (by kernel_rfl) (by kernel_rfl) (by kernel_rfl) 10 (by kernel_rfl) (by kernel_rfl) [4, 5, 6, 7, 8, 9, 10, 11, 12, 13] (by kernel_rfl) (by kernel_rfl) ?_ ?_
  · intro i' s o' L A W2 ho hs hLi hdep hc hJ hkept hhas
    match i', ho, hs, hLi with
    | 0, ho, hs, hLi =>
      cases Option.some.inj ho
      cases Option.some.inj hs
      have h0 : A.tmps[0]?.getD undef = .pointer (some ⟨gm, 0, none⟩) := (gd A 0).trans (hkept 0 (by kernel_rfl))
      refine wpOp_step rfl (fun K hK => ?_)
      go_simp
      exact hK _ _ ⟨_, rfl, rfl, ⟨hJ.grown, fun e => hJ.own ((Bool.or_eq_false_iff.1 e).2)⟩, fun j u _ _ _ h => pspI_keep (fun e => (Bool.or_eq_false_iff.1 e).2) (Below.refl _ _) j u h⟩
    | 1, ho, hs, hLi =>
      cases Option.some.inj ho
      cases Option.some.inj hs
      have h0 : A.tmps[0]?.getD undef = .pointer (some ⟨gm, 0, none⟩) := (gd A 0).trans (hkept 0 (by kernel_rfl))
      refine wpOp_step rfl (fun K hK => ?_)
      go_simp
      exact hK _ _ ⟨_, rfl, rfl, ⟨hJ.grown, fun e => hJ.own ((Bool.or_eq_false_iff.1 e).2)⟩, fun j u _ _ _ h => pspI_keep (fun e => (Bool.or_eq_false_iff.1 e).2) (Below.refl _ _) j u h⟩
    | 2, ho, hs, hLi =>
      cases Option.some.inj ho
      cases Option.some.inj hs
      have h5 : A.tmps[5]?.getD undef = .pointer (some ⟨gm, 0, none⟩) := (gd A 5).trans (hhas 1 5 rfl (hdep ⟨1, .data⟩ (by simp) rfl))
      refine wpOp_step rfl (fun K hK => ?_)
      go_simp
      exact hK _ _ ⟨_, rfl, rfl, ⟨hJ.grown, fun e => hJ.own ((Bool.or_eq_false_iff.1 e).2)⟩, fun j u _ _ _ h => pspI_keep (fun e => (Bool.or_eq_false_iff.1 e).2) (Below.refl _ _) j u h⟩
    | 3, ho, hs, hLi =>
      cases Option.some.inj ho
      cases Option.some.inj hs
      have h6 : A.tmps[6]?.getD undef = .pointer (some ⟨gm, 0, none⟩) := (gd A 6).trans (hhas 2 6 rfl (hdep ⟨2, .data⟩ (by simp) rfl))
      refine wpOp_step rfl (fun K hK => ?_)
      go_simp
      exact hK _ _ ⟨_, rfl, rfl, ⟨hJ.grown, fun e => hJ.own ((Bool.or_eq_false_iff.1 e).2)⟩, fun j u _ _ _ h => pspI_keep (fun e => (Bool.or_eq_false_iff.1 e).2) (Below.refl _ _) j u h⟩
    | 4, ho, hs, hLi =>
      cases Option.some.inj ho
      cases Option.some.inj hs
      have h7 : A.tmps[7]?.getD undef = .pointer (some ⟨gm, 1, none⟩) := (gd A 7).trans (hhas 3 7 rfl (hdep ⟨3, .data⟩ (by simp) rfl))
      have nM2 := (hJ.grown.block _ (lt_of_block nM) hneM).trans nM
      have z2 := (cell_of_row _ _ 1 _ _ _ nM2).trans rfl
      refine wpOp_step rfl (fun K hK => ?_)
      go_simp
      exact hK _ _ ⟨_, rfl, rfl, ⟨hJ.grown, fun e => hJ.own ((Bool.or_eq_false_iff.1 e).2)⟩, fun j u _ _ _ h => pspI_keep (fun e => (Bool.or_eq_false_iff.1 e).2) (Below.refl _ _) j u h⟩
    | 5, ho, hs, hLi =>
      cases Option.some.inj ho
      cases Option.some.inj hs
      have x3 : A.eval (.tmp 3) = .pointer (some ⟨gb, 0, none⟩) := hkept 3 (by kernel_rfl)
      have nB2 := (hJ.grown.block _ (lt_of_block nB) hneB).trans nB
      refine wpOp_step rfl (fun K hK => ?_)
      show Oper.wp _ _ _ _ _ _
      refine wp_load_row 46 _ rfl _ x3 _ _ _ _ nB2 insTypeW rfl (by kernel_rfl) ?_
      exact hK _ _ ⟨_, rfl, rfl, ⟨hJ.grown, fun e => hJ.own ((Bool.or_eq_false_iff.1 e).2)⟩, fun j u _ _ _ h => pspI_keep (fun e => (Bool.or_eq_false_iff.1 e).2) (Below.refl _ _) j u h⟩
    | 6, ho, hs, hLi =>
      cases Option.some.inj ho
      cases Option.some.inj hs
      have x9 : A.eval (.tmp 9) = .agg (iv f) := hhas 5 9 rfl (hdep ⟨5, .data⟩ (by simp) rfl)
      have hb := (Below.refl W2.heap.size W2).alloc (Nat.le_refl _) (.cells (iv f) 46)
      have hnew := heap_alloc_new W2 (.cells (iv f) 46)
      have hsz := hJ.grown.size
      have no7 : L 7 = false := by
        cases h : L 7 with
        | false => rfl
        | true =>
          have := hc 7 _ rfl h ⟨6, .data⟩ (by simp) rfl
          rw [hLi] at this; cases this
      refine wpOp_step rfl (fun K hK => ?_)
      show Oper.wp _ _ _ _ _ _
      refine wp_buildI _ rfl f HFS0.out x9 ?_
      exact hK _ _ ⟨_, rfl, ⟨W2.heap.size, rfl, fun _ => ⟨hnew, hsz⟩⟩, ⟨grown_below hJ.grown hb, fun e => own_below (hJ.own no7) hb⟩, fun j u _ _ _ h => pspI_keep (fun e => (Bool.or_eq_false_iff.1 e).2) hb j u h⟩
    | 7, ho, hs, hLi =>
      cases Option.some.inj ho
      cases Option.some.inj hs
      obtain ⟨g, e10, hx⟩ := hhas 6 10 rfl (hdep ⟨6, .data⟩ (by simp) rfl)
      obtain ⟨hh, hlo⟩ := hx hLi
      have x10 : A.eval (.tmp 10) = .slice (some ⟨g, 0, none⟩) 1 1 := e10
      have x8 : A.eval (.tmp 8) = .slice p0 S.length c0 := hhas 4 8 rfl (hdep ⟨4, .data⟩ (by simp) rfl)
      refine wpOp_step rfl (fun K hK => ?_)
      show Oper.wp _ _ _ _ _ _
      refine wp_append_I _ _ rfl w0.heap.size (.slice p0 S.length c0) S.length (flatI S) x8 (hJ.own hLi) g (iv f).toList x10 (ivl_len f) ?c1 ?c2 (by omega) ?c5 ?_
      case c1 =>
        intro q u hq
        rw [in_add9]
        exact (cell_of_row _ _ _ _ _ _ hh).trans (by rw [Nat.zero_add, ← Array.getElem?_toList]; exact hq)
      case c2 =>
        intro u hu
        have := iv_all HFS0.out
        rw [Array.all_eq_true_iff_forall_mem] at this
        exact this u (Array.mem_def.2 hu)
      case c5 => exact Nat.le_trans hb0 hJ.grown.size
      intro v' W' hown hgrow hblk
      have hblk2 : v'.ownBlock = (Value.slice p0 S.length c0).ownBlock ∨ ∃ g, v'.ownBlock = some g ∧ wB.heap.size ≤ g := hblk.imp id fun ⟨g, e, hg⟩ => ⟨g, e, Nat.le_trans hJ.grown.size hg⟩
      exact hK _ _ ⟨v', rfl, ⟨hown, hblk2⟩, ⟨grown_trans hJ.grown hgrow, fun e => by simp at e⟩, fun j u hj _ _ h => pspI_app hj j rfl u h⟩
    | 8, ho, hs, hLi =>
      cases Option.some.inj ho
      cases Option.some.inj hs
      have h4 : A.tmps[4]?.getD undef = .pointer (some ⟨gm, 0, none⟩) := (gd A 4).trans (hhas 0 4 rfl (hdep ⟨0, .data⟩ (by simp) rfl))
      refine wpOp_step rfl (fun K hK => ?_)
      go_simp
      exact hK _ _ ⟨_, rfl, rfl, ⟨hJ.grown, fun e => hJ.own ((Bool.or_eq_false_iff.1 e).2)⟩, fun j u _ _ _ h => pspI_keep (fun e => (Bool.or_eq_false_iff.1 e).2) (Below.refl _ _) j u h⟩
    | 9, ho, hs, hLi =>
      cases Option.some.inj ho
      cases Option.some.inj hs
      have h12 : A.tmps[12]?.getD undef = .pointer (some ⟨gm, 0, none⟩) := (gd A 12).trans (hhas 8 12 rfl (hdep ⟨8, .data⟩ (by simp) rfl))
      refine wpOp_step rfl (fun K hK => ?_)
      go_simp
      exact hK _ _ ⟨_, rfl, rfl, ⟨hJ.grown, fun e => hJ.own ((Bool.or_eq_false_iff.1 e).2)⟩, fun j u _ _ _ h => pspI_keep (fun e => (Bool.or_eq_false_iff.1 e).2) (Below.refl _ _) j u h⟩
    | kk + 10, ho, hs, hLi => simp at hs
  · intro o' L W2 A ho hL hJ hhas hkept hput
    cases Option.some.inj ho
    have own7 : W2.ownsRow w0.heap.size 46 5 (A.tmps.getD 11 undef) (S.length + 1) (flatI S ++ (iv f).toList) := (hhas 7 11 rfl).1
    have blk7 : (A.tmps.getD 11 undef).ownBlock = (Value.slice p0 S.length c0).ownBlock ∨ ∃ g, (A.tmps.getD 11 undef).ownBlock = some g ∧ wB.heap.size ≤ g := (hhas 7 11 rfl).2
    obtain ⟨v7, ev7⟩ : ∃ v, A.tmps.getD 11 undef = v := ⟨_, rfl⟩
    rw [ev7] at own7 blk7
    obtain ⟨p7, c7, hv7⟩ := own_sliceI own7
    subst hv7
    obtain ⟨x4, e4⟩ : ∃ x, A.tmps.getD 4 undef = x := ⟨_, rfl⟩
    obtain ⟨x5, e5⟩ : ∃ x, A.tmps.getD 5 undef = x := ⟨_, rfl⟩
    obtain ⟨x6, e6⟩ : ∃ x, A.tmps.getD 6 undef = x := ⟨_, rfl⟩
    obtain ⟨x7, e7⟩ : ∃ x, A.tmps.getD 7 undef = x := ⟨_, rfl⟩
    obtain ⟨x8, e8⟩ : ∃ x, A.tmps.getD 8 undef = x := ⟨_, rfl⟩
    obtain ⟨x9, e9⟩ : ∃ x, A.tmps.getD 9 undef = x := ⟨_, rfl⟩
    obtain ⟨x10, e10⟩ : ∃ x, A.tmps.getD 10 undef = x := ⟨_, rfl⟩
    obtain ⟨x12, e12⟩ : ∃ x, A.tmps.getD 12 undef = x := ⟨_, rfl⟩
    have e11 := ev7
    have e13 : A.tmps.getD 13 undef = .pointer (some ⟨gm, 1, none⟩) := hhas 9 13 rfl
    have hA : A = putAll [(4, x4), (5, x5), (6, x6), (7, x7), (8, x8), (9, x9), (10, x10), (11, .slice p7 (S.length + 1) c7), (12, x12), (13, .pointer (some ⟨gm, 1, none⟩))] _ := hput _ (by kernel_rfl) (fun j s v hj => match j, hj with
      | 0, hj => by cases Option.some.inj hj; exact e4
      | 1, hj => by cases Option.some.inj hj; exact e5
      | 2, hj => by cases Option.some.inj hj; exact e6
      | 3, hj => by cases Option.some.inj hj; exact e7
      | 4, hj => by cases Option.some.inj hj; exact e8
      | 5, hj => by cases Option.some.inj hj; exact e9
      | 6, hj => by cases Option.some.inj hj; exact e10
      | 7, hj => by cases Option.some.inj hj; exact e11
      | 8, hj => by cases Option.some.inj hj; exact e12
      | 9, hj => by cases Option.some.inj hj; exact e13
      | kk + 10, hj => by simp at hj)
    have h11 : A.tmps[11]?.getD undef = .slice p7 (S.length + 1) c7 := (gd A 11).trans ev7
    have h13 : A.tmps[13]?.getD undef = .pointer (some ⟨gm, 1, none⟩) := (gd A 13).trans (hhas 9 13 rfl)
    have nM2 := (hJ.grown.block _ (lt_of_block nM) hneM).trans nM
    have z2 := (cell_of_row _ _ 1 _ _ _ nM2).trans rfl
    have y2 := frozen_of_row _ _ 1 _ _ nM2
    have hne7 := own_neI own7 nM2 (by decide)
    have nS : (W2.setCell ⟨gm, 1, none⟩ (.slice p7 (S.length + 1) c7)).heap[gm]? = some (.cells #[mp, .slice p7 (S.length + 1) c7] 53 (0, 0)) := heap_setCell_same W2 gm 1 _ _ _ nM2
    have bS : Below w0.heap.size w0 (W2.setCell ⟨gm, 1, none⟩ (.slice p7 (S.length + 1) c7)) := by
      refine Below.setCell (p := ⟨gm, 1, none⟩) ⟨hJ.grown.os.trans hb1.os, hJ.grown.tape.trans hb1.tape, hJ.grown.output.trans hb1.output, Nat.le_trans hb1.size hJ.grown.size, fun q hq => ?_⟩ hgt _
      refine (hJ.grown.block q (Nat.lt_of_lt_of_le hq hb1.size) fun e => ?_).trans (hb1.block q hq)
      have := (own1.lt _ e.symm).1
      omega
    have own8 : (W2.setCell ⟨gm, 1, none⟩ (.slice p7 (S.length + 1) c7)).ownsRow w0.heap.size 46 5 (.slice p7 (S.length + 1) c7) (S ++ [f]).length (flatI (S ++ [f])) := by
      rw [flatI_snoc, List.length_append, List.length_singleton]
      refine own7.kept (row := some gm) ⟨rfl, rfl, rfl, by simp, fun q hq hr => heap_setCell_other W2 ⟨gm, 1, none⟩ q _ fun e => hr (congrArg some e)⟩ (.inr fun e => hne7 e.symm)
    have HN : Hid (WsC w0 gm mp (S ++ [f]) (W2.setCell ⟨gm, 1, none⟩ (.slice p7 (S.length + 1) c7))) := ⟨bS, hgt, _, nS, own8⟩
    have HFS : Hid (∀ (q : Nat) (c : Array Value) (T : TypeId), W.heap[q]? = some (.cells c T (0, 0)) → T ≠ 46 → q ≠ gm → (W2.setCell ⟨gm, 1, none⟩ (.slice p7 (S.length + 1) c7)).heap[q]? = some (.cells c T (0, 0))) := fun q c T hq hT hne => by
      have h1 := HFR.out q c T hq
      exact (heap_setCell_other W2 ⟨gm, 1, none⟩ q _ hne).trans ((hJ.grown.block _ (lt_of_block h1) (own_neI own1 h1 hT)).trans h1)
    have HF2 : Hid (Fr2 gm W (W2.setCell ⟨gm, 1, none⟩ (.slice p7 (S.length + 1) c7))) := by
      refine ⟨fun q hq hne hr => ?_, ?_, ?_⟩
      · refine (heap_setCell_other W2 ⟨gm, 1, none⟩ q _ hne).trans ((hJ.grown.block q (Nat.lt_of_lt_of_le hq HSW.out) fun e => ?_).trans (HBW.out q hq))
        exact hr (HRB.out.trans e.symm)
      · rw [rowB_at nS, HRB.out]
        exact blk7.imp id fun ⟨g, e, hg⟩ => ⟨g, e, Nat.le_trans HSW.out hg⟩
      · have h1 := HSW.out
        have h2 := hJ.grown.size
        simp
        omega
    have HA := hidv hA
    clear blk7 own7 own8 nS bS hJ hhas hA hput hkept ev7 e4 e5 e6 e7 e8 e9 e10 e11 e12 e13
    refine wpOp_step rfl (fun K hK => ?_)
    go_simp
    refine hK _ _ ⟨⟨undef, rfl⟩, ?_⟩
    clear hK h11 h13
    have hA := HA.out
    clear HA
    subst hA
    simp only [putAll_cons, putAll_nil, Act.put, List.setIfInBounds_toArray, List.set_cons_succ, List.set_cons_zero]
    go_wp2_with fail
    exact ⟨rfl, _, results_none rfl _ _ _, rfl, HN.out, HFS.out, HF2.out⟩
end Go.Proofs.YtpmobjgnmidolaaGreatDoor

/- What masks.first comes to: the first minute that a mask has, from one on. -/
namespace Go.Proofs.YtpmobjgnmidolaaGreatDoor
open Go.RowKit Msk
def FirstAt (f : Nat → Bool) (p r : Nat) : Prop := p ≤ r ∧ r ≤ 1440 ∧ (∀ i, p ≤ i → i < r → f i = false) ∧ (r < 1440 → f r = true)
theorem shr_zero (f : Nat → Bool) (k q r x : Nat) (hq : q = k / 64) (hr : r = k % 64) (hx : x = wd f q / 2 ^ r) (h0 : x = 0) : ∀ i, k ≤ i → i < 64 * q + 64 → f i = false := by
  intro i h1 h2
  have hb : (wd f q / 2 ^ r).testBit (i - k) = f i := by
    rw [shr_bit, wd_bit]
    have e1 : 64 * q + (i - k + r) = i := by omega
    have e2 : i - k + r < 64 := by omega
    simp [e1, e2]
  rw [← hx, h0] at hb
  simpa using hb.symm
theorem shr_some (f : Nat → Bool) (k q r x t : Nat) (hq : q = k / 64) (hr : r = k % 64) (hx : x = wd f q / 2 ^ r) (h1 : x.testBit t = true) (h2 : ∀ j, j < t → x.testBit j = false) :
    f (k + t) = true ∧ k + t < 64 * q + 64 ∧ ∀ i, k ≤ i → i < k + t → f i = false := by
  subst hx
  have hb : ∀ j, (wd f q / 2 ^ r).testBit j = (decide (j + r < 64) && f (k + j)) := by
    intro j
    rw [shr_bit, wd_bit]
    have e1 : 64 * q + (j + r) = k + j := by omega
    rw [e1]
  rw [hb] at h1
  simp only [Bool.and_eq_true, decide_eq_true_eq] at h1
  refine ⟨h1.2, by omega, fun i a b => ?_⟩
  have := h2 (i - k) (by omega)
  rw [hb] at this
  have e2 : i - k + r < 64 := by omega
  have e3 : k + (i - k) = i := by omega
  simpa [e2, e3] using this
set_option maxRecDepth 10000 in
set_option maxHeartbeats 2000000 in
theorem first_bit (f : Nat → Bool) (p : Nat) (hp : p ≤ 1440) (w : World) (hT : Tab w) :
    Calls Tryz.prog 64 #[.agg (mv f), .int .i64 p] w fun e w' => (∃ r : Nat, e = .returned (.int .i64 r) ∧ FirstAt f p r) ∧ Below w.heap.size w w' := by
  have h1 : (w.alloc (.cells (mv f) 41)).heap[w.heap.size]? = some (.cells (mv f) 41 (0, 0)) := by (repeat (first | refine blk_old _ _ _ (by simp only [size_alloc]; omega) ?_ | exact blk_new _ _ _ (by first | rfl | simp only [size_alloc])))
  have hb0 : Below w.heap.size w (w.alloc (.cells (mv f) 41)) := (Below.refl _ _).alloc (Nat.le_refl _) _
  have hT' := hT.later hb0
  have HT : Hid (Tab (w.alloc (.cells (mv f) 41))) := hT'
  clear hT hT'
  go_enter Tryz.func64, Tryz.ntmps64
  go_wp2
  go_loop [5] (fun a => ∃ k : Nat, p ≤ k ∧ k ≤ 1472 ∧ a = .int .i64 k ∧ ∀ i, p ≤ i → i < k → f i = false) (fun a => 1472 - (intOf a).toNat)
  case atStart => exact ⟨p, Nat.le_refl _, by omega, rfl, fun i a b => by omega⟩
  case round =>
    obtain ⟨k, hpk, hk2, rfl, hno⟩ := hrel
    have HN : Hid (∀ i, p ≤ i → i < k → f i = false) := hno
    clear hno
    by_cases hlt : k < 1440
    · obtain ⟨q, hq⟩ : ∃ q : Nat, q = k / 64 := ⟨_, rfl⟩
      obtain ⟨r, hr⟩ : ∃ r : Nat, r = k % 64 := ⟨_, rfl⟩
      have t1 : (k : Int) / 64 = (q : Int) := by omega
      have t2 : (k : Int) % 64 = (r : Int) := by omega
      have hq23 : q < 23 := by omega
      have hi0 : (0 : Int) ≤ (q : Int) := by omega
      have hi1 : (q : Int) < 23 := by omega
      have hr1 : (r : Int) < 64 := by omega
      have ca := cell_mv h1 q hq23
      obtain ⟨x, hx⟩ : ∃ x : Nat, x = wd f q / 2 ^ r := ⟨_, rfl⟩
      have hxl : x < 18446744073709551616 := by have := wd_lt f q; have := Nat.div_le_self (wd f q) (2 ^ r); omega
      have p1 : (wd f q : Int) / 2 ^ r = (x : Int) := by rw [hx]; simp
      have cw := fun w => wordEnd_any k (by omega) w
      obtain ⟨m, hm⟩ : ∃ m : Nat, m = 64 * (k / 64) + 64 := ⟨_, rfl⟩
      rw [← hm] at cw
      by_cases hx0 : x = 0
      · have z := shr_zero f k q r x hq hr hx hx0
        have x0 : ((x : Int) != 0) = false := by simp [hx0]
        have HZ : Hid (∀ i, k ≤ i → i < 64 * q + 64 → f i = false) := z
        have hm' : m = 64 * q + 64 := by omega
        have HM : Hid (m = 64 * q + 64) := hm'
        have HQ : Hid (q = k / 64) := hq
        clear z hx hx0 hq hr hm hm'
        go_wp2_with (go_at_call 86; refine (cw _).mono ?_; rintro e w' ⟨rfl, rfl⟩)
        have hM := HM.out
        have hQ := HQ.out
        go_round
        case rel =>
          refine ⟨m, by omega, by omega, rfl, fun i a b => ?_⟩
          by_cases hik : i < k
          · exact HN.out i a hik
          · exact HZ.out i (by omega) (by omega)
        case measure => simp [intOf]; omega
      · obtain ⟨t, ht64, hb1, hb2, ct⟩ := tz_any x hxl hx0 _ HT.out
        obtain ⟨s1, s2, s3⟩ := shr_some f k q r x t hq hr hx hb1 hb2
        have x0 : ((x : Int) != 0) = true := by simp [hx0]
        have HS : Hid (f (k + t) = true ∧ k + t < 64 * q + 64 ∧ ∀ i, k ≤ i → i < k + t → f i = false) := ⟨s1, s2, s3⟩
        have HE : Hid (∀ j, j < t → x.testBit j = false) := hb2
        clear hx hx0 hq hr hm hb1 hb2 s1 s3 cw
        by_cases hle : k + t ≤ 1440
        · go_wp2_with (go_at_call 87; refine ct.mono ?_; rintro e w' ⟨rfl, rfl⟩)
          go_ret
          refine ⟨⟨k + t, ret_val (int_eq (by omega)), ?_⟩, hb0⟩
          refine ⟨by omega, hle, fun i a b => ?_, fun _ => HS.out.1⟩
          by_cases hik : i < k
          · exact HN.out i a hik
          · exact HS.out.2.2 i (by omega) b
        · go_wp2_with (go_at_call 87; refine ct.mono ?_; rintro e w' ⟨rfl, rfl⟩)
          go_ret
          refine ⟨⟨1440, ret_val (int_eq (by omega)), ?_⟩, hb0⟩
          refine ⟨by omega, by omega, fun i a b => ?_, fun h => by omega⟩
          by_cases hik : i < k
          · exact HN.out i a hik
          · exact HS.out.2.2 i (by omega) (by omega)
    · go_wp2
      go_ret
      refine ⟨⟨1440, ret_val (int_eq (by omega)), ?_⟩, hb0⟩
      exact ⟨by omega, by omega, fun i a b => HN.out i a (by omega), fun h => by omega⟩
end Go.Proofs.YtpmobjgnmidolaaGreatDoor

/- The flow law, as the later texts have it. -/

/- What masks.visitRuns comes to, whatever function it is handed. -/
namespace Go.Proofs.YtpmobjgnmidolaaGreatDoor
open Go.RowKit Msk
def Above (B : Nat) (w w' : World) : Prop := w.heap.size ≤ w'.heap.size ∧ ∀ k c, B ≤ k → w.heap[k]? = some (.cells c 41 (0, 0)) → w'.heap[k]? = some (.cells c 41 (0, 0))
theorem inl_day : mv (inl [((0 : Int), (1440 : Int))]) = mv fun i => decide (i < 1440) := mv_ext fun i _ => by
  have : ((i : Int) < 1440) = (i < 1440) := by apply propext; omega
  simp [inl, this]
theorem row_at {W : World} {g : Nat} {x y : Int} {t : TypeId} (hb : W.heap[g]? = some (.cells #[.int .i64 x, .int .i64 y] t (0, 0))) : Row W (.slice (some ⟨g, 0, none⟩) 1 1) [(x, y)] := by
  refine .inr ⟨_, 0, 1, rfl, by simp, fun j hj => ?_⟩
  have : j = 0 := by simpa using hj
  subst this
  exact ⟨by rw [cell_of_row _ _ _ _ _ _ hb]; rfl, by rw [cell_of_row _ _ _ _ _ _ hb]; rfl⟩
def vsp (B : Nat) (f : Nat → Bool) (i : Nat) (v : Value) (W : World) : Prop := match i with
  | 0 => v = .agg #[.int .i64 0, .int .i64 1440]
  | 1 => ∃ g, v = .slice (some ⟨g, 0, none⟩) 1 1 ∧ W.heap[g]? = some (.cells #[.int .i64 0, .int .i64 1440] 100 (0, 0))
  | 2 => v = .agg (mv fun i => decide (i < 1440))
  | 3 => v = .agg (mv f)
  | 4 => v = .agg (mv fun i => (decide (i < 1440) && !f i) && decide (i < 1440))
  | 5 => ∃ g c, v = .pointer (some ⟨g, 0, none⟩) ∧ B < g ∧ W.heap[g]? = some (.cells (mv c) 41 (0, 0))
  | _ => True
theorem vsp_mono {B : Nat} {f : Nat → Bool} {W W' : World} (hb : Below W.heap.size W W') (i : Nat) (v : Value) (h : vsp B f i v W) : vsp B f i v W' := by
  unfold vsp at *
  split at h
  · exact h
  · obtain ⟨g, h1, h2⟩ := h
    exact ⟨g, h1, (hb.block g (lt_of_block h2)).trans h2⟩
  · exact h
  · exact h
  · exact h
  · obtain ⟨g, c, h1, h2, h3⟩ := h
    exact ⟨g, c, h1, h2, (hb.block g (lt_of_block h3)).trans h3⟩
  · trivial
structure VJ (B : Nat) (f : Nat → Bool) (W0 : World) (L : Nat → Bool) (a : Act) (W : World) : Prop where
  bel : Below (B + 1) W0 W
  last : L 6 = true → ∀ k, k < 6 → L k = true
  done : L 6 = true → ∃ g, a.tmps.getD 4 undef = .pointer (some ⟨g, 0, none⟩) ∧ B < g ∧ W.heap[g]? = some (.cells (mv fun i => (decide (i < 1440) && !f i) && decide (i < 1440)) 41 (0, 0))
set_option maxRecDepth 10000 in
set_option maxHeartbeats 2000000 in
theorem visit_any (f : Nat → Bool) (K : Nat) (C : Array Value) (I : Nat → World → Prop) (R : World → Prop) (w : World) (hI : I 0 w)
    (eK : ∀ args w, (callFunc K args).run Tryz.prog w = .ok (.enter K args) w)
    (hT : ∀ p wr, I p wr → Tab wr) (hmono : ∀ p wr w', I p wr → Below wr.heap.size wr w' → I p w')
    (hstep : ∀ (p a b : Nat) (wr : World), w.heap.size ≤ wr.heap.size → I p wr → p ≤ a → a < b → b ≤ 1440 → (∀ i, p ≤ i → i < a → f i = false) → (∀ i, a ≤ i → i < b → f i = true) → (b < 1440 → f b = false) →
      Calls Tryz.prog K (#[.agg #[.int .i64 a, .int .i64 b]] ++ C) wr fun e w' => ((e = .returned (.bool true) ∧ I b w') ∨ (e = .returned (.bool false) ∧ R w')) ∧ Above w.heap.size wr w')
    (hend : ∀ (p : Nat) (wr : World), I p wr → p ≤ 1440 → (∀ i, p ≤ i → i < 1440 → f i = false) → R wr) :
    Calls Tryz.prog 47 #[.agg (mv f), .func (.func K) #[] C] w fun e w' => e = .returned (.tuple #[]) ∧ R w' := by
  have hz := mv_lit
  have h1 : (w.alloc (.cells (mv f) 41)).heap[w.heap.size]? = some (.cells (mv f) 41 (0, 0)) := by (repeat (first | refine blk_old _ _ _ (by simp only [size_alloc]; omega) ?_ | exact blk_new _ _ _ (by first | rfl | simp only [size_alloc])))
  go_enter Tryz.func47, Tryz.ntmps47
  go_wp2
  refine wp_region_flow (by kernel_rfl) (by kernel_rfl) (by kernel_rfl) (by kernel_rfl) (VJ w.heap.size f (w.alloc (.cells (mv f) 41))) (vsp w.heap.size f) ?_ ?_ ?_
  · intro L hL
    have h6 : L 6 = true → False := fun h => by
      rw [hL 6 (by simp)] at h
      cases h
    exact ⟨(Below.refl _ _).drew, fun h => (h6 h).elim, fun h => (h6 h).elim⟩
  · clear hI eK hT hmono hstep hend
    intro i o L a W ho hLi hdep hJ hdef hkept hhas
    clear hdef
    have not6 : i < 6 → L 6 = true → False := fun h6 h => by
      have := hJ.last h i h6
      rw [hLi] at this; cases this
    have fin : ∀ (v : Value) (d : Nat) (W' : World), i < 6 → Below W.heap.size W W' → vsp w.heap.size f i v W' → ∃ u, a.put (some d) v = a.put (some d) u ∧ (some d ≠ none → vsp w.heap.size f i u W') ∧ (∀ j x, L j = true → vsp w.heap.size f j x W → vsp w.heap.size f j x W') ∧ VJ w.heap.size f (w.alloc (.cells (mv f) 41)) (fun k => decide (i = k) || L k) (a.put (some d) v) W' := by
      intro v d W' h6 hb hv
      have hno : (decide (i = 6) || L 6) = true → False := fun h => by
        have : i ≠ 6 := by omega
        simp [this] at h
        exact not6 h6 h
      exact ⟨v, rfl, fun _ => hv, fun j x _ h => vsp_mono hb j x h, hJ.bel.trans (hb.mono (by have := hJ.bel.size; rw [size_alloc] at this; omega)), fun h => (hno h).elim, fun h => (hno h).elim⟩
    match i, ho with
    | 0, ho =>
      cases Option.some.inj ho
      refine wpOp_step rfl (fun K hK => ?_)
      go_simp
      exact hK _ _ (fin _ 7 _ (by omega) (Below.refl _ _) rfl)
    | 1, ho =>
      cases Option.some.inj ho
      have hA : a.tmps[7]?.getD undef = .agg #[.int .i64 0, .int .i64 1440] := by
        have := hhas 0 _ rfl (hdep ⟨0, .data⟩ (by simp) rfl) 7 rfl
        simpa [vsp] using this
      refine wpOp_step rfl (fun K hK => ?_)
      go_simp
      exact hK _ _ (fin _ 8 _ (by omega) ((Below.refl _ _).alloc (Nat.le_refl _) _) ⟨_, rfl, heap_alloc_new W _⟩)
    | 2, ho =>
      cases Option.some.inj ho
      obtain ⟨g, hA0, hg⟩ := hhas 1 _ rfl (hdep ⟨1, .data⟩ (by simp) rfl) 8 rfl
      have hA : a.tmps[8]?.getD undef = .slice (some ⟨g, 0, none⟩) 1 1 := by simpa using hA0
      have hrow : Row W (.slice (some ⟨g, 0, none⟩) 1 1) [((0 : Int), (1440 : Int))] := row_at hg
      refine wpOp_step rfl (fun K hK => ?_)
      go_simp
      refine (of_any _ _ _ hrow).mono ?_
      rintro e W' ⟨rfl, hb⟩
      rw [inl_day]
      exact hK _ _ (fin _ 9 _ (by omega) hb rfl)
    | 3, ho =>
      cases Option.some.inj ho
      have hA : a.eval (.tmp 2) = .pointer (some ⟨w.heap.size, 0, none⟩) := by
        have := hkept 2 (fun j p hp _ => nd (by kernel_rfl) j p hp)
        exact this
      have hg : W.heap[w.heap.size]? = some (.cells (mv f) 41 (0, 0)) := (hJ.bel.block _ (by omega)).trans h1
      refine wpOp_step rfl (fun K hK => ?_)
      show Oper.wp _ _ _ _ _ _
      refine wp_load_row 41 _ rfl _ hA _ _ _ _ hg maskType rfl (maskSize _) ?_
      exact hK _ _ (fin _ 10 _ (by omega) (Below.refl _ _) rfl)
    | 4, ho =>
      cases Option.some.inj ho
      have hA0 := hhas 2 _ rfl (hdep ⟨2, .data⟩ (by simp) rfl) 9 rfl
      have hA : a.tmps[9]?.getD undef = .agg (mv fun i => decide (i < 1440)) := by simpa [vsp] using hA0
      have hB0 := hhas 3 _ rfl (hdep ⟨3, .data⟩ (by simp) rfl) 10 rfl
      have hB : a.tmps[10]?.getD undef = .agg (mv f) := by simpa [vsp] using hB0
      refine wpOp_step rfl (fun K hK => ?_)
      go_simp
      refine (diff_any _ _ _).mono ?_
      rintro e W' ⟨rfl, hb⟩
      exact hK _ _ (fin _ 11 _ (by omega) hb rfl)
    | 5, ho =>
      cases Option.some.inj ho
      refine wpOp_step rfl (fun K hK => ?_)
      go_simp
      have hs := hJ.bel.size
      rw [size_alloc] at hs
      exact hK _ _ (fin _ 4 _ (by omega) ((Below.refl _ _).alloc (Nat.le_refl _) _) ⟨_, _, rfl, by omega, heap_alloc_new W _⟩)
    | 6, ho =>
      cases Option.some.inj ho
      obtain ⟨g, c, hA0, hgB, hg⟩ := hhas 5 _ rfl (hdep ⟨5, .data⟩ (by simp) rfl) 4 rfl
      have hB0 := hhas 4 _ rfl (hdep ⟨4, .data⟩ (by simp) rfl) 11 rfl
      refine wpOp_step rfl (fun K hK => ?_)
      show Oper.wp _ _ _ _ _ _
      refine wp_store_row 41 _ _ rfl _ _ hA0 hB0 _ _ hg (maskSize _) (by simp [mv_size]) (mv_all _) ?_
      refine hK _ _ ⟨undef, rfl, fun h => absurd rfl h, fun j x _ h => ?_, below_setRow hJ.bel (by omega) _, fun _ k hk => ?_, fun _ => ⟨g, hA0, hgB, setRow_heap _ _ _ _ _ _ hg⟩⟩
      · match j, h with
        | 0, h => exact h
        | 1, h =>
          obtain ⟨g', e1, e2⟩ := h
          refine ⟨g', e1, (setRow_other _ _ _ _ fun e => ?_).trans e2⟩
          subst e
          rw [hg] at e2
          have := (Obj.cells.inj (Option.some.inj e2)).2.1
          exact absurd this (by decide)
        | 2, h => exact h
        | 3, h => exact h
        | 4, h => exact h
        | 5, h =>
          obtain ⟨g', c', e1, e2, e3⟩ := h
          by_cases e : g' = g
          · subst e
            exact ⟨g', _, e1, e2, setRow_heap _ _ _ _ _ _ hg⟩
          · exact ⟨g', c', e1, e2, (setRow_other _ _ _ _ e).trans e3⟩
        | k + 6, _ => trivial
      · have : L k = true := by
          match k, hk with
          | 0, _ => exact hdep ⟨0, .phase⟩ (by simp) rfl
          | 1, _ => exact hdep ⟨1, .phase⟩ (by simp) rfl
          | 2, _ => exact hdep ⟨2, .phase⟩ (by simp) rfl
          | 3, _ => exact hdep ⟨3, .phase⟩ (by simp) rfl
          | 4, _ => exact hdep ⟨4, .phase⟩ (by simp) rfl
          | 5, _ => exact hdep ⟨5, .phase⟩ (by simp) rfl
        simp [this]
    | k + 7, ho => simp at ho
  · intro L a W hL hJ hdef hsize hkept hhas
    obtain ⟨g, hA0, hgB, hg⟩ := hJ.done (hL 6 (by simp))
    obtain ⟨g8, h8, _⟩ := hhas 1 _ rfl 8 rfl
    have hgm : W.heap[w.heap.size]? = some (.cells (mv f) 41 (0, 0)) := (hJ.bel.block _ (by omega)).trans h1
    have hb0 : Below w.heap.size w W := ((Below.refl _ _).alloc (Nat.le_refl _) _).trans (hJ.bel.mono (by omega))
    have hIW := hmono 0 w W hI hb0
    obtain ⟨t, d⟩ := a
    have ht : t = #[.agg (mv f), .func (.func K) #[] C, .pointer (some ⟨w.heap.size, 0, none⟩), undef, .pointer (some ⟨g, 0, none⟩), undef, undef, .agg #[.int .i64 0, .int .i64 1440], .slice (some ⟨g8, 0, none⟩) 1 1, .agg (mv fun i => decide (i < 1440)), .agg (mv f), .agg (mv fun i => (decide (i < 1440) && !f i) && decide (i < 1440)), undef, undef, undef, undef, undef, undef, undef, undef, undef, undef, undef, undef, undef, undef, undef, undef] := arr_ext t _ hsize fun i hi => by
      match i, hi with
      | 0, _ => exact hkept 0 (nd (by kernel_rfl))
      | 1, _ => exact hkept 1 (nd (by kernel_rfl))
      | 2, _ => exact hkept 2 (nd (by kernel_rfl))
      | 3, _ => exact hkept 3 (nd (by kernel_rfl))
      | 4, _ => exact hA0
      | 5, _ => exact hkept 5 (nd (by kernel_rfl))
      | 6, _ => exact hkept 6 (nd (by kernel_rfl))
      | 7, _ => exact hhas 0 _ rfl 7 rfl
      | 8, _ => exact h8
      | 9, _ => exact hhas 2 _ rfl 9 rfl
      | 10, _ => exact hhas 3 _ rfl 10 rfl
      | 11, _ => exact hhas 4 _ rfl 11 rfl
      | 12, _ => exact hkept 12 (nd (by kernel_rfl))
      | 13, _ => exact hkept 13 (nd (by kernel_rfl))
      | 14, _ => exact hkept 14 (nd (by kernel_rfl))
      | 15, _ => exact hkept 15 (nd (by kernel_rfl))
      | 16, _ => exact hkept 16 (nd (by kernel_rfl))
      | 17, _ => exact hkept 17 (nd (by kernel_rfl))
      | 18, _ => exact hkept 18 (nd (by kernel_rfl))
      | 19, _ => exact hkept 19 (nd (by kernel_rfl))
      | 20, _ => exact hkept 20 (nd (by kernel_rfl))
      | 21, _ => exact hkept 21 (nd (by kernel_rfl))
      | 22, _ => exact hkept 22 (nd (by kernel_rfl))
      | 23, _ => exact hkept 23 (nd (by kernel_rfl))
      | 24, _ => exact hkept 24 (nd (by kernel_rfl))
      | 25, _ => exact hkept 25 (nd (by kernel_rfl))
      | 26, _ => exact hkept 26 (nd (by kernel_rfl))
      | 27, _ => exact hkept 27 (nd (by kernel_rfl))
      | _ + 28, hi => exact absurd hi (by simp)
    have hd : d = [] := hdef
    subst ht hd
    clear hL hJ hdef hsize hkept hhas hA0 h8 hI h1 hz
    have hTW := hT 0 W hIW
    go_wp2_with (first
      | (refine wpList_load_row rfl 41 _ rfl _ rfl _ _ _ _ hgm maskType rfl (maskSize _) ?_)
      | (go_at_call 64; refine (first_bit f 0 (by omega) _ hTW).mono ?_; rintro e w1 ⟨⟨r, rfl, hr⟩, hb1⟩))
    have hI1 := hmono 0 W w1 hIW hb1
    have hm1 := (hb1.block _ (lt_of_block hgm)).trans hgm
    have hg1 := (hb1.block _ (lt_of_block hg)).trans hg
    have hs1 : w.heap.size ≤ w1.heap.size := by have := hb0.size; have := hb1.size; omega
    clear hIW hgm hg hb0 hTW hb1
    have HR : Hid (FirstAt f 0 r) := hr
    clear hr
    go_loopw [5] (fun v wr => ∃ p a : Nat, v = .int .i64 a ∧ FirstAt f p a ∧ I p wr ∧ w.heap.size ≤ wr.heap.size ∧ wr.heap[w.heap.size]? = some (.cells (mv f) 41 (0, 0)) ∧ wr.heap[g]? = some (.cells (mv fun i => (decide (i < 1440) && !f i) && decide (i < 1440)) 41 (0, 0))) (fun v _ => (1440 - intOf v).toNat)
    case atStart => exact ⟨0, r, rfl, HR.out, hI1, hs1, hm1, hg1⟩
    case round =>
      obtain ⟨p, a, rfl, hfa, hIp, hsz, hm2, hg2⟩ := hrel
      obtain ⟨q1, q2, q3, q4⟩ := hfa
      clear hI1 hm1 hg1 hs1 HR
      by_cases hlt : a < 1440
      · have hfa := q4 hlt
        have hT2 := hT p wr hIp
        have Q3 : Hid (∀ i, p ≤ i → i < a → f i = false) := q3
        have Q4 : Hid (f a = true) := hfa
        clear q3 q4 hfa
        go_wp2_with (first
          | (refine wpList_load_row rfl 41 _ rfl _ rfl _ _ _ _ hg2 maskType rfl (maskSize _) ?_)
          | (go_at_call 64; refine (first_bit _ a (by omega) _ hT2).mono ?_; rintro e w3 ⟨⟨b, rfl, hb⟩, hb3⟩))
        obtain ⟨b1, b2, b3, b4⟩ := hb
        have ha := Q4.out
        have hyes : ∀ i, a ≤ i → i < b → f i = true := fun i x y => by
          have h1440 : i < 1440 := by omega
          have := b3 i x y
          simpa [h1440] using this
        have hab : a < b := by
          rcases Nat.lt_or_ge a b with h | h
          · exact h
          · have e : b = a := by omega
            subst e
            have := b4 hlt
            simp [ha] at this
        have hbb : b < 1440 → f b = false := fun h => by
          have := b4 h
          simpa [h] using this
        have hI3 := hmono p wr w3 hIp hb3
        have hs3 : w.heap.size ≤ w3.heap.size := by have := hb3.size; omega
        have hm3 := (hb3.block _ (lt_of_block hm2)).trans hm2
        have hg3 := (hb3.block _ (lt_of_block hg2)).trans hg2
        have hc := hstep p a b w3 hs3 hI3 q1 hab b2 Q3.out hyes hbb
        have Hyes : Hid (∀ i, a ≤ i → i < b → f i = true) := hyes
        clear b3 b4 hyes hbb hIp hm2 hg2 hT2 hI3 ha hb3
        refine hc.mono ?_
        rintro e w4 ⟨⟨rfl, hI4⟩ | ⟨rfl, hR4⟩, ⟨hz4, hk4⟩⟩
        · have hm4 := hk4 _ _ (Nat.le_refl _) hm3
          have hg4 := hk4 _ _ (by omega) hg3
          have hT4 := hT b w4 hI4
          clear hk4 hm3 hg3 hc
          go_wp2_with (first
            | (refine wpList_load_row rfl 41 _ rfl _ rfl _ _ _ _ hm4 maskType rfl (maskSize _) ?_)
            | (go_at_call 64; refine (first_bit f b b2 _ hT4).mono ?_; rintro e w5 ⟨⟨r', rfl, hr'⟩, hb5⟩))
          go_roundw
          case rel => exact ⟨b, r', rfl, hr', hmono b w4 w5 hI4 hb5, by have := hb5.size; omega, (hb5.block _ (lt_of_block hm4)).trans hm4, (hb5.block _ (lt_of_block hg4)).trans hg4⟩
          case measure =>
            have := hr'.1
            simp [intOf]; omega
        · clear hk4 hm3 hg3 hc
          go_wp2
          refine bodyPost_ret (results_none rfl _ _ _) rfl ?_
          exact ⟨rfl, hR4⟩
      · have Hend : Hid (R wr) := hend p wr hIp (by omega) (fun i x y => q3 i x (by omega))
        clear q3 q4
        go_wp2
        go_end0
        exact ⟨rfl, Hend.out⟩
end Go.Proofs.YtpmobjgnmidolaaGreatDoor

/- What masks.Spans comes to. -/
namespace Go.Proofs.YtpmobjgnmidolaaGreatDoor
open Go.RowKit Msk
def flat : List (Int × Int) → List Value
  | [] => []
  | s :: l => .int .i64 s.1 :: .int .i64 s.2 :: flat l
theorem flat_snoc (x y : Int) : ∀ l : List (Int × Int), flat (l ++ [(x, y)]) = flat l ++ [.int .i64 x, .int .i64 y]
  | [] => rfl
  | s :: l => by simp [flat, flat_snoc x y l]
theorem info33 : (Tryz.prog.info? 100).map (fun i => (i.zero, i.size, i.bytes)) = some (some (.agg #[.int .i64 0, .int .i64 0]), 2, 16) := by kernel_rfl
theorem spansType : Tryz.prog.underlying 44 = some (.slice 100) := by kernel_rfl
theorem sown_below {w w' : World} {base : Nat} {e : TypeId} {size : Nat} {v : Value} {n : Nat} {xs : List Value} (h : w.ownsRow base e size v n xs) (hb : Below w.heap.size w w') : w'.ownsRow base e size v n xs := by
  obtain ⟨h1, h2⟩ := h
  refine ⟨h1, ?_⟩
  rcases h2 with h2 | ⟨g, cap, cur, hv, hg, hh, r⟩
  · exact .inl h2
  · exact .inr ⟨g, cap, cur, hv, hg, (hb.block g (lt_of_block hh)).trans hh, r⟩
theorem sown_type {w : World} {base : Nat} {e : TypeId} {size : Nat} {v : Value} {n : Nat} {xs : List Value} (h : w.ownsRow base e size v n xs) {k : Nat} {c : Array Value} {t : TypeId} (hk : w.heap[k]? = some (.cells c t (0, 0))) (ht : t ≠ e) : v.ownBlock ≠ some k := by
  obtain ⟨_, h2⟩ := h
  rcases h2 with ⟨h2, _⟩ | ⟨g, cap, cur, hv, hg, hh, r⟩
  · subst h2; simp [Value.ownBlock]
  · subst hv
    intro e1
    have e2 : g = k := by simpa [Value.ownBlock] using e1
    subst e2
    rw [hh] at hk
    exact ht (Obj.cells.inj (Option.some.inj hk)).2.1.symm
set_option maxRecDepth 10000 in
set_option maxHeartbeats 1000000 in
theorem spansClosure_any (x y : Int) (v : Value) (l : List (Int × Int)) (base Bl : Nat) (w : World) (hll : l.length ≤ 1440) (hbase : base ≤ w.heap.size) (hbl : base ≤ Bl)
    (hl : w.heap[Bl]? = some (.cells #[v] 44 (0, 0))) (hown : w.ownsRow base 100 2 v l.length (flat l)) :
    Calls Tryz.prog 48 #[.agg #[.int .i64 x, .int .i64 y], .pointer (some ⟨Bl, 0, none⟩)] w fun e w' =>
      e = .returned (.bool true) ∧ Below base w w' ∧ (∃ v', w'.heap[Bl]? = some (.cells #[v'] 44 (0, 0)) ∧ w'.ownsRow base 100 2 v' (l ++ [(x, y)]).length (flat (l ++ [(x, y)]))) ∧ ∀ B, Above B w w' := by
  obtain ⟨i0, hi, hz0, hz1, hz2⟩ := info_parts info33
  have c1 := cell_of_one hl
  have f1 := free_of_one hl
  have l1 := lt_of_block hl
  have hob := sown_type hown hl (by decide)
  go_enter Tryz.func48, Tryz.ntmps48
  go_wp2_with (at_builtin; refine wpList_append_own _ rfl _ _ 44 rfl base 100 i0 (.agg #[.int .i64 0, .int .i64 0]) 2 16 spansType hi hz0 hz1 hz2 rfl (by decide) v l.length (flat l) rfl ((hown.alloc _).alloc _) ⟨w.heap.size + 1, 0, none⟩ 1 1 [.int .i64 x, .int .i64 y] rfl rfl ?c1 ?c2 ?c3 ?c4 ?c5 ?_)
  case c1 =>
    intro j u hj
    match j, hj with
    | 0, hj => simp at hj; subst hj; simp [Addr.add]
    | 1, hj => simp at hj; subst hj; simp [Addr.add]
  case c2 => intro u hu; simp at hu; rcases hu with rfl | rfl <;> rfl
  case c3 => unfold maxLen; omega
  case c4 => omega
  case c5 => simp; omega
  · intro v' w1 hown' hgrow _
    have hl1 := blk_old _ (.cells #[.int .i64 x, .int .i64 y] 100) _ l1 hl
    have hl2 := blk_old _ (.cells #[.int .i64 x, .int .i64 y] 100) _ (lt_of_block hl1) hl1
    have hl3 := (hgrow.block _ (lt_of_block hl2) (fun e => hob e.symm)).trans hl2
    have c3 := cell_of_one hl3
    have f3 := free_of_one hl3
    have hob' := sown_type hown' hl3 (by decide)
    obtain ⟨g, cap, rfl⟩ : ∃ g cap, v' = .slice (some ⟨g, 0, none⟩) (l.length + 1) cap := by
      rcases hown'.2 with ⟨_, h⟩ | ⟨g, cap, _, h, _⟩
      · omega
      · exact ⟨g, cap, h⟩
    have hbw : Below base w w1 := (((Below.refl _ _).alloc hbase _).alloc (by simp only [size_alloc]; omega) _).grown hgrow (by simp only [size_alloc]; omega) (fun k hk => (hown.lt k hk).1)
    have HO : Hid ((w.alloc (.cells #[.int .i64 x, .int .i64 y] 100)).heap.size = w.heap.size + 1) := size_alloc _ _
    have HW : Hid (w1.ownsRow base 100 2 (.slice (some ⟨g, 0, none⟩) (l.length + 1) cap) (l.length + 1) (flat l ++ [.int .i64 x, .int .i64 y])) := hown'
    have HG : Hid (((w.alloc (.cells #[.int .i64 x, .int .i64 y] 100)).alloc (.cells #[.int .i64 x, .int .i64 y] 100)).grownBy w1 v.ownBlock) := hgrow
    clear c1 f1 hl1 hl2 hown' hgrow
    go_wp2
    go_ret
    refine ⟨rfl, hbw.setCell hbl _, ⟨_, one_setCell hl3, ?_⟩, fun B => ⟨?_, fun k c _ hk => ?_⟩⟩
    · rw [flat_snoc]
      simp only [List.length_append, List.length_cons, List.length_nil, Nat.zero_add]
      exact ownsRow_setCell_other HW.out hob' _
    · have h1 := HG.out.size
      simp only [size_alloc] at h1
      simp
      omega
    · have hk1 := blk_old _ (.cells #[.int .i64 x, .int .i64 y] 100) _ (lt_of_block hk) hk
      have hk2 := blk_old _ (.cells #[.int .i64 x, .int .i64 y] 100) _ (lt_of_block hk1) hk1
      have hk3 := (HG.out.block _ (lt_of_block hk2) (fun e => sown_type hown hk (by decide) e.symm)).trans hk2
      refine (heap_setCell_other _ _ _ _ fun e => ?_).trans hk3
      have e' : k = Bl := e
      subst e'
      rw [hl] at hk
      exact absurd (Obj.cells.inj (Option.some.inj hk)).2.1 (by decide)
structure SI (f : Nat → Bool) (w0 : World) (Bl : Nat) (p : Nat) (w : World) : Prop where
  bel : Below w0.heap.size w0 w
  row : ∃ v, w.heap[Bl]? = some (.cells #[v] 44 (0, 0)) ∧ w.ownsRow w0.heap.size 100 2 v (rs f p).length (flat (rs f p))
  seen : Seen f p (rs f p)
  le : p ≤ 1440
def SR (f : Nat → Bool) (w0 : World) (Bl : Nat) (w : World) : Prop :=
  Below w0.heap.size w0 w ∧ (∃ v, w.heap[Bl]? = some (.cells #[v] 44 (0, 0)) ∧ w.ownsRow w0.heap.size 100 2 v (rs f 1440).length (flat (rs f 1440))) ∧ Runs f 1440 (rs f 1440)
theorem spans_visit (f : Nat → Bool) (w0 w : World) (Bl : Nat) (hT : Tab w0) (lb : w0.heap.size ≤ Bl) (hI : SI f w0 Bl 0 w) :
    Calls Tryz.prog 47 #[.agg (mv f), .func (.func 48) #[] #[.pointer (some ⟨Bl, 0, none⟩)]] w fun e w' =>
      e = .returned (.tuple #[]) ∧ SR f w0 Bl w' := by
  refine visit_any f 48 _ (SI f w0 Bl) (SR f w0 Bl) w hI (fun _ _ => by simp [go_sem]) (fun p wr h => hT.later h.bel) ?_ ?_ ?_
  · intro p wr w' h hb
    obtain ⟨v, h1, h2⟩ := h.row
    exact ⟨h.bel.trans (hb.mono h.bel.size), ⟨v, (hb.block _ (lt_of_block h1)).trans h1, sown_below h2 hb⟩, h.seen, h.le⟩
  · intro p a b wr hsz h hpa hab hb3 hno hyes hbb
    obtain ⟨v, h1, h2⟩ := h.row
    have hs := h.seen.next a b hpa hab hb3 hno hyes hbb
    have e : rs f b = rs f p ++ [((a : Int), (b : Int))] := hs.same.symm
    refine (spansClosure_any a b v (rs f p) w0.heap.size Bl wr (by have := h.seen.runs.few; have := h.le; omega) h.bel.size lb h1 h2).mono ?_
    rintro e' w' ⟨rfl, hb, hrow, hab'⟩
    rw [← e] at hrow hs
    exact ⟨.inl ⟨rfl, h.bel.trans hb, hrow, hs, hb3⟩, hab' _⟩
  · intro p wr h hp hno
    obtain ⟨e, hr⟩ := h.seen.all hp hno
    have hrow := h.row
    rw [e] at hrow hr
    exact ⟨h.bel, hrow, hr⟩
end Go.Proofs.YtpmobjgnmidolaaGreatDoor

/- The spans of a mask, as a row of one's own. -/
namespace Go.Proofs.YtpmobjgnmidolaaGreatDoor
open Go.RowKit Msk
theorem tab_below {w w' : World} (h : Tab w) (hb : Below w.heap.size w w') : Tab w' := fun j hj => (hb.cell (block_lt_of_cell (h j hj))).trans (h j hj)
set_option maxRecDepth 10000 in
set_option maxHeartbeats 1000000 in
theorem spans_own (f : Nat → Bool) (w : World) (hT : Tab w) :
    Calls Tryz.prog 26 #[.agg (mv f)] w fun e w' => (∃ v, e = .returned v ∧ w'.ownsRow w.heap.size 100 2 v (rs f 1440).length (flat (rs f 1440))) ∧ Runs f 1440 (rs f 1440) ∧ Below w.heap.size w w' := by
  have hmf : ∀ (fn : Fn) (first cap : Array Value) (w : World), (Instr.makeFunc fn first cap).run Tryz.prog w = .ok (.func fn first cap) w := fun _ _ _ _ => rfl
  have hW1 : ((w.alloc (.cells (mv f) 41)).alloc (.cells #[.slice none 0 0] 44)).heap[w.heap.size]? = some (.cells (mv f) 41 (0, 0)) := by (repeat (first | refine blk_old _ _ _ (by simp only [size_alloc]; omega) ?_ | exact blk_new _ _ _ (by first | rfl | simp only [size_alloc])))
  have hW2 : ((w.alloc (.cells (mv f) 41)).alloc (.cells #[.slice none 0 0] 44)).heap[w.heap.size + 1]? = some (.cells #[.slice none 0 0] 44 (0, 0)) := by (repeat (first | refine blk_old _ _ _ (by simp only [size_alloc]; omega) ?_ | exact blk_new _ _ _ (by first | rfl | simp only [size_alloc])))
  have hb0 : Below w.heap.size w ((w.alloc (.cells (mv f) 41)).alloc (.cells #[.slice none 0 0] 44)) := ((Below.refl _ _).alloc (Nat.le_refl _) _).alloc (by simp) _
  have cv := spans_visit f w _ _ hT (by omega) ⟨hb0, ⟨_, hW2, World.ownsRow_nil _ _ _ _⟩, Seen.zero f, by omega⟩
  clear hW2 hb0
  go_enter Tryz.func26, Tryz.ntmps26
  go_wp2_with (first
    | (refine wpList_load_row rfl 41 _ rfl _ rfl _ _ _ _ hW1 maskType rfl (maskSize _) ?_)
    | (go_at_call 47; refine cv.mono ?_; rintro e w' ⟨rfl, hbel, ⟨v, hv, hown⟩, hruns⟩; have c1 := cell_of_one hv; have HR : Hid (_) := hown; have HN : Hid (Runs f 1440 (rs f 1440)) := hruns; clear hown hruns))
  go_ret
  exact ⟨⟨v, rfl, HR.out⟩, HN.out, hbel⟩
end Go.Proofs.YtpmobjgnmidolaaGreatDoor
