/- What the law CheckUses comes to. -/
import Derived.Test.YtgjggpgkcbekoadDoorRb30
import Derived.Test.YtgjggpgkcbekoadDoorRb31
namespace Go.Proofs.YtgjggpgkcbekoadDoor
open Go.RowKit Lx
theorem putB5_other (w : World) (b q : Nat) (o : Obj) (h : q ≠ b) : (putB5 w b o).heap[q]? = w.heap[q]? := by
  show (w.heap.setIfInBounds b o)[q]? = _
  rw [Array.getElem?_setIfInBounds_ne (fun e => h e.symm)]
theorem MapB.put {w : World} {a b : Nat} {S : List Int} {o : Obj} (h : MapB w a S) (hab : a ≠ b) : MapB (putB5 w b o) a S := h.later (putB5_other w b a o hab)
theorem cell_put {w : World} {b g k : Nat} {o : Obj} {x : Value} {es : Array MapEntry} {c : Nat} (hb : w.heap[b]? = some (.map es c)) (h : w.cell? ⟨g, k, none⟩ = some x) : (putB5 w b o).cell? ⟨g, k, none⟩ = some x := by
  have hne : g ≠ b := fun e => by
    subst e
    simp [World.cell?, hb] at h
  rw [← h]
  simp only [World.cell?, putB5_other w b g o hne]
theorem RowI.put {w : World} {b : Nat} {v : Value} {ns S : List Int} {o : Obj} (h : RowI w v ns) (hm : MapB w b S) : RowI (putB5 w b o) v ns := by
  obtain ⟨es, c, hb, _⟩ := hm
  obtain ⟨p, c', h1, h2, h3⟩ := h
  refine ⟨p, c', h1, h2, fun j n hj => ?_⟩
  obtain ⟨g, q, e, hc⟩ := h3 j n hj
  exact ⟨g, q, e, cell_put hb hc⟩
theorem RowI.at {w : World} {p : Option Addr} {c : Nat} {ns : List Int} (h : RowI w (.slice p ns.length c) ns) (j : Nat) (n : Int) (hj : ns[j]? = some n) : ∃ g o : Nat, p = some ⟨g, o, none⟩ ∧ w.cell? ⟨g, o + j, none⟩ = some (.int .i64 n) := by
  obtain ⟨p', c', h1, _, h3⟩ := h
  obtain ⟨g, o, e, hc⟩ := h3 j n hj
  injection h1 with e1
  exact ⟨g, o, e1.trans e, hc⟩
theorem fold_take {ns S : List Int} {j : Nat} {m : Int} (h : ns[j]? = some m) : (ns.take (j + 1)).foldl addN S = addN ((ns.take j).foldl addN S) m := by
  rw [List.take_add_one, h, Option.toList_some, List.foldl_append]
  rfl
theorem uses_len (l : List Ru) (r : Int) : (usesL l r).length ≤ l.length := by
  unfold usesL
  split
  · exact Nat.zero_le _
  · exact mkL_len _ _
def CuA (w : World) (b : Nat) (va : Value) (ns : List Int) (t : Value) (wr : World) : Prop := ∃ j : Nat, t = .int .i64 (j : Int) ∧ j ≤ ns.length ∧ MapB wr b ((ns.take j).foldl addN []) ∧ RowI wr va ns ∧ Below w.heap.size w wr
def CuB (w : World) (b b2 n : Nat) (SH : List Int) (l : List Ru) (u : Ru) (t : Value) (wr : World) : Prop := ∃ k : Nat, t = .int .i64 (k : Int) ∧ k ≤ n ∧ MapB wr b SH ∧ MapB wr b2 (wantL l u k) ∧ Below w.heap.size w wr
def CuC (w : World) (b b2 : Nat) (va : Value) (ns SH S : List Int) (t : Value) (wr : World) : Prop := ∃ j : Nat, t = .int .i64 (j : Int) ∧ j ≤ ns.length ∧ MapB wr b SH ∧ MapB wr b2 ((ns.take j).foldl addN S) ∧ RowI wr va ns ∧ Below w.heap.size w wr
def CuD (w : World) (b b2 n : Nat) (SH SW : List Int) (t : Value) (wr : World) : Prop := ∃ k : Nat, t = .int .i64 (k : Int) ∧ k ≤ n ∧ MapB wr b SH ∧ MapB wr b2 SW ∧ Below w.heap.size w wr
set_option maxRecDepth 100000 in
set_option maxHeartbeats 4000000 in
theorem cuses_walk (us : List (Ru × Value)) (v : Value) (w : World) (h : InR w v us) (hPT : PT2 w) : Calls Tryd.prog 3 #[v] w fun e w' => e = .returned (.bool true) ∧ Below w.heap.size w w' := by
  obtain ⟨l, hl⟩ : ∃ l, us.map (fun p => p.1) = l := ⟨_, rfl⟩
  have hll : l.length = us.length := by rw [← hl, List.length_map]
  obtain ⟨pv, cv, rfl⟩ := h.form
  have hlen := h.len
  have c0 := alive5_any w hPT
  have HI := hid5 h
  have HL := hid5 hl
  have HLL := hid5 hll
  clear h hl hll hPT
  go_enter Tryd.func3, Tryd.ntmps3
  go_wp2_with fail
  refine c0.mono ?_
  rintro e w0 ⟨rfl, hb0⟩
  have c1 := chk_any us _ w0 (HI.out.below hb0)
  rw [HL.out] at c1
  clear c0
  go_wp2_with fail
  refine c1.mono ?_
  rintro e w1 ⟨rfl, b1⟩
  have hb1 := hb0.trans (b1.mono hb0.size)
  clear c1 b1 hb0
  by_cases h0 : (chkW l).1 = 0
  · have h40 := (wrong_nms (chk_lk2 h0).1).1
    rw [HLL.out] at h40
    have hI40 : (us.length : Int) ≤ 40 := by omega
    rw [h0]
    generalize (((chkW l).2 : Nat) : Int) = at0 at *
    have H0 := hid5 h0
    clear h0
    go_wp2_with fail
    go_loopw [3, 4, 6, 7, 8, 10, 11, 24] (fun _ _ _ _ _ _ _ t wr => ∃ i : Nat, t = .int .i64 (i : Int) ∧ i ≤ us.length ∧ Below w.heap.size w wr) (fun _ _ _ _ _ _ _ t _ => us.length - (intOf t).toNat)
    case atStart => exact ⟨0, rfl, by omega, hb1⟩
    case round =>
      obtain ⟨i, rfl, hi, hbr⟩ := hrel
      clear hb1
      have hi0 : (0 : Int) ≤ (i : Int) := by omega
      by_cases hlt : i < us.length
      · have hlt' : (i : Int) < (us.length : Int) := by omega
        have hmk := makeB wr
        have bA := hbr.alloc hbr.size (.map #[] 0)
        have mA : MapB (wr.alloc (.map #[] 0)) wr.heap.size [] := ⟨_, _, heap_alloc_new wr _, rfl⟩
        have hwb := hbr.size
        have c2 := uses_any us _ (i : Int) (wr.alloc (.map #[] 0)) (HI.out.below bA)
        rw [HL.out] at c2
        have hn40 := uses_len l (i : Int)
        rw [HLL.out] at hn40
        have HU : Hid (∀ x ∈ usesL l (i : Int), 0 ≤ x ∧ x < (us.length : Int) ∧ x ≠ (i : Int)) := fun x hx => by
          have := uses_ok H0.out (by rw [HLL.out]; exact hlt) hx
          rw [HLL.out] at this
          exact this
        obtain ⟨⟨u, sk⟩, hik⟩ : ∃ p, us[i]? = some p := ⟨us[i], List.getElem?_eq_getElem hlt⟩
        have hul : l[i]? = some u := by rw [← HL.out, List.getElem?_map, hik]; rfl
        have HWS : Hid (∀ x, x ∈ (usesL l (i : Int)).foldl addN [] ↔ x ∈ wantL l u us.length) := fun x => by
          have := want_same H0.out hul x
          rw [HLL.out] at this
          exact this
        obtain ⟨b, hb⟩ : ∃ b, wr.heap.size = b := ⟨_, rfl⟩
        rw [hb] at mA hwb hmk
        generalize hwA : wr.alloc (.map #[] 0) = wA at *
        have Hik := hid5 hik
        clear hik hul hbr
        go_wp2_with fail
        clear hmk hwA hb
        refine c2.mono ?_
        rintro e w3 ⟨va, rfl, hra, b3⟩
        have hb3 := bA.trans (b3.mono bA.size)
        have m3 := mA.later (b3.block _ (lt_of_mapB mA))
        obtain ⟨pa, ca, rfl⟩ : ∃ p c, va = .slice p (usesL l (i : Int)).length c := by
          obtain ⟨p, c, e, _⟩ := hra
          exact ⟨p, c, e⟩
        generalize usesL l (i : Int) = ns at *
        clear c2 bA mA b3
        go_wp2_with fail
        go_loopw [6, 32] (fun _ t wr => CuA w b (.slice pa ns.length ca) ns t wr) (fun _ t _ => ns.length - (intOf t).toNat)
        case atStart => exact ⟨0, rfl, by omega, m3, hra, hb3⟩
        case round =>
          obtain ⟨j, rfl, hj, m2, hra, hb6⟩ := hrel
          clear m3 hb3
          have hj0 : (0 : Int) ≤ (j : Int) := by omega
          by_cases hltj : j < ns.length
          · have hltj' : (j : Int) < (ns.length : Int) := by omega
            obtain ⟨m, hjm⟩ : ∃ m, ns[j]? = some m := ⟨ns[j], List.getElem?_eq_getElem hltj⟩
            obtain ⟨ga, oa, hpa, a0⟩ := hra.at j m hjm
            subst hpa
            obtain ⟨u1, u2, u3⟩ := HU.out m (List.mem_of_getElem? hjm)
            obtain ⟨ob, hup, hM⟩ := insB m2 m
            have hbp := putB5_below hb6 hwb ob
            have hra' := hra.put (o := ob) m2
            have hme : (m == (i : Int)) = false := by simpa using u3
            have HN : Hid (CuA w b (.slice (some ⟨ga, oa, none⟩) ns.length ca) ns (.int .i64 ((j + 1 : Nat) : Int)) (putB5 wr b ob)) := ⟨j + 1, rfl, by omega, by rw [fold_take hjm]; exact hM, hra', hbp⟩
            clear hra hra' hM m2 hb6 hbp hjm u3
            go_wp2_with fail
            go_roundw
            case rel => first
              | exact HN.out
              | ((repeat apply Exists.intro); exact ⟨HN.out, rfl⟩)
            case measure => simp [intOf]; omega
          · have hltj' : ¬ (j : Int) < (ns.length : Int) := by omega
            rw [List.take_of_length_le (by omega)] at m2
            have hmk := makeB wr
            have bA := hb6.alloc hb6.size (.map #[] 0)
            have b2' := (Below.refl wr.heap.size wr).alloc (Nat.le_refl _) (.map #[] 0)
            have m1 := m2.later (b2'.block _ (lt_of_mapB m2))
            have hbb : b ≠ wr.heap.size := by have := lt_of_mapB m2; omega
            have mA : MapB (wr.alloc (.map #[] 0)) wr.heap.size (wantL l u 0) := ⟨_, _, heap_alloc_new wr _, rfl⟩
            have hw2 := hb6.size
            obtain ⟨b2, hb2⟩ : ∃ b, wr.heap.size = b := ⟨_, rfl⟩
            rw [hb2] at mA hw2 hmk hbb
            generalize hwA : wr.alloc (.map #[] 0) = wA at *
            generalize ns.foldl addN [] = SH at *
            clear hra hb6 b2' m2
            go_wp2_with fail
            clear hmk hwA hb2
            go_loopw [8, 10, 55] (fun _ _ t wr => CuB w b b2 us.length SH l u t wr) (fun _ _ t _ => us.length - (intOf t).toNat)
            case atStart => exact ⟨0, rfl, by omega, m1, mA, bA⟩
            case round =>
              obtain ⟨k, rfl, hk, hmh, hmw, hbr⟩ := hrel
              clear m1 mA bA
              have hk0 : (0 : Int) ≤ (k : Int) := by omega
              by_cases hltk : k < us.length
              · have hltk' : (k : Int) < (us.length : Int) := by omega
                obtain ⟨⟨v, sv⟩, hkk⟩ : ∃ p, us[k]? = some p := ⟨us[k], List.getElem?_eq_getElem hltk⟩
                have hvl : l[k]? = some v := by rw [← HL.out, List.getElem?_map, hkk]; rfl
                obtain ⟨g, o, hpe, c0, c1, c2, c3, c4, c5⟩ := HI.out.cells i _ Hik.out
                obtain ⟨g', o', hpe', e0, _⟩ := HI.out.cells k _ hkk
                subst hpe
                obtain ⟨rfl, rfl⟩ : g = g' ∧ o = o' := by cases hpe'; exact ⟨rfl, rfl⟩
                obtain ⟨_, _, _, hkd⟩ := HI.out.all _ (List.mem_of_getElem? Hik.out)
                dsimp only at c0 c1 c2 c3 c4 c5 hkd e0
                obtain ⟨ps, cs, rfl⟩ := hkd.form
                have q1 := (hbr.cell (block_lt_of_cell c1)).trans c1
                have q2 := (hbr.cell (block_lt_of_cell c2)).trans c2
                have q3 := (hbr.cell (block_lt_of_cell c3)).trans c3
                have q4 := (hbr.cell (block_lt_of_cell c4)).trans c4
                have q5 := (hbr.cell (block_lt_of_cell c5)).trans c5
                have dk := (hbr.cell (block_lt_of_cell e0)).trans e0
                have cSp : ∀ W, Below wr.heap.size wr W → Calls Tryd.prog 8 #[.agg #[.int .i64 u.2.kind, .int .i64 u.2.a, .int .i64 u.2.b, .string ⟨u.2.name.toArray⟩, .slice ps u.2.kids.length cs], .string ⟨v.1.toArray⟩] W fun r w' => r = .returned (.bool (spk u.2 v.1)) ∧ Below W.heap.size W w' := fun W hW => by
                  have hbW := hbr.trans (hW.mono hbr.size)
                  obtain ⟨_, _, d', hk'⟩ := (HI.out.below hbW).all _ (List.mem_of_getElem? Hik.out)
                  exact speaks_any v.1 d' u.2 _ W hk'
                have HS : Hid (∀ {x : Bool}, spk u.2 v.1 = x → wantL l u (k + 1) = if x = true then (usesL l (k : Int)).foldl addN (addN (wantL l u k) (k : Int)) else wantL l u k) := fun {x} hx => by
                  rw [← hx, wantL, hvl]
                clear c0 c1 c2 c3 c4 c5 e0 hkd hkk hvl hpe'
                go_wp2_with fail
                cases hsp : spk u.2 v.1 with
                | true =>
                  rw [hsp] at cSp
                  have hsp := hid5 hsp
                  refine wp_region_last (by kernel_rfl) (by kernel_rfl) (by kernel_rfl) (by kernel_rfl) 10 (by kernel_rfl) (by kernel_rfl) [(58, .slice (some ⟨g, o, none⟩) us.length cv), (59, .int .i64 (i : Int)), (60, .pointer (some ⟨g, o + i * 6, none⟩)), (61, .pointer (some ⟨g, o + i * 6 + 1, none⟩)), (62, .agg #[.int .i64 u.2.kind, .int .i64 u.2.a, .int .i64 u.2.b, .string ⟨u.2.name.toArray⟩, .slice ps u.2.kids.length cs]), (63, .slice (some ⟨g, o, none⟩) us.length cv), (64, .int .i64 (k : Int)), (65, .pointer (some ⟨g, o + k * 6, none⟩)), (66, .pointer (some ⟨g, o + k * 6, none⟩)), (67, .string ⟨v.1.toArray⟩)] (by kernel_rfl) (by kernel_rfl) ?_ ?_
                  · intro i' s v o' L A W ho hv hdep hJ hkept hhas
                    match i', ho, hv with
                    | 0, ho, hv =>
                      cases Option.some.inj ho
                      cases Option.some.inj hv
                      have h0 : A.tmps[0]?.getD undef = .slice (some ⟨g, o, none⟩) us.length cv := (gd A 0).trans (hkept 0 (by kernel_rfl))
                      refine wpOp_step rfl (fun K hK => ?_)
                      go_simp
                      exact hK _ _ ⟨rfl, Below.refl _ _⟩
                    | 1, ho, hv =>
                      cases Option.some.inj ho
                      cases Option.some.inj hv
                      have h3 : A.tmps[3]?.getD undef = .int .i64 (i : Int) := (gd A 3).trans (hkept 3 (by kernel_rfl))
                      refine wpOp_step rfl (fun K hK => ?_)
                      go_simp
                      exact hK _ _ ⟨rfl, Below.refl _ _⟩
                    | 2, ho, hv =>
                      cases Option.some.inj ho
                      cases Option.some.inj hv
                      have h58 : A.tmps[58]?.getD undef = .slice (some ⟨g, o, none⟩) us.length cv := (gd A 58).trans (hhas 0 58 _ rfl (hdep ⟨0, .data⟩ (by simp) rfl))
                      have h59 : A.tmps[59]?.getD undef = .int .i64 (i : Int) := (gd A 59).trans (hhas 1 59 _ rfl (hdep ⟨1, .data⟩ (by simp) rfl))
                      refine wpOp_step rfl (fun K hK => ?_)
                      go_simp
                      exact hK _ _ ⟨rfl, Below.refl _ _⟩
                    | 3, ho, hv =>
                      cases Option.some.inj ho
                      cases Option.some.inj hv
                      have h60 : A.tmps[60]?.getD undef = .pointer (some ⟨g, o + i * 6, none⟩) := (gd A 60).trans (hhas 2 60 _ rfl (hdep ⟨2, .data⟩ (by simp) rfl))
                      refine wpOp_step rfl (fun K hK => ?_)
                      go_simp
                      exact hK _ _ ⟨rfl, Below.refl _ _⟩
                    | 4, ho, hv =>
                      cases Option.some.inj ho
                      cases Option.some.inj hv
                      have h61 : A.tmps[61]?.getD undef = .pointer (some ⟨g, o + i * 6 + 1, none⟩) := (gd A 61).trans (hhas 3 61 _ rfl (hdep ⟨3, .data⟩ (by simp) rfl))
                      have e1 : W.cell? ⟨g, o + i * 6 + 1, none⟩ = some (.int .i64 u.2.kind) := (hJ.cell (block_lt_of_cell q1)).trans q1
                      have e2 : W.cell? ⟨g, o + i * 6 + 1 + 1, none⟩ = some (.int .i64 u.2.a) := (hJ.cell (block_lt_of_cell q2)).trans q2
                      have e3 : W.cell? ⟨g, o + i * 6 + 1 + 2, none⟩ = some (.int .i64 u.2.b) := (hJ.cell (block_lt_of_cell q3)).trans q3
                      have e4 : W.cell? ⟨g, o + i * 6 + 1 + 3, none⟩ = some (.string ⟨u.2.name.toArray⟩) := (hJ.cell (block_lt_of_cell q4)).trans q4
                      have e5 : W.cell? ⟨g, o + i * 6 + 1 + 4, none⟩ = some (.slice ps u.2.kids.length cs) := (hJ.cell (block_lt_of_cell q5)).trans q5
                      refine wpOp_step rfl (fun K hK => ?_)
                      go_simp
                      exact hK _ _ ⟨rfl, Below.refl _ _⟩
                    | 5, ho, hv =>
                      cases Option.some.inj ho
                      cases Option.some.inj hv
                      have h0 : A.tmps[0]?.getD undef = .slice (some ⟨g, o, none⟩) us.length cv := (gd A 0).trans (hkept 0 (by kernel_rfl))
                      refine wpOp_step rfl (fun K hK => ?_)
                      go_simp
                      exact hK _ _ ⟨rfl, Below.refl _ _⟩
                    | 6, ho, hv =>
                      cases Option.some.inj ho
                      cases Option.some.inj hv
                      have h8 : A.tmps[8]?.getD undef = .int .i64 (k : Int) := (gd A 8).trans (hkept 8 (by kernel_rfl))
                      refine wpOp_step rfl (fun K hK => ?_)
                      go_simp
                      exact hK _ _ ⟨rfl, Below.refl _ _⟩
                    | 7, ho, hv =>
                      cases Option.some.inj ho
                      cases Option.some.inj hv
                      have h63 : A.tmps[63]?.getD undef = .slice (some ⟨g, o, none⟩) us.length cv := (gd A 63).trans (hhas 5 63 _ rfl (hdep ⟨5, .data⟩ (by simp) rfl))
                      have h64 : A.tmps[64]?.getD undef = .int .i64 (k : Int) := (gd A 64).trans (hhas 6 64 _ rfl (hdep ⟨6, .data⟩ (by simp) rfl))
                      refine wpOp_step rfl (fun K hK => ?_)
                      go_simp
                      exact hK _ _ ⟨rfl, Below.refl _ _⟩
                    | 8, ho, hv =>
                      cases Option.some.inj ho
                      cases Option.some.inj hv
                      have h65 : A.tmps[65]?.getD undef = .pointer (some ⟨g, o + k * 6, none⟩) := (gd A 65).trans (hhas 7 65 _ rfl (hdep ⟨7, .data⟩ (by simp) rfl))
                      refine wpOp_step rfl (fun K hK => ?_)
                      go_simp
                      exact hK _ _ ⟨rfl, Below.refl _ _⟩
                    | 9, ho, hv =>
                      cases Option.some.inj ho
                      cases Option.some.inj hv
                      have h66 : A.tmps[66]?.getD undef = .pointer (some ⟨g, o + k * 6, none⟩) := (gd A 66).trans (hhas 8 66 _ rfl (hdep ⟨8, .data⟩ (by simp) rfl))
                      have nk : W.cell? ⟨g, o + k * 6, none⟩ = some (.string ⟨v.1.toArray⟩) := (hJ.cell (block_lt_of_cell dk)).trans dk
                      refine wpOp_step rfl (fun K hK => ?_)
                      go_simp
                      exact hK _ _ ⟨rfl, Below.refl _ _⟩
                    | kk + 10, ho, hv => simp at hv
                  · intro o' W ho hJ
                    cases Option.some.inj ho
                    simp only [putAll_cons, putAll_nil, Act.put, List.setIfInBounds_toArray, List.set_cons_succ, List.set_cons_zero]
                    refine wpOp_step rfl (fun K hK => ?_)
                    go_simp
                    refine (cSp W hJ).mono ?_
                    rintro e' W' ⟨rfl, hb'⟩
                    refine hK _ _ ⟨⟨_, rfl⟩, ?_⟩
                    have hbW := hJ.trans (hb'.mono hJ.size)
                    clear hK hJ hb' cSp dk q1 q2 q3 q4 q5
                    have m1 := hmh.later (hbW.block _ (lt_of_mapB hmh))
                    have m2 := hmw.later (hbW.block _ (lt_of_mapB hmw))
                    have hbo := hbr.trans (hbW.mono hbr.size)
                    obtain ⟨ob, hup, hM⟩ := insB m2 (k : Int)
                    have hbp := putB5_below hbo hw2 ob
                    have m1' := m1.put (b := b2) (o := ob) hbb
                    have c2 := uses_any us (.slice (some ⟨g, o, none⟩) us.length cv) (k : Int) (putB5 W' b2 ob) (HI.out.below hbp)
                    rw [HL.out] at c2
                    clear hmh hmw hbr hbW m1 m2 hbo
                    go_wp2_with fail
                    clear hup
                    refine c2.mono ?_
                    rintro e w6 ⟨va, rfl, hra, b6⟩
                    have hb6 := hbp.trans (b6.mono hbp.size)
                    have m1 := m1'.later (b6.block _ (lt_of_mapB m1'))
                    have m2 := hM.later (b6.block _ (lt_of_mapB hM))
                    have hn40 := uses_len l (k : Int)
                    have HW2 : Hid (wantL l u (k + 1) = (usesL l (k : Int)).foldl addN (addN (wantL l u k) (k : Int))) := (HS.out hsp.out).trans (if_pos rfl)
                    have hform : ∃ p c, va = .slice p (usesL l (k : Int)).length c := by
                      obtain ⟨p, c, e, _⟩ := hra
                      exact ⟨p, c, e⟩
                    obtain ⟨pa, ca, rfl⟩ := hform
                    generalize usesL l (k : Int) = ns2 at *
                    clear c2 b6 m1' hM hbp
                    rw [HLL.out] at hn40
                    go_wp2_with fail
                    go_loopw [10, 75] (fun _ t wr => CuC w b b2 (.slice pa ns2.length ca) ns2 SH (addN (wantL l u k) (k : Int)) t wr) (fun _ t _ => ns2.length - (intOf t).toNat)
                    case atStart => exact ⟨0, rfl, by omega, m1, m2, hra, hb6⟩
                    case round =>
                      obtain ⟨j, rfl, hj, m1, m2, hra, hb6⟩ := hrel
                      have hj0 : (0 : Int) ≤ (j : Int) := by omega
                      by_cases hltj : j < ns2.length
                      · have hltj' : (j : Int) < (ns2.length : Int) := by omega
                        obtain ⟨m, hjm⟩ : ∃ m, ns2[j]? = some m := ⟨ns2[j], List.getElem?_eq_getElem hltj⟩
                        obtain ⟨ga, oa, hpa, a0⟩ := hra.at j m hjm
                        subst hpa
                        obtain ⟨ob, hup, hM⟩ := insB m2 m
                        have hbp := putB5_below hb6 hw2 ob
                        have m1' := m1.put (b := b2) (o := ob) hbb
                        have hra' := hra.put (o := ob) m2
                        have HN : Hid (CuC w b b2 (.slice (some ⟨ga, oa, none⟩) ns2.length ca) ns2 SH (addN (wantL l u k) (k : Int)) (.int .i64 ((j + 1 : Nat) : Int)) (putB5 wr b2 ob)) := ⟨j + 1, rfl, by omega, m1', by rw [fold_take hjm]; exact hM, hra', hbp⟩
                        clear hra hra' hM m1 m1' m2 hb6 hbp hjm
                        go_wp2_with fail
                        go_roundw
                        case rel => first
                          | exact HN.out
                          | ((repeat apply Exists.intro); exact ⟨HN.out, rfl⟩)
                        case measure => simp [intOf]; omega
                      · have hltj' : ¬ (j : Int) < (ns2.length : Int) := by omega
                        have HN : Hid (CuB w b b2 us.length SH l u (.int .i64 ((k + 1 : Nat) : Int)) wr) := by
                          rw [List.take_of_length_le (by omega)] at m2
                          exact ⟨k + 1, rfl, by omega, m1, by rw [HW2.out]; exact m2, hb6⟩
                        clear m1 m2 hra hb6
                        go_wp2_with fail
                        go_roundw
                        case rel => first
                          | exact HN.out
                          | ((repeat apply Exists.intro); exact ⟨HN.out, rfl⟩)
                        case measure => simp [intOf]; omega
                | false =>
                  rw [hsp] at cSp
                  have hsp := hid5 hsp
                  refine wp_region_last (by kernel_rfl) (by kernel_rfl) (by kernel_rfl) (by kernel_rfl) 10 (by kernel_rfl) (by kernel_rfl) [(58, .slice (some ⟨g, o, none⟩) us.length cv), (59, .int .i64 (i : Int)), (60, .pointer (some ⟨g, o + i * 6, none⟩)), (61, .pointer (some ⟨g, o + i * 6 + 1, none⟩)), (62, .agg #[.int .i64 u.2.kind, .int .i64 u.2.a, .int .i64 u.2.b, .string ⟨u.2.name.toArray⟩, .slice ps u.2.kids.length cs]), (63, .slice (some ⟨g, o, none⟩) us.length cv), (64, .int .i64 (k : Int)), (65, .pointer (some ⟨g, o + k * 6, none⟩)), (66, .pointer (some ⟨g, o + k * 6, none⟩)), (67, .string ⟨v.1.toArray⟩)] (by kernel_rfl) (by kernel_rfl) ?_ ?_
                  · intro i' s v o' L A W ho hv hdep hJ hkept hhas
                    match i', ho, hv with
                    | 0, ho, hv =>
                      cases Option.some.inj ho
                      cases Option.some.inj hv
                      have h0 : A.tmps[0]?.getD undef = .slice (some ⟨g, o, none⟩) us.length cv := (gd A 0).trans (hkept 0 (by kernel_rfl))
                      refine wpOp_step rfl (fun K hK => ?_)
                      go_simp
                      exact hK _ _ ⟨rfl, Below.refl _ _⟩
                    | 1, ho, hv =>
                      cases Option.some.inj ho
                      cases Option.some.inj hv
                      have h3 : A.tmps[3]?.getD undef = .int .i64 (i : Int) := (gd A 3).trans (hkept 3 (by kernel_rfl))
                      refine wpOp_step rfl (fun K hK => ?_)
                      go_simp
                      exact hK _ _ ⟨rfl, Below.refl _ _⟩
                    | 2, ho, hv =>
                      cases Option.some.inj ho
                      cases Option.some.inj hv
                      have h58 : A.tmps[58]?.getD undef = .slice (some ⟨g, o, none⟩) us.length cv := (gd A 58).trans (hhas 0 58 _ rfl (hdep ⟨0, .data⟩ (by simp) rfl))
                      have h59 : A.tmps[59]?.getD undef = .int .i64 (i : Int) := (gd A 59).trans (hhas 1 59 _ rfl (hdep ⟨1, .data⟩ (by simp) rfl))
                      refine wpOp_step rfl (fun K hK => ?_)
                      go_simp
                      exact hK _ _ ⟨rfl, Below.refl _ _⟩
                    | 3, ho, hv =>
                      cases Option.some.inj ho
                      cases Option.some.inj hv
                      have h60 : A.tmps[60]?.getD undef = .pointer (some ⟨g, o + i * 6, none⟩) := (gd A 60).trans (hhas 2 60 _ rfl (hdep ⟨2, .data⟩ (by simp) rfl))
                      refine wpOp_step rfl (fun K hK => ?_)
                      go_simp
                      exact hK _ _ ⟨rfl, Below.refl _ _⟩
                    | 4, ho, hv =>
                      cases Option.some.inj ho
                      cases Option.some.inj hv
                      have h61 : A.tmps[61]?.getD undef = .pointer (some ⟨g, o + i * 6 + 1, none⟩) := (gd A 61).trans (hhas 3 61 _ rfl (hdep ⟨3, .data⟩ (by simp) rfl))
                      have e1 : W.cell? ⟨g, o + i * 6 + 1, none⟩ = some (.int .i64 u.2.kind) := (hJ.cell (block_lt_of_cell q1)).trans q1
                      have e2 : W.cell? ⟨g, o + i * 6 + 1 + 1, none⟩ = some (.int .i64 u.2.a) := (hJ.cell (block_lt_of_cell q2)).trans q2
                      have e3 : W.cell? ⟨g, o + i * 6 + 1 + 2, none⟩ = some (.int .i64 u.2.b) := (hJ.cell (block_lt_of_cell q3)).trans q3
                      have e4 : W.cell? ⟨g, o + i * 6 + 1 + 3, none⟩ = some (.string ⟨u.2.name.toArray⟩) := (hJ.cell (block_lt_of_cell q4)).trans q4
                      have e5 : W.cell? ⟨g, o + i * 6 + 1 + 4, none⟩ = some (.slice ps u.2.kids.length cs) := (hJ.cell (block_lt_of_cell q5)).trans q5
                      refine wpOp_step rfl (fun K hK => ?_)
                      go_simp
                      exact hK _ _ ⟨rfl, Below.refl _ _⟩
                    | 5, ho, hv =>
                      cases Option.some.inj ho
                      cases Option.some.inj hv
                      have h0 : A.tmps[0]?.getD undef = .slice (some ⟨g, o, none⟩) us.length cv := (gd A 0).trans (hkept 0 (by kernel_rfl))
                      refine wpOp_step rfl (fun K hK => ?_)
                      go_simp
                      exact hK _ _ ⟨rfl, Below.refl _ _⟩
                    | 6, ho, hv =>
                      cases Option.some.inj ho
                      cases Option.some.inj hv
                      have h8 : A.tmps[8]?.getD undef = .int .i64 (k : Int) := (gd A 8).trans (hkept 8 (by kernel_rfl))
                      refine wpOp_step rfl (fun K hK => ?_)
                      go_simp
                      exact hK _ _ ⟨rfl, Below.refl _ _⟩
                    | 7, ho, hv =>
                      cases Option.some.inj ho
                      cases Option.some.inj hv
                      have h63 : A.tmps[63]?.getD undef = .slice (some ⟨g, o, none⟩) us.length cv := (gd A 63).trans (hhas 5 63 _ rfl (hdep ⟨5, .data⟩ (by simp) rfl))
                      have h64 : A.tmps[64]?.getD undef = .int .i64 (k : Int) := (gd A 64).trans (hhas 6 64 _ rfl (hdep ⟨6, .data⟩ (by simp) rfl))
                      refine wpOp_step rfl (fun K hK => ?_)
                      go_simp
                      exact hK _ _ ⟨rfl, Below.refl _ _⟩
                    | 8, ho, hv =>
                      cases Option.some.inj ho
                      cases Option.some.inj hv
                      have h65 : A.tmps[65]?.getD undef = .pointer (some ⟨g, o + k * 6, none⟩) := (gd A 65).trans (hhas 7 65 _ rfl (hdep ⟨7, .data⟩ (by simp) rfl))
                      refine wpOp_step rfl (fun K hK => ?_)
                      go_simp
                      exact hK _ _ ⟨rfl, Below.refl _ _⟩
                    | 9, ho, hv =>
                      cases Option.some.inj ho
                      cases Option.some.inj hv
                      have h66 : A.tmps[66]?.getD undef = .pointer (some ⟨g, o + k * 6, none⟩) := (gd A 66).trans (hhas 8 66 _ rfl (hdep ⟨8, .data⟩ (by simp) rfl))
                      have nk : W.cell? ⟨g, o + k * 6, none⟩ = some (.string ⟨v.1.toArray⟩) := (hJ.cell (block_lt_of_cell dk)).trans dk
                      refine wpOp_step rfl (fun K hK => ?_)
                      go_simp
                      exact hK _ _ ⟨rfl, Below.refl _ _⟩
                    | kk + 10, ho, hv => simp at hv
                  · intro o' W ho hJ
                    cases Option.some.inj ho
                    simp only [putAll_cons, putAll_nil, Act.put, List.setIfInBounds_toArray, List.set_cons_succ, List.set_cons_zero]
                    refine wpOp_step rfl (fun K hK => ?_)
                    go_simp
                    refine (cSp W hJ).mono ?_
                    rintro e' W' ⟨rfl, hb'⟩
                    refine hK _ _ ⟨⟨_, rfl⟩, ?_⟩
                    have hbW := hJ.trans (hb'.mono hJ.size)
                    clear hK hJ hb' cSp dk q1 q2 q3 q4 q5
                    have m1 := hmh.later (hbW.block _ (lt_of_mapB hmh))
                    have m2 := hmw.later (hbW.block _ (lt_of_mapB hmw))
                    have hbo := hbr.trans (hbW.mono hbr.size)
                    have HN : Hid (CuB w b b2 us.length SH l u (.int .i64 ((k + 1 : Nat) : Int)) W') := ⟨k + 1, rfl, by omega, m1, by rw [(HS.out hsp.out).trans (if_neg (by decide))]; exact m2, hbo⟩
                    clear hmh hmw hbr hbW m1 m2 hbo
                    go_wp2_with fail
                    go_roundw
                    case rel => first
                      | exact HN.out
                      | ((repeat apply Exists.intro); exact ⟨HN.out, rfl⟩)
                    case measure => simp [intOf]; omega
              · have hltk' : ¬ (k : Int) < (us.length : Int) := by omega
                have ek : k = us.length := by omega
                rw [ek] at hmw
                have hws := HWS.out
                generalize wantL l u us.length = SW at *
                have Hws := hid5 hws
                clear hws ek
                go_wp2_with fail
                go_loopw [11, 85] (fun _ t wr => CuD w b b2 us.length SH SW t wr) (fun _ t _ => us.length - (intOf t).toNat)
                case atStart => exact ⟨0, rfl, by omega, hmh, hmw, hbr⟩
                case round =>
                  obtain ⟨q, rfl, hq, hmh, hmw, hbr⟩ := hrel
                  have hq0 : (0 : Int) ≤ (q : Int) := by omega
                  by_cases hltq : q < us.length
                  · have hltq' : (q : Int) < (us.length : Int) := by omega
                    have g1 := lookB hmh (q : Int)
                    have g2 := lookB hmw (q : Int)
                    have eq : decide ((q : Int) ∈ SW) = decide ((q : Int) ∈ SH) := by
                      by_cases hx : (q : Int) ∈ SH
                      · rw [decide_eq_true hx, decide_eq_true ((Hws.out _).1 hx)]
                      · rw [decide_eq_false hx, decide_eq_false (fun h => hx ((Hws.out _).2 h))]
                    rw [eq] at g2
                    have HN : Hid (CuD w b b2 us.length SH SW (.int .i64 ((q + 1 : Nat) : Int)) wr) := ⟨q + 1, rfl, by omega, hmh, hmw, hbr⟩
                    clear eq hmh hmw hbr
                    cases decide ((q : Int) ∈ SH) with
                    | true =>
                      go_wp2_with fail
                      go_roundw
                      case rel => first
                        | exact HN.out
                        | ((repeat apply Exists.intro); exact ⟨HN.out, rfl⟩)
                      case measure => simp [intOf]; omega
                    | false =>
                      go_wp2_with fail
                      go_roundw
                      case rel => first
                        | exact HN.out
                        | ((repeat apply Exists.intro); exact ⟨HN.out, rfl⟩)
                      case measure => simp [intOf]; omega
                  · have hltq' : ¬ (q : Int) < (us.length : Int) := by omega
                    clear hmh hmw
                    go_wp2_with fail
                    go_roundw
                    case rel => exact ⟨i + 1, by go_num, by omega, hbr⟩
                    case measure => simp [intOf]; omega
      · have hlt' : ¬ (i : Int) < (us.length : Int) := by omega
        go_wp2_with fail
        go_ret
        exact ⟨rfl, hbr⟩
  · have hne : ((chkW l).1 != 0) = true := by simpa using h0
    have c2 := uses_any us (.slice pv us.length cv) 0 w1 (HI.out.below hb1)
    have hu : usesL l 0 = [] := if_pos (.inr (.inr h0))
    rw [HL.out, hu] at c2
    generalize (chkW l).1 = er at *
    generalize (((chkW l).2 : Nat) : Int) = at0 at *
    clear h0 hu
    go_wp2_with fail
    refine c2.mono ?_
    rintro e w2 ⟨va, rfl, ⟨p, c, rfl, _, _⟩, b2⟩
    have hb2 := hb1.trans (b2.mono hb1.size)
    clear c2 b2 hb1
    go_wp2_with fail
    go_ret
    exact ⟨rfl, hb2⟩
end Go.Proofs.YtgjggpgkcbekoadDoor
