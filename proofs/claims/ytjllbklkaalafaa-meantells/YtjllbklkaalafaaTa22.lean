/- What check's Uses comes to; and Ints. -/
import Derived.Test.YtjllbklkaalafaaTa21
namespace Go.Proofs.Ytjllbklkaalafaa
open Go.RowKit Lx

/-- The numbers that are marked, of the first so many. -/
def mkL (m : Nat → Bool) (j : Nat) : List Int := ((List.range j).filter m).map fun k : Nat => (k : Int)
theorem mkL_succ (m : Nat → Bool) (j : Nat) : mkL m (j + 1) = if m j = true then mkL m j ++ [(j : Int)] else mkL m j := by
  unfold mkL
  rw [List.range_succ, List.filter_append, List.map_append]
  by_cases h : m j = true
  · simp [h]
  · simp [h]
theorem mkL_len (m : Nat → Bool) (j : Nat) : (mkL m j).length ≤ j := by
  unfold mkL
  rw [List.length_map]
  have := List.length_filter_le m (List.range j)
  simpa using this
/-- The numbers of all rules that a rule refers to. -/
def usesL (l : List Ru) (r : Int) : List Int := if r < 0 ∨ (l.length : Int) ≤ r ∨ (chkW l).1 ≠ 0 then [] else mkL (fol (leadS l) (l.length + 1) (fun _ => false) r.toNat) l.length
theorem chk_lk2 {l : List Ru} (h : (chkW l).1 = 0) : (wrongR l).1 = 0 ∧ ∀ u ∈ l, -1 ∉ spkR l u := by
  unfold chkW at h
  split at h
  · rename_i h0; exact absurd h h0
  · rename_i h0
    refine ⟨by simpa using h0, fun u hu hm => ?_⟩
    split at h
    · cases h
    · split at h
      · cases h
      · rename_i h2
        obtain ⟨j, hj⟩ := List.getElem?_of_mem hu
        have hj' : j < l.length := (List.getElem?_eq_some_iff.1 hj).1
        have hp : lk2 l j = true := by
          unfold lk2
          rw [hj]
          exact decide_eq_true hm
        have : ∀ (k i : Nat), i ≤ j → j < i + k → frF (lk2 l) i k ≠ none := by
          intro k
          induction k with
          | zero => intro i a b; omega
          | succ k ih =>
            intro i a b
            rw [frF]
            split
            · simp
            · rename_i hn
              have : i ≠ j := fun e => hn (by rw [e]; exact hp)
              exact ih (i + 1) (by omega) (by omega)
        exact this l.length 0 (by omega) (by omega) h2
theorem icells_snoc (ns : List Int) (n : Int) : icells (ns ++ [n]) = icells ns ++ [.int .i64 n] := by simp [icells]
/-- What a function with a row of numbers comes to. -/
def OutU (ns : List Int) (w : World) (e : Ending) (w' : World) : Prop := ∃ v, e = .returned v ∧ RowI w' v ns ∧ Below w.heap.size w w'
def URel (m : Nat → Bool) (n : Nat) (_ W0 : World) (q t : Value) (wr : World) : Prop := ∃ j : Nat, t = .int .i64 (j : Int) ∧ j ≤ n ∧ wr.ownsRow W0.heap.size 3 1 q (mkL m j).length (icells (mkL m j)) ∧ Below W0.heap.size W0 wr
theorem fieldFlt5 (c0 c1 : Value) (w : World) : (Instr.field 25 (.agg #[c0, c1]) 0).run Try.prog w = .ok c0 w := by
  unfold Instr.field
  simp [go_sem, asAgg]
attribute [go_sem] fieldFlt5
set_option maxRecDepth 100000 in
set_option maxHeartbeats 4000000 in
theorem uses_any (us : List (Ru × Value)) (v : Value) (r : Int) (w : World) (h : InR w v us) : Calls Try.prog 8 #[v, .int .i64 r] w (OutU (usesL (us.map (fun p => p.1)) r) w) := by
  obtain ⟨l, hl⟩ : ∃ l, us.map (fun p => p.1) = l := ⟨_, rfl⟩
  have hll : l.length = us.length := by rw [← hl, List.length_map]
  obtain ⟨pv, cv, rfl⟩ := h.form
  have hlen := h.len
  have cW := chk_any us _ w h
  rw [hl] at cW ⊢
  have HNil : Hid (∀ W, Below w.heap.size w W → OutU [] w (.returned (.slice none 0 0)) W) := fun W hW => ⟨_, rfl, ⟨none, 0, rfl, by decide, fun j n hj => by simp at hj⟩, hW⟩
  have HLL := hid5 hll
  have HLe := hid5 hl
  clear hl hll
  by_cases h1 : r < 0
  · have HU : Hid (usesL l r = []) := if_pos (.inl h1)
    clear cW h
    go_enter Try.func8, Try.ntmps8
    go_wp2_with fail
    go_ret
    rw [HU.out]
    exact HNil.out _ (Below.refl _ _)
  by_cases h2 : (us.length : Int) ≤ r
  · have HU : Hid (usesL l r = []) := if_pos (.inr (.inl (by rw [HLL.out]; exact h2)))
    clear cW h
    go_enter Try.func8, Try.ntmps8
    go_wp2_with fail
    go_ret
    rw [HU.out]
    exact HNil.out _ (Below.refl _ _)
  by_cases h3 : (chkW l).1 = 0
  · have HU : Hid (usesL l r = mkL (fol (leadS l) (l.length + 1) (fun _ => false) r.toNat) l.length) := if_neg (by rw [HLL.out]; omega)
    obtain ⟨h0, hno⟩ := chk_lk2 h3
    obtain ⟨h40, hnm⟩ := wrong_nms h0
    rw [h3] at cW
    generalize (((chkW l).2 : Nat) : Int) = at0 at *
    obtain ⟨rn, hrn⟩ : ∃ rn : Nat, r = (rn : Int) := ⟨r.toNat, by omega⟩
    subst hrn
    have hrt : ((rn : Int)).toNat = rn := by omega
    rw [hrt] at HU
    have hrl : rn < l.length := by rw [HLL.out]; omega
    have cN := fun W (hW : Below w.heap.size w W) => numbers_any us _ W (h.below hW)
    obtain ⟨i0, hi, hz0, hz1, hz2⟩ := info_parts intInfo5
    have hI40 : (us.length : Int) ≤ 40 := by rw [HLL.out] at h40; omega
    have Hrl := hid5 hrl
    have H40 := hid5 h40
    have Hno := hid5 hno
    have Hnm := hid5 hnm
    have HI := hid5 h
    clear hrl h40 hno hnm h h0 hrt h3
    go_enter Try.func8, Try.ntmps8
    go_wp2_with fail
    refine cW.mono ?_
    rintro e w1 ⟨rfl, hb1⟩
    have d1 := cN w1 hb1
    clear cW cN
    go_wp2_with fail
    refine d1.mono ?_
    rintro e w2 ⟨mb, rfl, _, hM, hb2⟩
    have hb2w := hb1.trans (hb2.mono hb1.size)
    have d2 := spoken_any us _ mb w2 (HI.out.below hb2w) hM (by omega) (fun p hp => by
      have := Hnm.out p.1 (by rw [← HLe.out]; exact List.mem_map.2 ⟨p, hp, rfl⟩)
      omega)
    clear d1 hb2
    go_wp2_with fail
    refine d2.mono ?_
    rintro e w3 ⟨so, rfl, hZ, hb3⟩
    rw [HLe.out] at hZ
    have hb3w := hb2w.trans (hb3.mono hb2w.size)
    have d3 := reached_any so l.length (leadS l) rn w3 (rowsI_of hZ Hno.out) (by have := H40.out; omega) Hrl.out
    obtain ⟨pz, cz, hso, _⟩ := (show RowsZ w3 so (l.map (spkR l)) from hZ)
    rw [HLL.out] at d3
    rw [List.length_map, HLL.out] at hso
    subst hso
    clear d2 hb3 hM hZ
    go_wp2_with fail
    refine d3.mono ?_
    rintro e w4 ⟨g, rfl, hg, hb4⟩
    have hb4w := hb3w.trans (hb4.mono hb3w.size)
    rw [HLL.out] at HU
    generalize fol (leadS l) (us.length + 1) (fun _ => false) rn = m at *
    have Hbw := hid5 hb4w
    have Hg := hid5 hg
    clear d3 hb4 hb3w hb2w hb1 hg hb4w HNil
    go_wp2_with fail
    go_loopw [5, 6, 7, 29] (fun q _ _ t wr => URel m us.length w w4 q t wr) (fun _ _ _ t _ => us.length - (intOf t).toNat)
    case atStart => exact ⟨0, rfl, by omega, World.ownsRow_nil _ _ _ _, Below.refl _ _⟩
    case round =>
      obtain ⟨j, rfl, hj, hown, hbr⟩ := hrel
      have hj0 : (0 : Int) ≤ (j : Int) := by omega
      have hml := mkL_len m j
      by_cases hlt : j < us.length
      · have hlt' : (j : Int) < (us.length : Int) := by omega
        have km := (cell_of_row _ _ j _ _ _ ((hbr.block _ (lt_of_block Hg.out)).trans Hg.out)).trans (bcells_at hlt)
        have hst := mkL_succ m j
        cases hmj : m j with
        | true =>
          rw [hmj] at km
          rw [if_pos hmj] at hst
          obtain ⟨pq, cq, hqf⟩ := row_form hown
          have bA := (Below.refl wr.heap.size wr).alloc (Nat.le_refl _) (.cells #[.int .i64 (j : Int)] 3)
          have hx4 := heap_alloc_new wr (.cells #[.int .i64 (j : Int)] 3)
          have hownA := owns_keep (w' := wr.alloc (.cells #[.int .i64 (j : Int)] 3)) hown fun b hb => bA.block b (hown.lt b hb).2
          have hbA := hbr.trans (bA.mono hbr.size)
          have hsz := hbr.size
          have hsA : (wr.alloc (.cells #[.int .i64 (j : Int)] 3)).heap.size = wr.heap.size + 1 := by simp
          have Hst := hid5 hst
          subst hqf
          clear hown hst hmj bA hbr
          generalize mkL m j = ns at *
          generalize hwA : wr.alloc (.cells #[.int .i64 (j : Int)] 3) = wA at *
          go_wp2_with (at_builtin; refine wpList_append_own _ rfl _ _ 28 rfl w4.heap.size 3 i0 (.int .i64 0) 1 8 intsType5 hi hz0 hz1 hz2 rfl (by decide) (.slice pq ns.length cq) ns.length (icells ns) rfl hownA ⟨wr.heap.size, 0, none⟩ 1 1 [.int .i64 (j : Int)] rfl rfl ?c1 ?c2 ?c3 ?c4 ?c5 ?_)
          case c1 =>
            intro k u' hk'
            match k, hk' with
            | 0, hk' => simp at hk'; subst hk'; exact (cell_of_row _ _ _ _ _ _ hx4).trans rfl
          case c2 => intro u hu; simp at hu; subst hu; rfl
          case c3 => unfold maxLen; omega
          case c4 => omega
          case c5 => omega
          intro v' w5 hown' hgrow _
          have hlo := hownA.lt
          have hb5 : Below w4.heap.size w4 w5 := hbA.grown hgrow (by omega) (fun q hq => (hlo q hq).1)
          have HN : Hid (URel m us.length w w4 v' (.int .i64 ((j + 1 : Nat) : Int)) w5) := by
            refine ⟨j + 1, rfl, by omega, ?_, hb5⟩
            rw [Hst.out, icells_snoc]
            simpa using hown'
          clear hown' hgrow hownA hx4 hwA hbA hb5 Hst hlo km
          go_wp2_with fail
          go_roundw
          case rel => first
            | exact HN.out
            | exact ⟨_, _, _, _, HN.out, rfl, rfl, rfl, rfl⟩
          case measure => simp [intOf]; omega
        | false =>
          rw [hmj] at km
          rw [if_neg (by rw [hmj]; decide)] at hst
          have HN : Hid (URel m us.length w w4 u5 (.int .i64 ((j + 1 : Nat) : Int)) wr) := ⟨j + 1, rfl, by omega, by rw [hst]; exact hown, hbr⟩
          clear hown hst hmj hbr
          go_wp2_with fail
          go_roundw
          case rel => first
            | exact HN.out
            | exact ⟨_, _, _, _, HN.out, rfl, rfl, rfl, rfl⟩
          case measure => simp [intOf]; omega
      · have hlt' : ¬ (j : Int) < (us.length : Int) := by omega
        have ej : j = us.length := by omega
        have HO : Hid (OutU (usesL l (rn : Int)) w (.returned u5) wr) := by
          rw [HU.out, ← ej]
          exact ⟨_, rfl, rowI_of_owns hown (by omega), (Hbw.out).trans (hbr.mono (Hbw.out).size)⟩
        clear hown hbr Hg ej hml
        go_wp2_with fail
        go_ret
        exact HO.out
  · have HU : Hid (usesL l r = []) := if_pos (.inr (.inr h3))
    have hne : ((chkW l).1 != 0) = true := by simpa using h3
    have Hn := HNil
    generalize (chkW l).1 = er at *
    generalize (((chkW l).2 : Nat) : Int) = at0 at *
    clear h h3 HNil
    go_enter Try.func8, Try.ntmps8
    go_wp2_with fail
    refine cW.mono ?_
    rintro e w1 ⟨rfl, hb1⟩
    clear cW
    go_wp2_with fail
    go_ret
    rw [HU.out]
    exact Hn.out _ hb1
end Go.Proofs.Ytjllbklkaalafaa

/- What the document tells of who refers to whom is what the program tells: plain. -/
namespace Lx
/-- Right in itself, and so are all within. -/
theorem shape_kids {e : Ex} {deep n : Nat} (h : (shapeP e deep n).1 = 0) : aloneP e = 0 ∧ ∀ k ∈ e.kids, ∃ deep n, (shapeP k deep n).1 = 0 := by
  rw [shapeP_eq] at h
  split at h
  · cases h
  · split at h
    · rename_i h2; exact absurd h h2
    · rename_i h2
      refine ⟨by simpa using h2, ?_⟩
      have aux : ∀ (ks : List Ex) (m : Int × Nat), (shapeL ks (deep + 1) m).1 = 0 → m.1 = 0 → ∀ k ∈ ks, ∃ deep n, (shapeP k deep n).1 = 0 := by
        intro ks
        induction ks with
        | nil => intro _ _ _ k hk; cases hk
        | cons q ks ih =>
          intro m h0 hm k hk
          rw [shapeL_cons, if_neg (by simpa using hm)] at h0
          have hz : (shapeP q (deep + 1) m.2).1 = 0 := by
            by_cases hz : (shapeP q (deep + 1) m.2).1 = 0
            · exact hz
            · rw [shapeL_bad hz] at h0; exact h0
          rcases List.mem_cons.1 hk with rfl | hk
          · exact ⟨_, _, hz⟩
          · exact ih _ h0 hz k hk
      exact aux e.kids (0, n + 1) h rfl
theorem name_kids {e : Ex} (h : aloneP e = 0) (hk : e.kind = 10) : e.kids = [] := by
  unfold aloneP at h
  split at h
  · cases h
  · split at h
    · cases h
    · rename_i h2
      have : e.kids.length = kidsP e.kind := by simpa using h2
      rw [hk] at this
      exact List.length_eq_zero_iff.1 this
theorem spk_iff : ∀ (N : Nat) (e : Ex) (x : List UInt8), sizeOf e ≤ N → (∃ deep n, (shapeP e deep n).1 = 0) → (spk e x = true ↔ x ∈ nms e)
  | 0, e, _, hN, _ => by cases e; simp at hN
  | N + 1, e, x, hN, ⟨deep, n, h⟩ => by
    obtain ⟨h1, h2⟩ := shape_kids h
    rw [spk_eq, nms_eq]
    by_cases hk : e.kind = 10
    · rw [if_pos hk, if_pos hk, name_kids h1 hk]
      simp [nmsL, eq_comm]
    · rw [if_neg hk, if_neg hk, List.nil_append]
      unfold spkL nmsL
      rw [List.any_eq_true, List.mem_flatten]
      constructor
      · rintro ⟨k, hk, hs⟩
        exact ⟨nms k, List.mem_map.2 ⟨k, hk, rfl⟩, (spk_iff N k x (by have := kid_lt hk; omega) (h2 k hk)).1 hs⟩
      · rintro ⟨ns, hns, hx⟩
        obtain ⟨k, hk, rfl⟩ := List.mem_map.1 hns
        exact ⟨k, hk, (spk_iff N k x (by have := kid_lt hk; omega) (h2 k hk)).2 hx⟩
theorem unk_iff {l : List Ru} : ∀ (N : Nat) (e : Ex), sizeOf e ≤ N → (∃ deep n, (shapeP e deep n).1 = 0) → (unk e l = true ↔ ∃ x ∈ nms e, atP5 l x = -1)
  | 0, e, hN, _ => by cases e; simp at hN
  | N + 1, e, hN, ⟨deep, n, h⟩ => by
    obtain ⟨h1, h2⟩ := shape_kids h
    rw [unk_eq, nms_eq]
    by_cases hk : e.kind = 10
    · rw [if_pos hk, if_pos hk, name_kids h1 hk]
      have hb := (atP5_bd l e.name).1
      simp [nmsL]
      omega
    · rw [if_neg hk, if_neg hk, List.nil_append]
      unfold unkL nmsL
      rw [List.any_eq_true]
      constructor
      · rintro ⟨k, hk, hs⟩
        obtain ⟨x, hx, hx2⟩ := (unk_iff N k (by have := kid_lt hk; omega) (h2 k hk)).1 hs
        exact ⟨x, List.mem_flatten.2 ⟨nms k, List.mem_map.2 ⟨k, hk, rfl⟩, hx⟩, hx2⟩
      · rintro ⟨x, hx, hx2⟩
        obtain ⟨ns, hns, hx⟩ := List.mem_flatten.1 hx
        obtain ⟨k, hk, rfl⟩ := List.mem_map.1 hns
        exact ⟨k, hk, (unk_iff N k (by have := kid_lt hk; omega) (h2 k hk)).2 ⟨x, hx, hx2⟩⟩
/-- Which rule leads to which, as the document says it. -/
def edgE (l : List Ru) (i k : Nat) : Bool := match l[i]?, l[k]? with | some u, some v => decide (atP5 l v.1 = (k : Int)) && spk u.2 v.1 | _, _ => false
theorem wars_same {E E' : Nat → Nat → Bool} {n : Nat} (h : ∀ i k, i < n → k < n → E i k = E' i k) : ∀ (m i k : Nat), m ≤ n → i < n → k < n → wars E m i k = wars E' m i k
  | 0, i, k, _, hi, hk => h i k hi hk
  | m + 1, i, k, hm, hi, hk => by
    simp only [wars]
    rw [wars_same h m i k (by omega) hi hk, wars_same h m i m (by omega) hi (by omega), wars_same h m m k (by omega) (by omega) hk]
end Lx
namespace Go.Proofs.Ytjllbklkaalafaa
open Go.RowKit Lx

theorem right_all {l : List Ru} (h : (wrongR l).1 = 0) : ∀ u ∈ l, ∃ deep n, (shapeP u.2 deep n).1 = 0 := by
  unfold wrongR at h
  split at h
  · cases h
  · have aux : ∀ (l : List Ru) (i : Nat), (wrongL l i).1 = 0 → ∀ u ∈ l, ruleP u = 0 := by
      intro l
      induction l with
      | nil => intro _ _ u hu; cases hu
      | cons x l ih =>
        intro i h u hu
        rw [wrongL] at h
        split at h
        · rename_i hx; exact absurd h hx
        · rename_i hx
          rcases List.mem_cons.1 hu with rfl | hu
          · simpa using hx
          · exact ih _ h u hu
    intro u hu
    have hr := aux l 0 h u hu
    unfold ruleP at hr
    split at hr
    · cases hr
    · exact ⟨1, 0, hr⟩
def rk2 (l : List Ru) (i : Nat) : Bool := match l[i]? with | some u => unk u.2 l | none => false
def rk3 (l : List Ru) (i : Nat) : Bool := wars (edgE l) l.length i i
theorem rk2_same {l : List Ru} (h : (wrongR l).1 = 0) (i : Nat) : rk2 l i = lk2 l i := by
  unfold rk2 lk2
  cases hu : l[i]? with
  | none => rfl
  | some u =>
    dsimp only
    have hr := right_all h u (List.mem_of_getElem? hu)
    have h1 := unk_iff (l := l) _ u.2 (Nat.le_refl _) hr
    have h2 := spoken_mem (l := l) (m := -1) (nms u.2) []
    have h3 : (-1 ∈ spkR l u) ↔ unk u.2 l = true := by
      rw [h1]
      unfold spkR
      rw [h2]
      simp
    by_cases hm : -1 ∈ spkR l u
    · rw [decide_eq_true hm, h3.1 hm]
    · rw [decide_eq_false hm]
      cases hb : unk u.2 l with
      | false => rfl
      | true => exact absurd (h3.2 hb) hm
theorem edge_same {l : List Ru} (h : (wrongR l).1 = 0) (hno : ∀ u ∈ l, -1 ∉ spkR l u) {i k : Nat} (hi : i < l.length) (hk : k < l.length) : edgE l i k = (leadS l i).contains k := by
  obtain ⟨u, hu⟩ : ∃ u, l[i]? = some u := ⟨l[i], List.getElem?_eq_getElem hi⟩
  obtain ⟨v, hv⟩ : ∃ v, l[k]? = some v := ⟨l[k], List.getElem?_eq_getElem hk⟩
  have hr := right_all h u (List.mem_of_getElem? hu)
  have h1 := spk_iff _ u.2 v.1 (Nat.le_refl _) hr
  have hc : (leadS l i).contains k = true ↔ (k : Int) ∈ spkR l u := by
    rw [leadS_at hu, List.contains_iff_mem]
    unfold natsOf
    rw [List.mem_map]
    constructor
    · rintro ⟨m, hm, e⟩
      have hb := (spoken_len (l := l) (nms u.2) [] List.nodup_nil (fun m hm => by cases hm)).2 m hm
      have hne : m ≠ -1 := fun e => hno u (List.mem_of_getElem? hu) (e ▸ hm)
      have : m = (k : Int) := by omega
      rw [← this]; exact hm
    · intro hm
      exact ⟨(k : Int), hm, by omega⟩
  have h2 : (k : Int) ∈ spkR l u ↔ edgE l i k = true := by
    unfold spkR edgE
    rw [spoken_mem, hu, hv]
    dsimp only
    rw [Bool.and_eq_true, decide_eq_true_eq, h1]
    constructor
    · rintro (hx | ⟨x, hx, hx2⟩)
      · cases hx
      · obtain ⟨v', hv', e⟩ := atP5_name hx2
        rw [hv] at hv'
        cases hv'
        rw [e]
        exact ⟨hx2, hx⟩
    · rintro ⟨ha, hb⟩
      exact .inr ⟨v.1, hb, ha⟩
  cases hb : edgE l i k with
  | true => exact (hc.2 (h2.2 hb)).symm
  | false =>
    cases hd : (leadS l i).contains k with
    | false => rfl
    | true => rw [h2.1 (hc.1 hd)] at hb; cases hb
theorem leadS_lt {l : List Ru} (hno : ∀ u ∈ l, -1 ∉ spkR l u) : ∀ r, ∀ k ∈ leadS l r, k < l.length := fun i k hk' => by
  unfold leadS at hk'
  split at hk'
  · rename_i u hu
    unfold natsOf at hk'
    obtain ⟨m, hm, rfl⟩ := List.mem_map.1 hk'
    have hb := (spoken_len (l := l) (nms u.2) [] List.nodup_nil (fun m hm => by cases hm)).2 m hm
    have hne : m ≠ -1 := fun e => hno u (List.mem_of_getElem? hu) (e ▸ hm)
    omega
  · cases hk'
theorem reach_same {l : List Ru} (h : (wrongR l).1 = 0) (hno : ∀ u ∈ l, -1 ∉ spkR l u) {i k : Nat} (hi : i < l.length) (hk : k < l.length) : wars (edgE l) l.length i k = fol (leadS l) (l.length + 1) (fun _ => false) i k := by
  rw [fol_wars (leadS_lt hno) (Nat.le_refl _)]
  exact wars_same (fun i k hi hk => edge_same h hno hi hk) l.length i k (Nat.le_refl _) hi hk
/-- What is wrong, as the document says it. -/
def refW (l : List Ru) : Int × Nat := if (wrongR l).1 ≠ 0 then wrongR l else match frF (lk1 l) 0 l.length with
  | some i => (7, i)
  | none => match frF (rk2 l) 0 l.length with
    | some i => (6, i)
    | none => match frF (rk3 l) 0 l.length with
      | some i => (9, i)
      | none => (0, 0)
theorem frF_same {p q : Nat → Bool} : ∀ (k i : Nat), (∀ j, i ≤ j → j < i + k → p j = q j) → frF p i k = frF q i k
  | 0, _, _ => rfl
  | k + 1, i, h => by
    rw [frF, frF, h i (Nat.le_refl _) (by omega), frF_same k (i + 1) fun j a b => h j (by omega) (by omega)]
theorem frF_all {p : Nat → Bool} : ∀ (k i : Nat), frF p i k = none → ∀ j, i ≤ j → j < i + k → p j = false
  | 0, i, _, j, a, b => by omega
  | k + 1, i, h, j, a, b => by
    rw [frF] at h
    split at h
    · cases h
    · rename_i hn
      by_cases e : j = i
      · rw [e]; simpa using hn
      · exact frF_all k (i + 1) h j (by omega) (by omega)
theorem lk2_no {l : List Ru} (h : frF (lk2 l) 0 l.length = none) : ∀ u ∈ l, -1 ∉ spkR l u := fun u hu hm => by
  obtain ⟨j, hj⟩ := List.getElem?_of_mem hu
  have hj' : j < l.length := (List.getElem?_eq_some_iff.1 hj).1
  have := frF_all l.length 0 h j (by omega) (by omega)
  unfold lk2 at this
  rw [hj] at this
  dsimp only at this
  rw [decide_eq_true hm] at this
  cases this
theorem refW_same (l : List Ru) : refW l = chkW l := by
  unfold refW chkW
  by_cases h0 : (wrongR l).1 ≠ 0
  · rw [if_pos h0, if_pos h0]
  rw [if_neg h0, if_neg h0]
  have h0' : (wrongR l).1 = 0 := by simpa using h0
  rw [frF_same (p := rk2 l) (q := lk2 l) l.length 0 fun j _ _ => rk2_same h0' j]
  cases frF (lk1 l) 0 l.length with
  | some i => rfl
  | none =>
    dsimp only
    cases h2 : frF (lk2 l) 0 l.length with
    | some i => rfl
    | none =>
      dsimp only
      have hno := lk2_no h2
      rw [frF_same (p := rk3 l) (q := lk3 l) l.length 0 fun j _ hj => reach_same h0' hno (by omega) (by omega)]
      cases frF (lk3 l) 0 l.length <;> rfl
theorem mkL_same {m m' : Nat → Bool} {n : Nat} (h : ∀ k, k < n → m k = m' k) : mkL m n = mkL m' n := by
  unfold mkL
  congr 1
  exact List.filter_congr fun k hk => h k (by simpa using hk)
theorem usesL_ref {l : List Ru} {r : Nat} (h : (chkW l).1 = 0) (hr : r < l.length) : mkL (wars (edgE l) l.length r) l.length = mkL (fol (leadS l) (l.length + 1) (fun _ => false) r) l.length := by
  obtain ⟨h0, hno⟩ := chk_lk2 h
  exact mkL_same fun k hk => reach_same h0 hno hr hk
end Go.Proofs.Ytjllbklkaalafaa

/- Who refers to whom: to all that it speaks of, and to all that those refer to: plain. -/
namespace Go.Proofs.Ytjllbklkaalafaa
open Go.RowKit Lx

theorem chk_all {l : List Ru} (h : (chkW l).1 = 0) : (∀ i, i < l.length → lk1 l i = false) ∧ ∀ i, i < l.length → lk3 l i = false := by
  unfold chkW at h
  split at h
  · rename_i h0; exact absurd h h0
  · split at h
    · cases h
    · rename_i h1
      split at h
      · cases h
      · split at h
        · cases h
        · rename_i h3
          exact ⟨fun i hi => frF_all l.length 0 h1 i (by omega) (by omega), fun i hi => frF_all l.length 0 h3 i (by omega) (by omega)⟩
theorem mem_mkL {m : Nat → Bool} {n : Nat} {x : Int} : x ∈ mkL m n ↔ ∃ k : Nat, x = (k : Int) ∧ k < n ∧ m k = true := by
  unfold mkL
  rw [List.mem_map]
  constructor
  · rintro ⟨k, hk, rfl⟩
    rw [List.mem_filter, List.mem_range] at hk
    exact ⟨k, rfl, hk.1, hk.2⟩
  · rintro ⟨k, rfl, h1, h2⟩
    exact ⟨k, by rw [List.mem_filter, List.mem_range]; exact ⟨h1, h2⟩, rfl⟩
theorem foldN_mem (ns : List Int) : ∀ (S : List Int) (m : Int), m ∈ ns.foldl addN S ↔ m ∈ S ∨ m ∈ ns := by
  induction ns with
  | nil => intro S m; simp
  | cons n ns ih =>
    intro S m
    rw [List.foldl_cons, ih, addN_mem, List.mem_cons, or_assoc]
/-- What is to be referred to, of the first so many rules. -/
def wantL (l : List Ru) (u : Ru) : Nat → List Int
  | 0 => []
  | j + 1 => match l[j]? with
    | some v => if spk u.2 v.1 = true then (usesL l (j : Int)).foldl addN (addN (wantL l u j) (j : Int)) else wantL l u j
    | none => wantL l u j
theorem want_mem {l : List Ru} {u : Ru} {m : Int} : ∀ j, j ≤ l.length → (m ∈ wantL l u j ↔ ∃ (k : Nat) (v : Ru), k < j ∧ l[k]? = some v ∧ spk u.2 v.1 = true ∧ (m = (k : Int) ∨ m ∈ usesL l (k : Int)))
  | 0, _ => by
    constructor
    · intro h; cases h
    · rintro ⟨k, v, h, _⟩; omega
  | j + 1, hj => by
    have ih := want_mem (l := l) (u := u) (m := m) j (by omega)
    obtain ⟨v, hv⟩ : ∃ v, l[j]? = some v := ⟨l[j]'(by omega), List.getElem?_eq_getElem (by omega)⟩
    have e : wantL l u (j + 1) = if spk u.2 v.1 = true then (usesL l (j : Int)).foldl addN (addN (wantL l u j) (j : Int)) else wantL l u j := by
      rw [wantL, hv]
    rw [e]
    by_cases hs : spk u.2 v.1 = true
    · rw [if_pos hs, foldN_mem, addN_mem, ih]
      constructor
      · rintro ((⟨k, v', a, b, c, d⟩ | h) | h)
        · exact ⟨k, v', by omega, b, c, d⟩
        · exact ⟨j, v, by omega, hv, hs, .inl h⟩
        · exact ⟨j, v, by omega, hv, hs, .inr h⟩
      · rintro ⟨k, v', a, b, c, d⟩
        by_cases ek : k = j
        · subst ek
          rcases d with d | d
          · exact .inl (.inr d)
          · exact .inr d
        · exact .inl (.inl ⟨k, v', by omega, b, c, d⟩)
    · rw [if_neg hs, ih]
      constructor
      · rintro ⟨k, v', a, b, c, d⟩
        exact ⟨k, v', by omega, b, c, d⟩
      · rintro ⟨k, v', a, b, c, d⟩
        by_cases ek : k = j
        · subst ek
          rw [hv] at b
          cases b
          exact absurd c hs
        · exact ⟨k, v', by omega, b, c, d⟩
theorem way_step {E : Nat → Nat → Bool} {i k : Nat} : Lx.Way E i k ↔ E i k = true ∨ ∃ j, E i j = true ∧ Lx.Way E j k := by
  constructor
  · intro h
    induction h with
    | single h => exact .inl h
    | tail _ h2 ih =>
      rcases ih with ih | ⟨j, h1, ih⟩
      · exact .inr ⟨_, ih, .single h2⟩
      · exact .inr ⟨j, h1, .tail ih h2⟩
  · rintro (h | ⟨j, h1, h2⟩)
    · exact .single h
    · exact (Relation.TransGen.single (r := fun a b => E a b = true) h1).trans h2
theorem uses_mem {l : List Ru} (h : (chkW l).1 = 0) {i : Nat} (hi : i < l.length) {x : Int} : x ∈ usesL l (i : Int) ↔ ∃ k : Nat, x = (k : Int) ∧ k < l.length ∧ Lx.Way (fun a b => (leadS l a).contains b) i k := by
  obtain ⟨h0, hno⟩ := chk_lk2 h
  have e : usesL l (i : Int) = mkL (fol (leadS l) (l.length + 1) (fun _ => false) i) l.length := by
    unfold usesL
    rw [if_neg (by omega)]
    rfl
  rw [e, mem_mkL]
  constructor
  · rintro ⟨k, a, b, c⟩
    exact ⟨k, a, b, (fol_way (leadS_lt hno) (Nat.le_refl _)).1 c⟩
  · rintro ⟨k, a, b, c⟩
    exact ⟨k, a, b, (fol_way (leadS_lt hno) (Nat.le_refl _)).2 c⟩
theorem uses_ok {l : List Ru} (h : (chkW l).1 = 0) {i : Nat} (hi : i < l.length) {x : Int} (hx : x ∈ usesL l (i : Int)) : 0 ≤ x ∧ x < l.length ∧ x ≠ (i : Int) := by
  obtain ⟨h0, hno⟩ := chk_lk2 h
  obtain ⟨k, rfl, hk, hw⟩ := (uses_mem h hi).1 hx
  refine ⟨by omega, by omega, fun e => ?_⟩
  have e' : k = i := by omega
  subst e'
  have h3 := (chk_all h).2 k hk
  unfold lk3 at h3
  rw [(fol_way (leadS_lt hno) (Nat.le_refl _)).2 hw] at h3
  cases h3
theorem speaks_lead {l : List Ru} (h : (chkW l).1 = 0) {i j : Nat} {u v : Ru} (hu : l[i]? = some u) (hv : l[j]? = some v) : spk u.2 v.1 = (leadS l i).contains j := by
  obtain ⟨h0, hno⟩ := chk_lk2 h
  have hi : i < l.length := (List.getElem?_eq_some_iff.1 hu).1
  have hj : j < l.length := (List.getElem?_eq_some_iff.1 hv).1
  rw [← edge_same h0 hno hi hj]
  unfold edgE
  rw [hu, hv]
  have h1 := (chk_all h).1 j hj
  unfold lk1 at h1
  rw [hv] at h1
  dsimp only at h1
  have e : atP5 l v.1 = (j : Int) := by simpa using h1
  dsimp only
  rw [e, decide_eq_true rfl, Bool.true_and]
theorem want_same {l : List Ru} (h : (chkW l).1 = 0) {i : Nat} {u : Ru} (hu : l[i]? = some u) (x : Int) : x ∈ (usesL l (i : Int)).foldl addN [] ↔ x ∈ wantL l u l.length := by
  obtain ⟨h0, hno⟩ := chk_lk2 h
  have hi : i < l.length := (List.getElem?_eq_some_iff.1 hu).1
  rw [foldN_mem, uses_mem h hi, want_mem l.length (Nat.le_refl _)]
  constructor
  · rintro (h' | ⟨k, rfl, hk, hw⟩)
    · cases h'
    · rcases way_step.1 hw with he | ⟨j, he, hw'⟩
      · obtain ⟨v, hv⟩ : ∃ v, l[k]? = some v := ⟨l[k], List.getElem?_eq_getElem hk⟩
        exact ⟨k, v, hk, hv, by rw [speaks_lead h hu hv]; exact he, .inl rfl⟩
      · have hj : j < l.length := leadS_lt hno i j (by simpa using he)
        obtain ⟨v, hv⟩ : ∃ v, l[j]? = some v := ⟨l[j], List.getElem?_eq_getElem hj⟩
        exact ⟨j, v, hj, hv, by rw [speaks_lead h hu hv]; exact he, .inr ((uses_mem h hj).2 ⟨k, rfl, hk, hw'⟩)⟩
  · rintro ⟨j, v, hj, hv, hs, hd⟩
    right
    rw [speaks_lead h hu hv] at hs
    rcases hd with rfl | hd
    · exact ⟨j, rfl, hj, way_step.2 (.inl hs)⟩
    · obtain ⟨k, rfl, hk, hw⟩ := (uses_mem h hj).1 hd
      exact ⟨k, rfl, hk, way_step.2 (.inr ⟨j, hs, hw⟩)⟩
end Go.Proofs.Ytjllbklkaalafaa
