/- What can be had, and what is found, plainly. -/
import Derived.Test.YtlhjgajhcabhoaaDoorMn08
import Derived.Test.YtlhjgajhcabhoaaDoorMn04
import Derived.Test.YtlhjgajhcabhoaaDoorMn01
namespace Go.Proofs.YtlhjgajhcabhoaaDoor
open Go.RowKit Msk Mx Lx

theorem fitG_iff {roles : List (List Int)} {fs : List (Nat → Bool)} {x y : Int} : ∀ {l : List Int} {i : Nat} {had : List Int}, fitG roles fs x y l i had = true ↔ (∀ (k : Nat) (r : Int), l[k]? = some r → r ∈ roles.getD (i + k) []) ∧ (∀ r ∈ l, r ∉ had) ∧ l.Nodup ∧ ∀ r ∈ l, okP fs x y r = true
  | [], i, had => by simp [fitG]
  | r :: l, i, had => by
    rw [fitG]
    by_cases h : r ∉ roles.getD i [] ∨ r ∈ had ∨ okP fs x y r = false
    · rw [if_pos h]
      constructor
      · intro h; cases h
      · rintro ⟨h1, h2, _, h4⟩
        exfalso
        rcases h with h | h | h
        · exact h (h1 0 r rfl)
        · exact h2 r List.mem_cons_self h
        · rw [h4 r List.mem_cons_self] at h; cases h
    · rw [if_neg h, fitG_iff]
      have h1 : r ∈ roles.getD i [] := Classical.not_not.1 fun e => h (.inl e)
      have h2 : r ∉ had := fun e => h (.inr (.inl e))
      have h3 : okP fs x y r = true := by
        cases hk : okP fs x y r with
        | true => rfl
        | false => exact absurd (.inr (.inr hk)) h
      constructor
      · rintro ⟨q1, q2, q3, q4⟩
        refine ⟨fun k u hk => ?_, fun u hu => ?_, List.nodup_cons.2 ⟨fun hm => ?_, q3⟩, fun u hu => ?_⟩
        · match k, hk with
          | 0, hk => cases Option.some.inj hk; exact h1
          | k + 1, hk =>
            have := q1 k u (by simpa using hk)
            rw [show i + (k + 1) = i + 1 + k by omega]
            exact this
        · rcases List.mem_cons.1 hu with rfl | hu
          · exact h2
          · exact fun e => q2 u hu ((addN_mem _ _ _).2 (.inl e))
        · exact q2 r hm ((addN_mem _ _ _).2 (.inr rfl))
        · rcases List.mem_cons.1 hu with rfl | hu
          · exact h3
          · exact q4 u hu
      · rintro ⟨q1, q2, q3, q4⟩
        refine ⟨fun k u hk => ?_, fun u hu e => ?_, (List.nodup_cons.1 q3).2, fun u hu => q4 u (List.mem_cons_of_mem _ hu)⟩
        · have := q1 (k + 1) u (by simpa using hk)
          rw [show i + 1 + k = i + (k + 1) by omega]
          exact this
        · rcases (addN_mem _ _ _).1 e with e | rfl
          · exact q2 u (List.mem_cons_of_mem _ hu) e
          · exact (List.nodup_cons.1 q3).1 hu
theorem fitB_iff {s : Sv} {ds : List (List (Nat → Bool))} {day min : Int} {who : List Int} : fitB s ds day min who = true ↔ ∃ (d : Nat) (fs : List (Nat → Bool)), day = (d : Int) ∧ ds[d]? = some fs ∧ Fit s fs min who := by
  unfold fitB
  by_cases h : day < 0 ∨ (ds.length : Int) ≤ day ∨ who.length ≠ s.roles.length
  · rw [if_pos h]
    constructor
    · intro h; cases h
    · rintro ⟨d, fs, rfl, hd, hf⟩
      exfalso
      have h1 := (List.getElem?_eq_some_iff.1 hd).1
      have h2 := hf.len
      omega
  · rw [if_neg h]
    obtain ⟨d, hd⟩ : ∃ d : Nat, day = (d : Int) := ⟨day.toNat, by omega⟩
    subst hd
    have hl : who.length = s.roles.length := Classical.not_not.1 fun e => h (.inr (.inr e))
    have hdl : d < ds.length := by omega
    have hds : ds[d]? = some (ds[d]'hdl) := List.getElem?_eq_getElem hdl
    have eg : ds.getD (Int.toNat (d : Int)) [] = ds[d]'hdl := by simp [List.getD, hds]
    have ey : min + s.len + s.aft = min - s.bef + whole s := by unfold whole; omega
    rw [eg, ey, fitG_iff]
    constructor
    · rintro ⟨q1, _, q3, q4⟩
      refine ⟨d, _, rfl, hds, hl, fun i r p h1 h2 => ?_, q3, q4⟩
      have := q1 i r h1
      rwa [Nat.zero_add, show s.roles.getD i [] = p by simp [List.getD, h2]] at this
    · rintro ⟨d', fs, e, hd', hf⟩
      have : d' = d := by omega
      subst this
      rw [hds] at hd'
      cases Option.some.inj hd'
      refine ⟨fun i r h1 => ?_, (fun r _ e => by cases e), hf.nd, hf.ok⟩
      have hil := (List.getElem?_eq_some_iff.1 h1).1
      have hp : s.roles[i]? = some (s.roles[i]'(by omega)) := List.getElem?_eq_getElem _
      rw [Nat.zero_add, show s.roles.getD i [] = s.roles[i]'(by omega) by simp [List.getD, hp]]
      exact hf.mem i r _ h1 hp
theorem fit_min {s : Sv} {n : Int} {fs : List (Nat → Bool)} {m : Int} {who : List Int} (hS : SvOK s n) (h : Fit s fs m who) : 0 ≤ m ∧ m ≤ 1440 := by
  have hme := of_decide_eq_true hS.meas
  have h1 := h.len
  have h2 := hS.r1
  match who, h with
  | [], h => simp at h1; omega
  | r :: l, h =>
    have := (okP_iff _ _ _ _).1 (h.ok r List.mem_cons_self)
    unfold whole at this
    omega
theorem poolG_err (p : List Int) (n : Int) : ∀ m i, poolG p n m i = 0 ∨ poolG p n m i = 6 ∨ poolG p n m i = 2
  | 0, _ => .inl rfl
  | m + 1, i => by
    rw [poolG]
    by_cases c1 : p.getD i 0 < 0 ∨ n ≤ p.getD i 0
    · rw [if_pos c1]; exact .inr (.inl rfl)
    · rw [if_neg c1]
      by_cases c2 : 0 < i ∧ p.getD i 0 ≤ p.getD (i - 1) 0
      · rw [if_pos c2]; exact .inr (.inr rfl)
      · rw [if_neg c2]; exact poolG_err p n m (i + 1)
theorem rolesG_err (n : Int) : ∀ l : List (List Int), 0 ≤ rolesG n l ∧ rolesG n l ≤ 6
  | [] => ⟨Int.le_refl _, show (0 : Int) ≤ 6 by decide⟩
  | p :: l => by
    have hp : 0 ≤ poolE p n ∧ poolE p n ≤ 6 := by
      unfold poolE
      by_cases h : p.length < 1 ∨ 8 < p.length
      · rw [if_pos h]; decide
      · rw [if_neg h]
        rcases poolG_err p n p.length 0 with h | h | h <;> rw [h] <;> decide
    rw [rolesG]
    by_cases h : poolE p n ≠ 0
    · rw [if_pos h]; exact hp
    · rw [if_neg h]; exact rolesG_err n l
theorem wrongS_err (s : Sv) (n : Int) : 0 ≤ wrongS s n ∧ wrongS s n ≤ 6 := by
  unfold wrongS
  by_cases h1 : measB s.len s.bef s.aft = false
  · rw [if_pos h1]; decide
  · rw [if_neg h1]
    by_cases h2 : s.roles.length < 1 ∨ 4 < s.roles.length
    · rw [if_pos h2]; decide
    · rw [if_neg h2]; exact rolesG_err n _
theorem daysE_err (s : Sv) : ∀ l : List (List (Nat → Bool)), 0 ≤ daysE s l ∧ daysE s l ≤ 6
  | [] => ⟨Int.le_refl _, show (0 : Int) ≤ 6 by decide⟩
  | d :: l => by
    rw [daysE]
    by_cases h : wrongS s d.length ≠ 0
    · rw [if_pos h]; exact wrongS_err s _
    · rw [if_neg h]; exact daysE_err s l
theorem daysF_some {s : Sv} : ∀ {l : List (List (Nat → Bool))} {n : Nat} {x : Nat × Int × List Int}, daysF s l n = some x → ∃ (k : Nat) (fs : List (Nat → Bool)), x.1 = n + k ∧ l[k]? = some fs ∧ firstP s.len s.bef s.aft s.roles fs = some (x.2.1, x.2.2) ∧ ∀ (j : Nat) (gs : List (Nat → Bool)), j < k → l[j]? = some gs → firstP s.len s.bef s.aft s.roles gs = none
  | [], n, x, h => by cases h
  | d :: l, n, x, h => by
    rw [daysF] at h
    cases hp : firstP s.len s.bef s.aft s.roles d with
    | some y =>
      rw [hp] at h
      cases Option.some.inj h
      exact ⟨0, d, rfl, rfl, hp, fun j gs hj _ => by omega⟩
    | none =>
      rw [hp] at h
      obtain ⟨k, fs, e1, e2, e3, e4⟩ := daysF_some h
      refine ⟨k + 1, fs, by omega, by simpa using e2, e3, fun j gs hj hg => ?_⟩
      match j, hg with
      | 0, hg => cases Option.some.inj hg; exact hp
      | j + 1, hg => exact e4 j gs (by omega) (by simpa using hg)
theorem daysF_none {s : Sv} : ∀ {l : List (List (Nat → Bool))} {n : Nat}, daysF s l n = none → ∀ fs ∈ l, firstP s.len s.bef s.aft s.roles fs = none
  | [], _, _, fs, hf => by cases hf
  | d :: l, n, h, fs, hf => by
    rw [daysF] at h
    cases hp : firstP s.len s.bef s.aft s.roles d with
    | some y => rw [hp] at h; cases h
    | none =>
      rw [hp] at h
      rcases List.mem_cons.1 hf with rfl | hf
      · exact hp
      · exact daysF_none h fs hf
/-- What is found. -/
theorem find_zero {s : Sv} {ds : List (List (Nat → Bool))} (h : (findP s ds).err = 0) : ds.length ≤ 30 ∧ daysE s ds = 0 ∧ ∃ (d : Nat) (fs : List (Nat → Bool)), (findP s ds).day = (d : Int) ∧ ds[d]? = some fs ∧ firstP s.len s.bef s.aft s.roles fs = some ((findP s ds).min, (findP s ds).who) ∧ ∀ (j : Nat) (gs : List (Nat → Bool)), j < d → ds[j]? = some gs → firstP s.len s.bef s.aft s.roles gs = none := by
  unfold findP at h ⊢
  by_cases h1 : 30 < ds.length
  · rw [if_pos h1] at h; cases h
  · rw [if_neg h1] at h ⊢
    by_cases h2 : daysE s ds ≠ 0
    · rw [if_pos h2] at h; exact absurd h h2
    · rw [if_neg h2] at h ⊢
      have h2' : daysE s ds = 0 := Classical.not_not.1 h2
      cases hd : daysF s ds 0 with
      | none => rw [hd] at h; cases h
      | some x =>
        obtain ⟨k, fs, e1, e2, e3, e4⟩ := daysF_some hd
        exact ⟨by omega, h2', k, fs, by show ((x.1 : Nat) : Int) = _; omega, e2, e3, e4⟩
theorem find_not {s : Sv} {ds : List (List (Nat → Bool))} (h : (findP s ds).err ≠ 0) : (findP s ds).who = [] ∧ (findP s ds).day = 0 ∧ (findP s ds).min = 0 := by
  unfold findP at h ⊢
  by_cases h1 : 30 < ds.length
  · rw [if_pos h1]; exact ⟨rfl, rfl, rfl⟩
  · rw [if_neg h1] at h ⊢
    by_cases h2 : daysE s ds ≠ 0
    · rw [if_pos h2]; exact ⟨rfl, rfl, rfl⟩
    · rw [if_neg h2] at h ⊢
      cases hd : daysF s ds 0 with
      | none => exact ⟨rfl, rfl, rfl⟩
      | some x => rw [hd] at h; exact absurd rfl h
theorem find_slot {s : Sv} {ds : List (List (Nat → Bool))} (h : (findP s ds).err = 11) : ds.length ≤ 30 ∧ daysE s ds = 0 ∧ ∀ fs ∈ ds, firstP s.len s.bef s.aft s.roles fs = none := by
  unfold findP at h
  by_cases h1 : 30 < ds.length
  · rw [if_pos h1] at h; cases h
  · rw [if_neg h1] at h
    by_cases h2 : daysE s ds ≠ 0
    · rw [if_pos h2] at h
      have := daysE_err s ds
      dsimp only at h
      omega
    · rw [if_neg h2] at h
      have h2' : daysE s ds = 0 := Classical.not_not.1 h2
      cases hd : daysF s ds 0 with
      | none => exact ⟨by omega, h2', daysF_none hd⟩
      | some x => rw [hd] at h; cases h
theorem find_fits {s : Sv} {ds : List (List (Nat → Bool))} (h : (findP s ds).err = 0) : fitB s ds (findP s ds).day (findP s ds).min (findP s ds).who = true := by
  obtain ⟨_, h2, d, fs, e1, e2, e3, _⟩ := find_zero h
  rw [fitB_iff]
  exact ⟨d, fs, e1, e2, (first_some (wrong_ok (daysE_ok h2 fs (List.mem_of_getElem? e2))) e3).1⟩
end Go.Proofs.YtlhjgajhcabhoaaDoor

/- The laws MatchFits and MatchFirst, walked. Written by genmal.py. -/
namespace Go.Proofs.YtlhjgajhcabhoaaDoor
open Go.RowKit Msk Mx Lx

theorem days_ok {s : Sv} {ds : List (List (Nat → Bool))} (h : daysE s ds = 0) (d : Nat) (fs : List (Nat → Bool)) (hd : ds[d]? = some fs) : SvOK s fs.length := wrong_ok (daysE_ok h fs (List.mem_of_getElem? hd))
set_option maxRecDepth 100000 in
set_option maxHeartbeats 1000000 in
theorem mfits_walk (s : Sv) (rv : Value) (ds : List (List (Nat → Bool))) (dv : Value) (w : World) (hT : Tab w) (hR : RowRI w rv s.roles) (hD : RowDs w dv ds) :
    Calls Tryd.prog 4 #[svV s rv, dv] w fun e w' => e = .returned (.bool true) ∧ Below w.heap.size w w' := by
  obtain ⟨l, b, a, roles⟩ := s
  dsimp only at hR
  unfold svV
  dsimp only
  obtain ⟨pr, cr, rfl, hlr, hr0⟩ := id hR
  clear hr0
  have bA := (Below.refl w.heap.size w).alloc (Nat.le_refl _) (.cells #[.int .i64 l, .int .i64 b, .int .i64 a, .slice pr roles.length cr] 24)
  have nA := heap_alloc_new w (.cells #[.int .i64 l, .int .i64 b, .int .i64 a, .slice pr roles.length cr] 24)
  generalize hwA : w.alloc (.cells #[.int .i64 l, .int .i64 b, .int .i64 a, .slice pr roles.length cr] 24) = wA at *
  have c0 := alive10_any wA (tab_below hT bA)
  go_enter Tryd.func4, Tryd.ntmps4
  go_wp2_with fail
  refine c0.mono ?_
  rintro e w1 ⟨rfl, b1⟩
  have bb1 := bA.trans (b1.mono bA.size)
  have n1 := (b1.block _ (lt_of_block nA)).trans nA
  have y0 := (cell_of_row _ _ 0 _ _ _ n1).trans rfl
  have y1 := (cell_of_row _ _ 1 _ _ _ n1).trans rfl
  have y2 := (cell_of_row _ _ 2 _ _ _ n1).trans rfl
  have y3 := (cell_of_row _ _ 3 _ _ _ n1).trans rfl
  have c1 := find_any ⟨l, b, a, roles⟩ _ ds dv w1 (tab_below hT bb1) (hR.below bb1) (hD.below bb1)
  unfold svV at c1
  dsimp only at c1
  obtain ⟨R, hRr⟩ : ∃ R, findP ⟨l, b, a, roles⟩ ds = R := ⟨_, rfl⟩
  rw [hRr] at c1
  have HRR := hidr hRr
  have HR0 := hidr hR
  have HD0 := hidr hD
  have HB1 := hidr bb1
  obtain ⟨er, sd, sm, swho⟩ := R
  clear c0 b1 bA bb1 hwA nA hRr
  obtain ⟨pd, cd, rfl, _, _⟩ := hD
  go_wp2_with fail
  refine c1.mono ?_
  rintro e w2 ⟨sv, rfl, ho, b2⟩
  dsimp only at ho
  have HB2 := hidr (HB1.out.trans (b2.mono HB1.out.size))
  have n2 := (b2.block _ (lt_of_block n1)).trans n1
  obtain ⟨ps, cs, rfl⟩ := owns_shape ho
  have bF := (Below.refl w2.heap.size w2).alloc (Nat.le_refl _) (.cells #[.int .i64 sd, .int .i64 sm, .slice ps swho.length cs] 28)
  have nF := heap_alloc_new w2 (.cells #[.int .i64 sd, .int .i64 sm, .slice ps swho.length cs] 28)
  have HOF := hidr (owns_below ho bF)
  have HBF := hidr (HB2.out.trans (bF.mono HB2.out.size))
  have n3 := (bF.block _ (lt_of_block n2)).trans n2
  generalize hwF : w2.alloc (.cells #[.int .i64 sd, .int .i64 sm, .slice ps swho.length cs] 28) = wF at *
  obtain ⟨gF, hgF⟩ : ∃ q, w2.heap.size = q := ⟨_, rfl⟩
  rw [hgF] at nF
  clear c1 ho b2 bF n1 n2 y0 y1 y2 y3
  have x0 := (cell_of_row _ _ 0 _ _ _ nF).trans rfl
  have x1 := (cell_of_row _ _ 1 _ _ _ nF).trans rfl
  have x2 := (cell_of_row _ _ 2 _ _ _ nF).trans rfl
  have y0 := (cell_of_row _ _ 0 _ _ _ n3).trans rfl
  have y1 := (cell_of_row _ _ 1 _ _ _ n3).trans rfl
  have y2 := (cell_of_row _ _ 2 _ _ _ n3).trans rfl
  have y3 := (cell_of_row _ _ 3 _ _ _ n3).trans rfl
  by_cases he : er = 0
  · subst he
    have hz := find_zero (s := ⟨l, b, a, roles⟩) (ds := ds) (by rw [HRR.out])
    have hfb := find_fits (s := ⟨l, b, a, roles⟩) (ds := ds) (by rw [HRR.out])
    rw [HRR.out] at hz hfb
    obtain ⟨_, hz2, d, fs, e1, e2, e3, _⟩ := hz
    have hS := days_ok hz2 d fs e2
    have hmb := fit_min hS (first_some hS e3).1
    dsimp only at e1 e2 e3 hfb hmb
    have c2 := fits_any ⟨l, b, a, roles⟩ _ ds _ sd sm swho _ wF (HR0.out.below HBF.out) (HD0.out.below HBF.out) (rowI_of_owns HOF.out (by
      have h1 := (first_some hS e3).1.len
      have h2 := hS.r4
      dsimp only at h1 h2
      omega)) (fun d' gs _ hd' => days_ok hz2 d' gs hd') (by omega) (by omega)
    unfold svV at c2
    dsimp only at c2
    rw [hfb] at c2
    clear hz2 e1 e2 e3 hS hfb hmb HRR
    go_wp2_with fail
    refine c2.mono ?_
    rintro e w3 ⟨rfl, b3⟩
    go_wp2_with fail
    go_ret
    exact ⟨rfl, HBF.out.trans (b3.mono HBF.out.size)⟩
  · have hw := (find_not (s := ⟨l, b, a, roles⟩) (ds := ds) (by rw [HRR.out]; exact he)).1
    rw [HRR.out] at hw
    dsimp only at hw
    have hsl : ((swho.length : Int) == 0) = true := by rw [hw]; rfl
    have he' : (er == 0) = false := beq_eq_false_iff_ne.2 he
    clear he hw
    go_wp2_with fail
    go_ret
    exact ⟨rfl, HBF.out⟩
/-- None is sooner. -/
theorem first_order {s : Sv} {ds : List (List (Nat → Bool))} {sd sm : Int} {swho : List Int} (h : findP s ds = ⟨0, sd, sm, swho⟩) {day min : Int} {who : List Int} (hf : fitB s ds day min who = true) : sd ≤ day ∧ (day = sd → sm ≤ min ∧ (min = sm → lexB swho who = true)) ∧ swho.length = who.length := by
  obtain ⟨d, fs, rfl, hd, hfit⟩ := fitB_iff.1 hf
  have hz := find_zero (s := s) (ds := ds) (by rw [h])
  rw [h] at hz
  obtain ⟨_, hz2, d0, fs0, e1, e2, e3, e4⟩ := hz
  dsimp only at e1 e3
  have hS := days_ok hz2 d fs hd
  have hle : d0 ≤ d := Classical.byContradiction fun hlt => first_none hS (e4 d fs (by omega) hd) min who hfit
  have h0 := first_some (days_ok hz2 d0 fs0 e2) e3
  refine ⟨by omega, fun he => ?_, by rw [h0.1.len, hfit.len]⟩
  have hdd : d = d0 := by omega
  subst hdd
  rw [e2] at hd
  cases Option.some.inj hd
  rcases h0.2 min who hfit with hlt | ⟨heq, hl⟩
  · exact ⟨by omega, fun e => by omega⟩
  · exact ⟨by omega, fun _ => hl⟩
theorem first_not {s : Sv} {ds : List (List (Nat → Bool))} (h : (findP s ds).err = 11) (day min : Int) (who : List Int) : fitB s ds day min who = false := by
  cases hf : fitB s ds day min who with
  | false => rfl
  | true =>
    exfalso
    obtain ⟨d, fs, rfl, hd, hfit⟩ := fitB_iff.1 hf
    obtain ⟨_, h2, h3⟩ := find_slot h
    exact first_none (days_ok h2 d fs hd) (h3 fs (List.mem_of_getElem? hd)) min who hfit
theorem lexB_step {l k : List Int} {j : Nat} {x y : Int} (h1 : l[j]? = some x) (h2 : k[j]? = some y) : lexB (l.drop j) (k.drop j) = if y ≠ x then decide (x < y) else lexB (l.drop (j + 1)) (k.drop (j + 1)) := by
  obtain ⟨a1, a2⟩ := List.getElem?_eq_some_iff.1 h1
  obtain ⟨b1, b2⟩ := List.getElem?_eq_some_iff.1 h2
  rw [List.drop_eq_getElem_cons a1, List.drop_eq_getElem_cons b1, a2, b2]
  rfl
set_option maxRecDepth 100000 in
set_option maxHeartbeats 1000000 in
theorem mfirst_walk (s : Sv) (rv : Value) (ds : List (List (Nat → Bool))) (dv : Value) (day min : Int) (who : List Int) (wv : Value) (w : World) (hT : Tab w) (hR : RowRI w rv s.roles) (hD : RowDs w dv ds) (hW : RowI w wv who) :
    Calls Tryd.prog 5 #[svV s rv, dv, .int .i64 day, .int .i64 min, wv] w fun e w' => e = .returned (.bool true) ∧ Below w.heap.size w w' := by
  obtain ⟨pw, cw, rfl, hlw, hw0⟩ := id hW
  clear hw0
  have HW0 := hidr hW
  clear hW
  obtain ⟨l, b, a, roles⟩ := s
  dsimp only at hR
  unfold svV
  dsimp only
  obtain ⟨pr, cr, rfl, hlr, hr0⟩ := id hR
  clear hr0
  have bA := (Below.refl w.heap.size w).alloc (Nat.le_refl _) (.cells #[.int .i64 l, .int .i64 b, .int .i64 a, .slice pr roles.length cr] 24)
  have nA := heap_alloc_new w (.cells #[.int .i64 l, .int .i64 b, .int .i64 a, .slice pr roles.length cr] 24)
  generalize hwA : w.alloc (.cells #[.int .i64 l, .int .i64 b, .int .i64 a, .slice pr roles.length cr] 24) = wA at *
  have c0 := alive10_any wA (tab_below hT bA)
  go_enter Tryd.func5, Tryd.ntmps5
  go_wp2_with fail
  refine c0.mono ?_
  rintro e w1 ⟨rfl, b1⟩
  have bb1 := bA.trans (b1.mono bA.size)
  have n1 := (b1.block _ (lt_of_block nA)).trans nA
  have y0 := (cell_of_row _ _ 0 _ _ _ n1).trans rfl
  have y1 := (cell_of_row _ _ 1 _ _ _ n1).trans rfl
  have y2 := (cell_of_row _ _ 2 _ _ _ n1).trans rfl
  have y3 := (cell_of_row _ _ 3 _ _ _ n1).trans rfl
  have c1 := find_any ⟨l, b, a, roles⟩ _ ds dv w1 (tab_below hT bb1) (hR.below bb1) (hD.below bb1)
  unfold svV at c1
  dsimp only at c1
  obtain ⟨R, hRr⟩ : ∃ R, findP ⟨l, b, a, roles⟩ ds = R := ⟨_, rfl⟩
  rw [hRr] at c1
  have HRR := hidr hRr
  have HR0 := hidr hR
  have HD0 := hidr hD
  have HB1 := hidr bb1
  obtain ⟨er, sd, sm, swho⟩ := R
  clear c0 b1 bA bb1 hwA nA hRr
  obtain ⟨pd, cd, rfl, _, _⟩ := hD
  go_wp2_with fail
  refine c1.mono ?_
  rintro e w2 ⟨sv, rfl, ho, b2⟩
  dsimp only at ho
  have HB2 := hidr (HB1.out.trans (b2.mono HB1.out.size))
  have n2 := (b2.block _ (lt_of_block n1)).trans n1
  obtain ⟨ps, cs, rfl⟩ := owns_shape ho
  have bF := (Below.refl w2.heap.size w2).alloc (Nat.le_refl _) (.cells #[.int .i64 sd, .int .i64 sm, .slice ps swho.length cs] 28)
  have nF := heap_alloc_new w2 (.cells #[.int .i64 sd, .int .i64 sm, .slice ps swho.length cs] 28)
  have HOF := hidr (owns_below ho bF)
  have HBF := hidr (HB2.out.trans (bF.mono HB2.out.size))
  have n3 := (bF.block _ (lt_of_block n2)).trans n2
  generalize hwF : w2.alloc (.cells #[.int .i64 sd, .int .i64 sm, .slice ps swho.length cs] 28) = wF at *
  obtain ⟨gF, hgF⟩ : ∃ q, w2.heap.size = q := ⟨_, rfl⟩
  rw [hgF] at nF
  clear c1 ho b2 bF n1 n2 y0 y1 y2 y3
  have x0 := (cell_of_row _ _ 0 _ _ _ nF).trans rfl
  have x1 := (cell_of_row _ _ 1 _ _ _ nF).trans rfl
  have x2 := (cell_of_row _ _ 2 _ _ _ nF).trans rfl
  have y0 := (cell_of_row _ _ 0 _ _ _ n3).trans rfl
  have y1 := (cell_of_row _ _ 1 _ _ _ n3).trans rfl
  have y2 := (cell_of_row _ _ 2 _ _ _ n3).trans rfl
  have y3 := (cell_of_row _ _ 3 _ _ _ n3).trans rfl
  by_cases he : er = 0 ∨ er = 11
  case neg =>
    have he0 : (er == 0) = false := beq_eq_false_iff_ne.2 fun e => he (.inl e)
    have he1 : (er == 11) = false := beq_eq_false_iff_ne.2 fun e => he (.inr e)
    have hA : (er != 0) = true := by rw [bne, he0]; rfl
    have hB : (er != 11) = true := by rw [bne, he1]; rfl
    clear he
    go_wp2_with fail
    go_ret
    exact ⟨rfl, HBF.out⟩
  have HE : Hid (daysE ⟨l, b, a, roles⟩ ds = 0) := by
    rcases he with rfl | rfl
    · exact (find_zero (s := ⟨l, b, a, roles⟩) (ds := ds) (by rw [HRR.out])).2.1
    · exact (find_slot (s := ⟨l, b, a, roles⟩) (ds := ds) (by rw [HRR.out])).2.1
  have bG := (Below.refl wF.heap.size wF).alloc (Nat.le_refl _) (.cells #[.int .i64 day, .int .i64 min, .slice pw who.length cw] 28)
  have nG := heap_alloc_new wF (.cells #[.int .i64 day, .int .i64 min, .slice pw who.length cw] 28)
  have HBG := hidr (HBF.out.trans (bG.mono HBF.out.size))
  have HOG := hidr (owns_below HOF.out bG)
  have n4 := (bG.block _ (lt_of_block n3)).trans n3
  have nF4 := (bG.block _ (lt_of_block nF)).trans nF
  generalize hwG : wF.alloc (.cells #[.int .i64 day, .int .i64 min, .slice pw who.length cw] 28) = wG at *
  have u0 := (cell_of_row _ _ 0 _ _ _ nG).trans rfl
  have u1 := (cell_of_row _ _ 1 _ _ _ nG).trans rfl
  have u2 := (cell_of_row _ _ 2 _ _ _ nG).trans rfl
  have t0 := (cell_of_row _ _ 0 _ _ _ n4).trans rfl
  have t1 := (cell_of_row _ _ 1 _ _ _ n4).trans rfl
  have t2 := (cell_of_row _ _ 2 _ _ _ n4).trans rfl
  have t3 := (cell_of_row _ _ 3 _ _ _ n4).trans rfl
  have HER := hidr he
  have he2 : (er == 0) = true ∧ er = 0 ∨ ((er == 0) = false ∧ (er == 11) = true) ∧ er = 11 := by
    rcases he with rfl | rfl
    · exact .inl ⟨rfl, rfl⟩
    · exact .inr ⟨⟨rfl, rfl⟩, rfl⟩
  clear bG nG n3 n4 nF x0 x1 x2 y0 y1 y2 y3 HOF HBF he
  by_cases hm0 : min < 0
  · rcases he2 with ⟨he3, _⟩ | ⟨⟨he3, he4⟩, _⟩
    · go_wp2_with fail
      go_ret
      exact ⟨rfl, HBG.out⟩
    · go_wp2_with fail
      go_ret
      exact ⟨rfl, HBG.out⟩
  by_cases hm1 : 1440 ≤ min
  · rcases he2 with ⟨he3, _⟩ | ⟨⟨he3, he4⟩, _⟩
    · go_wp2_with fail
      go_ret
      exact ⟨rfl, HBG.out⟩
    · go_wp2_with fail
      go_ret
      exact ⟨rfl, HBG.out⟩
  have c2 := fits_any ⟨l, b, a, roles⟩ _ ds _ day min who _ wG (HR0.out.below HBG.out) (HD0.out.below HBG.out) (HW0.out.below HBG.out) (fun d' gs _ hd' => days_ok HE.out d' gs hd') (by omega) (by omega)
  unfold svV at c2
  dsimp only at c2
  cases hfb : fitB ⟨l, b, a, roles⟩ ds day min who with
  | false =>
    rw [hfb] at c2
    rcases he2 with ⟨he3, _⟩ | ⟨⟨he3, he4⟩, _⟩
    · clear hfb
      go_wp2_with fail
      refine c2.mono ?_
      rintro e w3 ⟨rfl, b3⟩
      go_wp2_with fail
      go_ret
      exact ⟨rfl, HBG.out.trans (b3.mono HBG.out.size)⟩
    · clear hfb
      go_wp2_with fail
      refine c2.mono ?_
      rintro e w3 ⟨rfl, b3⟩
      go_wp2_with fail
      go_ret
      exact ⟨rfl, HBG.out.trans (b3.mono HBG.out.size)⟩
  | true =>
    rw [hfb] at c2
    rcases he2 with ⟨he3, he5⟩ | ⟨_, he5⟩
    case inr =>
      exfalso
      subst he5
      rw [first_not (s := ⟨l, b, a, roles⟩) (ds := ds) (by rw [HRR.out])] at hfb
      cases hfb
    subst he5
    obtain ⟨o1, o2, o3⟩ := first_order HRR.out hfb
    have HO2 := hidr o2
    have HO3 := hidr o3
    have hdl : ¬ day < sd := by omega
    clear hfb o2 o3 HRR HE HER
    go_wp2_with fail
    refine c2.mono ?_
    rintro e w3 ⟨rfl, b3⟩
    have HB3 := hidr (HBG.out.trans (b3.mono HBG.out.size))
    have nF5 := (b3.block _ (lt_of_block nF4)).trans nF4
    have x0 := (cell_of_row _ _ 0 _ _ _ nF5).trans rfl
    have x1 := (cell_of_row _ _ 1 _ _ _ nF5).trans rfl
    have x2 := (cell_of_row _ _ 2 _ _ _ nF5).trans rfl
    have HS3 := hidr (rowI_of_owns (owns_below HOG.out b3) (by have := HO3.out; omega))
    have HW3 := hidr (HW0.out.below HB3.out)
    clear c2 b3 nF4 nF5 u0 u1 u2 t0 t1 t2 t3 HOG HBG
    by_cases hgt : sd < day
    · have hne : (day == sd) = false := beq_eq_false_iff_ne.2 (by omega)
      go_wp2_with fail
      go_ret
      exact ⟨rfl, HB3.out⟩
    have hde : day = sd := by omega
    obtain ⟨hle, hlex⟩ := HO2.out hde
    have heq : (day == sd) = true := by rw [hde]; simp
    have hml : ¬ min < sm := by omega
    have HLX := hidr hlex
    clear hde hlex HO2
    by_cases hmg : sm < min
    · go_wp2_with fail
      go_ret
      exact ⟨rfl, HB3.out⟩
    have HL := hidr (HLX.out (by omega))
    clear HLX
    go_wp2_with fail
    go_loopw [14, 78] (fun _ t wr => ∃ j : Nat, t = .int .i64 (j : Int) ∧ j ≤ who.length ∧ Hid (lexB (swho.drop j) (who.drop j) = true) ∧ ∃ n, wr = w3.drewN n) (fun _ t _ => who.length - (intOf t).toNat)
    case atStart => exact ⟨0, rfl, by omega, HL, 0, rfl⟩
    case round =>
      obtain ⟨j, rfl, hj, hX, nn, rfl⟩ := hrel
      have hj0 : (0 : Int) ≤ (j : Int) := by omega
      by_cases hlt : j < who.length
      · have hlt' : (j : Int) < (who.length : Int) := by omega
        have hlt2 : (j : Int) < (swho.length : Int) := by have := HO3.out; omega
        obtain ⟨y, hjy⟩ : ∃ r, who[j]? = some r := ⟨_, List.getElem?_eq_getElem hlt⟩
        obtain ⟨x, hjx⟩ : ∃ r, swho[j]? = some r := ⟨swho[j]'(by omega), List.getElem?_eq_getElem (by omega)⟩
        obtain ⟨_, _, e9, _, hall⟩ := HW3.out
        cases e9
        obtain ⟨gw, ow, hpe, cy⟩ := hall j y hjy
        subst hpe
        obtain ⟨_, _, e8, _, hall2⟩ := HS3.out
        cases e8
        obtain ⟨gs, os, hpe2, cx⟩ := hall2 j x hjx
        subst hpe2
        have hS := lexB_step hjx hjy
        rw [hX.out] at hS
        have HS := hidr hS
        clear hall hall2 hjy hjx hS hX HL
        by_cases hxy : y = x
        · have hb : (y == x) = true := by rw [hxy]; simp
          have HX2 : Hid (lexB (swho.drop (j + 1)) (who.drop (j + 1)) = true) := by
            have := HS.out
            rw [if_neg (by simpa using hxy)] at this
            exact this.symm
          clear hxy HS
          go_wp2_with fail
          go_quiet (fail)
          go_wp2_with fail
          go_roundw
          case rel => exact ⟨j + 1, by go_num, by omega, HX2, _, rfl⟩
          case measure => simp [intOf]; omega
        · have hb : (y == x) = false := beq_eq_false_iff_ne.2 hxy
          have hlt3 : x < y := by
            have := HS.out
            rw [if_pos hxy] at this
            exact of_decide_eq_true this.symm
          clear HS hxy
          go_wp2_with fail
          go_quiet (fail)
          go_wp2_with fail
          go_quiet (fail)
          go_wp2_with fail
          go_ret
          exact ⟨rfl, HB3.out.trans ((below_drewN (below_drewN (below_drewN (Below.refl _ _) _) _) _).mono HB3.out.size)⟩
      · have hlt' : ¬ (j : Int) < (who.length : Int) := by omega
        clear hX
        go_wp2_with fail
        go_ret
        exact ⟨rfl, HB3.out.trans ((below_drewN (Below.refl _ _) _).mono HB3.out.size)⟩
end Go.Proofs.YtlhjgajhcabhoaaDoor

/- A region that draws its order: some values are known beforehand; what is said of the others, and of the world, hangs on what has been done. It speaks of no program. -/
namespace Go.Proofs.YtlhjgajhcabhoaaDoor
open Go Go.RowKit
section
variable {P : Program} {ops : Array Oper} {Q : Exit → Act → World → Prop} {id : Nat} {a0 : Act} {w : World}
/-- The slots of a frame. -/
def slotsOf (A : Act) : Nat → Value := fun s => A.tmps.getD s undef
def putF (φ : Nat → Value) (d : Option Nat) (v : Value) : Nat → Value := fun s => if d = some s then v else φ s
theorem putF_ne {φ : Nat → Value} {d s : Nat} {v : Value} (h : d ≠ s) : putF φ (some d) v s = φ s := by
  unfold putF
  rw [if_neg (fun e => h (Option.some.inj e))]
theorem putF_eq {φ : Nat → Value} {d : Nat} {v : Value} : putF φ (some d) v d = v := by
  unfold putF
  rw [if_pos rfl]
theorem putF_none {φ : Nat → Value} {v : Value} : putF φ none v = φ := by
  funext s
  unfold putF
  rw [if_neg (by simp)]
/-- What an operation of the region comes to. -/
def StepZ (P : Program) (ops : Array Oper) (Q : Exit → Act → World → Prop) (ds : List (Option Nat × Option Value)) (a0 : Act) (J : (Nat → Bool) → (Nat → Value) → World → Prop) : Prop :=
  ∀ (i : Nat) (d : Option Nat) (x : Option Value) (o : Oper) (L : Nat → Bool) (A : Act) (W : World), ops[i]? = some o → ds[i]? = some (d, x) → L i = false → (∀ e ∈ o.after, Region.binds .any e = true → L e.on = true) → ClosL ops L → J L (slotsOf A) W →
    (∀ s, notDst ops s = true → A.tmps.getD s undef = a0.tmps.getD s undef) → (∀ (j s : Nat) (u : Value), ds[j]? = some (some s, some u) → L j = true → A.tmps.getD s undef = u) → wpOp P ops Q i (fun a' W' => ∃ v, a' = A.put d v ∧ (∀ u, x = some u → v = u) ∧ J (fun k => decide (i = k) || L k) (putF (slotsOf A) d v) W') A W
theorem wp_region_Z (J : (Nat → Bool) → (Nat → Value) → World → Prop) (hJ0 : ∀ L : Nat → Bool, (∀ i, i < ops.size → L i = false) → J L (slotsOf a0) w.drew) (hm : P.follows .mixedOrders = true) (hback : backB ops = true) (hdst : dstB ops = true) (hin : inB ops a0.tmps.size = true) (ds : List (Option Nat × Option Value))
    (hds : ops.toList.map (fun o => o.dst) = ds.map (fun p => p.1)) (hnd : decide ((ds.filterMap (fun p => p.1)).Nodup) = true) (ss : List Nat) (hss : ds.filterMap (fun p => p.1) = ss)
    (hstep : StepZ P ops Q ds a0 J) (hend : ∀ (L : Nat → Bool) (A : Act) (W : World), (∀ i, i < ops.size → L i = true) → J L (slotsOf A) W → (∀ (j s : Nat) (u : Value), ds[j]? = some (some s, some u) → A.tmps.getD s undef = u) →
      (∀ es : List (Nat × Value), es.map (fun p => p.1) = ss → (∀ (j s : Nat) (v : Value), es[j]? = some (s, v) → A.tmps.getD s undef = v) → A = putAll es a0) → Q .normal A W) : (Code.region id ops true).wp P Q a0 w := by
  have atD : ∀ {j : Nat} {p : Oper}, ops[j]? = some p → ∃ x, ds[j]? = some (p.dst, x) := fun {j p} hp => by
    have h1 : (ops.toList.map (fun o => o.dst))[j]? = some p.dst := by
      rw [List.getElem?_map, Array.getElem?_toList, hp]
      rfl
    rw [hds, List.getElem?_map] at h1
    cases hs : ds[j]? with
    | none => rw [hs] at h1; cases h1
    | some q =>
      rw [hs] at h1
      exact ⟨q.2, by rw [← Option.some.inj h1]⟩
  have hl : ds.length = ops.size := by
    have h := congrArg List.length hds
    simpa using h.symm
  have atO : ∀ {j : Nat} {d : Option Nat} {x : Option Value}, ds[j]? = some (d, x) → ∃ p, ops[j]? = some p ∧ p.dst = d := fun {j d x} hj => by
    have hj' := (List.getElem?_eq_some_iff.1 hj).1
    obtain ⟨p, hp⟩ : ∃ p, ops[j]? = some p := ⟨ops[j]'(by omega), Array.getElem?_eq_getElem _⟩
    obtain ⟨v', hv'⟩ := atD hp
    rw [hj] at hv'
    exact ⟨p, hp, (congrArg Prod.fst (Option.some.inj hv')).symm⟩
  refine wp_region_flow hm hback hdst hin (fun L A W => ClosL ops L ∧ A.tmps.size = a0.tmps.size ∧ J L (slotsOf A) W) (fun j x _ => ∀ d v, ds[j]? = some (d, some v) → x = v) ?_ ?_ ?_
  · intro L h
    refine ⟨fun j p hp hj => ?_, rfl, hJ0 L h⟩
    have := h j (Array.getElem?_eq_some_iff.1 hp).1
    rw [this] at hj; cases hj
  · intro i o L A W ho hLi hdep hJ hdef hkept hhas
    obtain ⟨hc, hsz, hJ⟩ := hJ
    have hi : i < ops.size := (Array.getElem?_eq_some_iff.1 ho).1
    have hc' : ClosL ops (fun k => decide (i = k) || L k) := by
      intro j p hp hj e he hb
      show (decide (i = e.on) || L e.on) = true
      by_cases hij : i = j
      · subst hij
        rw [ho] at hp
        cases hp
        rw [hdep e he hb]; simp
      · rw [hc j p hp (by simpa [hij] using hj) e he hb]; simp
    obtain ⟨x, hx⟩ := atD ho
    refine wpOp_mono ?_ (hstep i o.dst x o L A W ho hx hLi hdep hc hJ (fun s h => hkept s fun j p hp _ => nd h j p hp) (fun j s u hj hL => by
      obtain ⟨p, hp, hd⟩ := atO hj
      exact hhas j p hp hL s hd _ _ hj))
    rintro a' W' ⟨v, rfl, hv, hJ'⟩
    refine ⟨v, rfl, fun _ d u hdu => ?_, fun _ _ _ h => h, hc', by cases o.dst <;> simpa [Act.put] using hsz, ?_⟩
    · rw [hx] at hdu
      have e2 := congrArg Prod.snd (Option.some.inj hdu)
      exact hv u e2
    · have e : slotsOf (A.put o.dst v) = putF (slotsOf A) o.dst v := by
        funext s
        unfold slotsOf putF
        cases hd : o.dst with
        | none => rw [if_neg (by simp)]; rfl
        | some t =>
          by_cases hts : t = s
          · subst hts
            have htl : t < A.tmps.size := by
              have q1 := List.all_eq_true.1 hin i (by simpa using hi)
              rw [ho] at q1
              simp only [Option.bind_some, hd] at q1
              rw [hsz]
              simpa using q1
            rw [if_pos rfl]
            exact getD_set_same _ _ _ htl
          · rw [if_neg (fun e => hts (Option.some.inj e))]
            exact getD_set_other _ _ _ _ hts
      rw [e]
      exact hJ'
  · intro L A W hL hJ hdef hsize hkept hhas
    refine hend L A W hL hJ.2.2 (fun j s u hj => ?_) fun es he hv => ?_
    · obtain ⟨p, hp, hd⟩ := atO hj
      exact hhas j p hp s hd _ _ hj
    · refine act_is es hdef hsize ?_ (fun s h => hkept s fun j p hp e => ?_) hv
      · rw [show es.map (fun p => some p.1) = (es.map (fun p => p.1)).map some by rw [List.map_map]; rfl, he, ← hss]
        have h1 := of_decide_eq_true hnd
        unfold List.Nodup
        rw [List.pairwise_map]
        exact List.Pairwise.imp (fun h e => h (Option.some.inj e)) h1
      · obtain ⟨x, hx⟩ := atD hp
        rw [e] at hx
        have hm1 : s ∈ ds.filterMap (fun p => p.1) := List.mem_filterMap.2 ⟨(some s, x), List.mem_of_getElem? hx, rfl⟩
        rw [hss, ← he] at hm1
        obtain ⟨q, hq, hqs⟩ := List.mem_map.1 hm1
        exact h q hq hqs
end
end Go.Proofs.YtlhjgajhcabhoaaDoor

/- What the document's Ints comes to where both rows are the same. -/
namespace Go.Proofs.YtlhjgajhcabhoaaDoor
open Go.RowKit

set_option maxRecDepth 100000 in
set_option maxHeartbeats 1000000 in
theorem ints_any (ns : List Int) (va vb : Value) (w : World) (ha : RowI w va ns) (hb : RowI w vb ns) : Calls Tryd.prog 21 #[va, vb] w fun r w' => r = .returned (.bool true) ∧ Below w.heap.size w w' := by
  obtain ⟨pa, ca, rfl, hlen, hca⟩ := ha
  obtain ⟨pb, cb, rfl, _, hcb⟩ := hb
  have HA := hidr hca
  have HB := hidr hcb
  clear hca hcb
  go_enter Tryd.func21, Tryd.ntmps21
  go_wp2_with fail
  go_loopw [5, 13] (fun _ t wr => ∃ j : Nat, t = .int .i64 (j : Int) ∧ j ≤ ns.length ∧ Below w.heap.size w wr) (fun _ t _ => ns.length - (intOf t).toNat)
  case atStart => exact ⟨0, rfl, by omega, Below.refl _ _⟩
  case round =>
    obtain ⟨j, rfl, hj, hbr⟩ := hrel
    have hj0 : (0 : Int) ≤ (j : Int) := by omega
    by_cases hlt : j < ns.length
    · have hlt' : (j : Int) < (ns.length : Int) := by omega
      obtain ⟨m, hjk⟩ : ∃ p, ns[j]? = some p := ⟨ns[j], List.getElem?_eq_getElem hlt⟩
      obtain ⟨ga, oa, rfl, a0⟩ := HA.out j _ hjk
      obtain ⟨gb, ob, rfl, b0⟩ := HB.out j _ hjk
      have a1 := (hbr.cell (block_lt_of_cell a0)).trans a0
      have b1 := (hbr.cell (block_lt_of_cell b0)).trans b0
      have hmm : (m != m) = false := by simp
      clear hjk a0 b0
      go_wp2_with fail
      go_quiet (fail)
      have hbq : Below w.heap.size w (wr.drewN nq) := below_drewN hbr nq
      go_wp2_with fail
      go_roundw
      case rel => exact ⟨j + 1, by go_num, by omega, hbq⟩
      case measure => simp [intOf]; omega
    · have hlt' : ¬ (j : Int) < (ns.length : Int) := by omega
      clear HA HB
      go_wp2_with fail
      go_ret
      exact ⟨rfl, hbr⟩
end Go.Proofs.YtlhjgajhcabhoaaDoor
