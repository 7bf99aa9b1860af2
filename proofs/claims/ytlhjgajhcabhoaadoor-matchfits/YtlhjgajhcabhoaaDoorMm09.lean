/- What can be had, and what is found, plainly. -/
import Derived.Test.YtlhjgajhcabhoaaDoorMm08
import Derived.Test.YtlhjgajhcabhoaaDoorMm01
import Derived.Lib.SmallJoins
import Derived.OpenShut
import Derived.Test.YtlhjgajhcabhoaaDoorMm06
import Derived.SizedLaws
import Derived.Test.YtlhjgajhcabhoaaDoorMm02
import Derived.Test.YtlhjgajhcabhoaaDoorCards
import Derived.Test.YtlhjgajhcabhoaaDoorTie
import Derived.ProofKit
import Derived.LaidMore
import Derived.Stop.Joined
import Derived.SevenTiedAt
import Derived.Lib.LaidTab
import Derived.Carry
import Derived.Test.YtlhjgajhcabhoaaDoorRows
namespace Go.Proofs.YtlhjgajhcabhoaaDoor
open Go.RowKit Msk Mx Lx

theorem fitG_iff {roles : List (List Int)} {fs : List (Nat → Bool)} {x y : Int} : ∀ {l : List Int} {i : Nat} {had : List Int}, fitG roles fs x y l i had = true ↔ (∀ (k : Nat) (r : Int), l[k]? = some r → r ∈ roles.getD (i + k) []) ∧ (∀ r ∈ l, r ∉ had) ∧ l.Nodup ∧ ∀ r ∈ l, okP fs x y r = true
  | [], i, had => by simp [fitG]
  | r :: l, i, had => by
    rw [fitG]
    by_cases h : r ∉ roles.getD i [] ∨ r ∈ had ∨ okP fs x y r = false
    · rw [if_pos h]
      constructor
      · intro h; cases h
      · rintro ⟨h1, h2, _, h4⟩
        exfalso
        rcases h with h | h | h
        · exact h (h1 0 r rfl)
        · exact h2 r List.mem_cons_self h
        · rw [h4 r List.mem_cons_self] at h; cases h
    · rw [if_neg h, fitG_iff]
      have h1 : r ∈ roles.getD i [] := Classical.not_not.1 fun e => h (.inl e)
      have h2 : r ∉ had := fun e => h (.inr (.inl e))
      have h3 : okP fs x y r = true := by
        cases hk : okP fs x y r with
        | true => rfl
        | false => exact absurd (.inr (.inr hk)) h
      constructor
      · rintro ⟨q1, q2, q3, q4⟩
        refine ⟨fun k u hk => ?_, fun u hu => ?_, List.nodup_cons.2 ⟨fun hm => ?_, q3⟩, fun u hu => ?_⟩
        · match k, hk with
          | 0, hk => cases Option.some.inj hk; exact h1
          | k + 1, hk =>
            have := q1 k u (by simpa using hk)
            rw [show i + (k + 1) = i + 1 + k by omega]
            exact this
        · rcases List.mem_cons.1 hu with rfl | hu
          · exact h2
          · exact fun e => q2 u hu ((addN_mem _ _ _).2 (.inl e))
        · exact q2 r hm ((addN_mem _ _ _).2 (.inr rfl))
        · rcases List.mem_cons.1 hu with rfl | hu
          · exact h3
          · exact q4 u hu
      · rintro ⟨q1, q2, q3, q4⟩
        refine ⟨fun k u hk => ?_, fun u hu e => ?_, (List.nodup_cons.1 q3).2, fun u hu => q4 u (List.mem_cons_of_mem _ hu)⟩
        · have := q1 (k + 1) u (by simpa using hk)
          rw [show i + 1 + k = i + (k + 1) by omega]
          exact this
        · rcases (addN_mem _ _ _).1 e with e | rfl
          · exact q2 u (List.mem_cons_of_mem _ hu) e
          · exact (List.nodup_cons.1 q3).1 hu
theorem fitB_iff {s : Sv} {ds : List (List (Nat → Bool))} {day min : Int} {who : List Int} : fitB s ds day min who = true ↔ ∃ (d : Nat) (fs : List (Nat → Bool)), day = (d : Int) ∧ ds[d]? = some fs ∧ Fit s fs min who := by
  unfold fitB
  by_cases h : day < 0 ∨ (ds.length : Int) ≤ day ∨ who.length ≠ s.roles.length
  · rw [if_pos h]
    constructor
    · intro h; cases h
    · rintro ⟨d, fs, rfl, hd, hf⟩
      exfalso
      have h1 := (List.getElem?_eq_some_iff.1 hd).1
      have h2 := hf.len
      omega
  · rw [if_neg h]
    obtain ⟨d, hd⟩ : ∃ d : Nat, day = (d : Int) := ⟨day.toNat, by omega⟩
    subst hd
    have hl : who.length = s.roles.length := Classical.not_not.1 fun e => h (.inr (.inr e))
    have hdl : d < ds.length := by omega
    have hds : ds[d]? = some (ds[d]'hdl) := List.getElem?_eq_getElem hdl
    have eg : ds.getD (Int.toNat (d : Int)) [] = ds[d]'hdl := by simp [List.getD, hds]
    have ey : min + s.len + s.aft = min - s.bef + whole s := by unfold whole; omega
    rw [eg, ey, fitG_iff]
    constructor
    · rintro ⟨q1, _, q3, q4⟩
      refine ⟨d, _, rfl, hds, hl, fun i r p h1 h2 => ?_, q3, q4⟩
      have := q1 i r h1
      rwa [Nat.zero_add, show s.roles.getD i [] = p by simp [List.getD, h2]] at this
    · rintro ⟨d', fs, e, hd', hf⟩
      have : d' = d := by omega
      subst this
      rw [hds] at hd'
      cases Option.some.inj hd'
      refine ⟨fun i r h1 => ?_, (fun r _ e => by cases e), hf.nd, hf.ok⟩
      have hil := (List.getElem?_eq_some_iff.1 h1).1
      have hp : s.roles[i]? = some (s.roles[i]'(by omega)) := List.getElem?_eq_getElem _
      rw [Nat.zero_add, show s.roles.getD i [] = s.roles[i]'(by omega) by simp [List.getD, hp]]
      exact hf.mem i r _ h1 hp
theorem fit_min {s : Sv} {n : Int} {fs : List (Nat → Bool)} {m : Int} {who : List Int} (hS : SvOK s n) (h : Fit s fs m who) : 0 ≤ m ∧ m ≤ 1440 := by
  have hme := of_decide_eq_true hS.meas
  have h1 := h.len
  have h2 := hS.r1
  match who, h with
  | [], h => simp at h1; omega
  | r :: l, h =>
    have := (okP_iff _ _ _ _).1 (h.ok r List.mem_cons_self)
    unfold whole at this
    omega
theorem poolG_err (p : List Int) (n : Int) : ∀ m i, poolG p n m i = 0 ∨ poolG p n m i = 6 ∨ poolG p n m i = 2
  | 0, _ => .inl rfl
  | m + 1, i => by
    rw [poolG]
    by_cases c1 : p.getD i 0 < 0 ∨ n ≤ p.getD i 0
    · rw [if_pos c1]; exact .inr (.inl rfl)
    · rw [if_neg c1]
      by_cases c2 : 0 < i ∧ p.getD i 0 ≤ p.getD (i - 1) 0
      · rw [if_pos c2]; exact .inr (.inr rfl)
      · rw [if_neg c2]; exact poolG_err p n m (i + 1)
theorem rolesG_err (n : Int) : ∀ l : List (List Int), 0 ≤ rolesG n l ∧ rolesG n l ≤ 6
  | [] => ⟨Int.le_refl _, show (0 : Int) ≤ 6 by decide⟩
  | p :: l => by
    have hp : 0 ≤ poolE p n ∧ poolE p n ≤ 6 := by
      unfold poolE
      by_cases h : p.length < 1 ∨ 8 < p.length
      · rw [if_pos h]; decide
      · rw [if_neg h]
        rcases poolG_err p n p.length 0 with h | h | h <;> rw [h] <;> decide
    rw [rolesG]
    by_cases h : poolE p n ≠ 0
    · rw [if_pos h]; exact hp
    · rw [if_neg h]; exact rolesG_err n l
theorem wrongS_err (s : Sv) (n : Int) : 0 ≤ wrongS s n ∧ wrongS s n ≤ 6 := by
  unfold wrongS
  by_cases h1 : measB s.len s.bef s.aft = false
  · rw [if_pos h1]; decide
  · rw [if_neg h1]
    by_cases h2 : s.roles.length < 1 ∨ 4 < s.roles.length
    · rw [if_pos h2]; decide
    · rw [if_neg h2]; exact rolesG_err n _
theorem daysE_err (s : Sv) : ∀ l : List (List (Nat → Bool)), 0 ≤ daysE s l ∧ daysE s l ≤ 6
  | [] => ⟨Int.le_refl _, show (0 : Int) ≤ 6 by decide⟩
  | d :: l => by
    rw [daysE]
    by_cases h : wrongS s d.length ≠ 0
    · rw [if_pos h]; exact wrongS_err s _
    · rw [if_neg h]; exact daysE_err s l
theorem daysF_some {s : Sv} : ∀ {l : List (List (Nat → Bool))} {n : Nat} {x : Nat × Int × List Int}, daysF s l n = some x → ∃ (k : Nat) (fs : List (Nat → Bool)), x.1 = n + k ∧ l[k]? = some fs ∧ firstP s.len s.bef s.aft s.roles fs = some (x.2.1, x.2.2) ∧ ∀ (j : Nat) (gs : List (Nat → Bool)), j < k → l[j]? = some gs → firstP s.len s.bef s.aft s.roles gs = none
  | [], n, x, h => by cases h
  | d :: l, n, x, h => by
    rw [daysF] at h
    cases hp : firstP s.len s.bef s.aft s.roles d with
    | some y =>
      rw [hp] at h
      cases Option.some.inj h
      exact ⟨0, d, rfl, rfl, hp, fun j gs hj _ => by omega⟩
    | none =>
      rw [hp] at h
      obtain ⟨k, fs, e1, e2, e3, e4⟩ := daysF_some h
      refine ⟨k + 1, fs, by omega, by simpa using e2, e3, fun j gs hj hg => ?_⟩
      match j, hg with
      | 0, hg => cases Option.some.inj hg; exact hp
      | j + 1, hg => exact e4 j gs (by omega) (by simpa using hg)
theorem daysF_none {s : Sv} : ∀ {l : List (List (Nat → Bool))} {n : Nat}, daysF s l n = none → ∀ fs ∈ l, firstP s.len s.bef s.aft s.roles fs = none
  | [], _, _, fs, hf => by cases hf
  | d :: l, n, h, fs, hf => by
    rw [daysF] at h
    cases hp : firstP s.len s.bef s.aft s.roles d with
    | some y => rw [hp] at h; cases h
    | none =>
      rw [hp] at h
      rcases List.mem_cons.1 hf with rfl | hf
      · exact hp
      · exact daysF_none h fs hf
/-- What is found. -/
theorem find_zero {s : Sv} {ds : List (List (Nat → Bool))} (h : (findP s ds).err = 0) : ds.length ≤ 30 ∧ daysE s ds = 0 ∧ ∃ (d : Nat) (fs : List (Nat → Bool)), (findP s ds).day = (d : Int) ∧ ds[d]? = some fs ∧ firstP s.len s.bef s.aft s.roles fs = some ((findP s ds).min, (findP s ds).who) ∧ ∀ (j : Nat) (gs : List (Nat → Bool)), j < d → ds[j]? = some gs → firstP s.len s.bef s.aft s.roles gs = none := by
  unfold findP at h ⊢
  by_cases h1 : 30 < ds.length
  · rw [if_pos h1] at h; cases h
  · rw [if_neg h1] at h ⊢
    by_cases h2 : daysE s ds ≠ 0
    · rw [if_pos h2] at h; exact absurd h h2
    · rw [if_neg h2] at h ⊢
      have h2' : daysE s ds = 0 := Classical.not_not.1 h2
      cases hd : daysF s ds 0 with
      | none => rw [hd] at h; cases h
      | some x =>
        obtain ⟨k, fs, e1, e2, e3, e4⟩ := daysF_some hd
        exact ⟨by omega, h2', k, fs, by show ((x.1 : Nat) : Int) = _; omega, e2, e3, e4⟩
theorem find_not {s : Sv} {ds : List (List (Nat → Bool))} (h : (findP s ds).err ≠ 0) : (findP s ds).who = [] ∧ (findP s ds).day = 0 ∧ (findP s ds).min = 0 := by
  unfold findP at h ⊢
  by_cases h1 : 30 < ds.length
  · rw [if_pos h1]; exact ⟨rfl, rfl, rfl⟩
  · rw [if_neg h1] at h ⊢
    by_cases h2 : daysE s ds ≠ 0
    · rw [if_pos h2]; exact ⟨rfl, rfl, rfl⟩
    · rw [if_neg h2] at h ⊢
      cases hd : daysF s ds 0 with
      | none => exact ⟨rfl, rfl, rfl⟩
      | some x => rw [hd] at h; exact absurd rfl h
theorem find_slot {s : Sv} {ds : List (List (Nat → Bool))} (h : (findP s ds).err = 11) : ds.length ≤ 30 ∧ daysE s ds = 0 ∧ ∀ fs ∈ ds, firstP s.len s.bef s.aft s.roles fs = none := by
  unfold findP at h
  by_cases h1 : 30 < ds.length
  · rw [if_pos h1] at h; cases h
  · rw [if_neg h1] at h
    by_cases h2 : daysE s ds ≠ 0
    · rw [if_pos h2] at h
      have := daysE_err s ds
      dsimp only at h
      omega
    · rw [if_neg h2] at h
      have h2' : daysE s ds = 0 := Classical.not_not.1 h2
      cases hd : daysF s ds 0 with
      | none => exact ⟨by omega, h2', daysF_none hd⟩
      | some x => rw [hd] at h; cases h
theorem find_fits {s : Sv} {ds : List (List (Nat → Bool))} (h : (findP s ds).err = 0) : fitB s ds (findP s ds).day (findP s ds).min (findP s ds).who = true := by
  obtain ⟨_, h2, d, fs, e1, e2, e3, _⟩ := find_zero h
  rw [fitB_iff]
  exact ⟨d, fs, e1, e2, (first_some (wrong_ok (daysE_ok h2 fs (List.mem_of_getElem? e2))) e3).1⟩
end Go.Proofs.YtlhjgajhcabhoaaDoor

/- The laws MatchFits and MatchFirst, walked. Written by genmal.py. -/
namespace Go.Proofs.YtlhjgajhcabhoaaDoor
open Go.RowKit Msk Mx Lx

theorem days_ok {s : Sv} {ds : List (List (Nat → Bool))} (h : daysE s ds = 0) (d : Nat) (fs : List (Nat → Bool)) (hd : ds[d]? = some fs) : SvOK s fs.length := wrong_ok (daysE_ok h fs (List.mem_of_getElem? hd))
set_option maxRecDepth 100000 in
set_option maxHeartbeats 1000000 in
theorem mfits_walk (s : Sv) (rv : Value) (ds : List (List (Nat → Bool))) (dv : Value) (w : World) (hT : Tab w) (hR : RowRI w rv s.roles) (hD : RowDs w dv ds) :
    Calls Tryd.prog 4 #[svV s rv, dv] w fun e w' => e = .returned (.bool true) ∧ Below w.heap.size w w' := by
  obtain ⟨l, b, a, roles⟩ := s
  dsimp only at hR
  unfold svV
  dsimp only
  obtain ⟨pr, cr, rfl, hlr, hr0⟩ := id hR
  clear hr0
  have bA := (Below.refl w.heap.size w).alloc (Nat.le_refl _) (.cells #[.int .i64 l, .int .i64 b, .int .i64 a, .slice pr roles.length cr] 24)
  have nA := heap_alloc_new w (.cells #[.int .i64 l, .int .i64 b, .int .i64 a, .slice pr roles.length cr] 24)
  generalize hwA : w.alloc (.cells #[.int .i64 l, .int .i64 b, .int .i64 a, .slice pr roles.length cr] 24) = wA at *
  have c0 := alive10_any wA (tab_below hT bA)
  go_enter Tryd.func4, Tryd.ntmps4
  go_wp2_with fail
  refine c0.mono ?_
  rintro e w1 ⟨rfl, b1⟩
  have bb1 := bA.trans (b1.mono bA.size)
  have n1 := (b1.block _ (lt_of_block nA)).trans nA
  have y0 := (cell_of_row _ _ 0 _ _ _ n1).trans rfl
  have y1 := (cell_of_row _ _ 1 _ _ _ n1).trans rfl
  have y2 := (cell_of_row _ _ 2 _ _ _ n1).trans rfl
  have y3 := (cell_of_row _ _ 3 _ _ _ n1).trans rfl
  have c1 := find_any ⟨l, b, a, roles⟩ _ ds dv w1 (tab_below hT bb1) (hR.below bb1) (hD.below bb1)
  unfold svV at c1
  dsimp only at c1
  obtain ⟨R, hRr⟩ : ∃ R, findP ⟨l, b, a, roles⟩ ds = R := ⟨_, rfl⟩
  rw [hRr] at c1
  have HRR := hidr hRr
  have HR0 := hidr hR
  have HD0 := hidr hD
  have HB1 := hidr bb1
  obtain ⟨er, sd, sm, swho⟩ := R
  clear c0 b1 bA bb1 hwA nA hRr
  obtain ⟨pd, cd, rfl, _, _⟩ := hD
  go_wp2_with fail
  refine c1.mono ?_
  rintro e w2 ⟨sv, rfl, ho, b2⟩
  dsimp only at ho
  have HB2 := hidr (HB1.out.trans (b2.mono HB1.out.size))
  have n2 := (b2.block _ (lt_of_block n1)).trans n1
  obtain ⟨ps, cs, rfl⟩ := owns_shape ho
  have bF := (Below.refl w2.heap.size w2).alloc (Nat.le_refl _) (.cells #[.int .i64 sd, .int .i64 sm, .slice ps swho.length cs] 28)
  have nF := heap_alloc_new w2 (.cells #[.int .i64 sd, .int .i64 sm, .slice ps swho.length cs] 28)
  have HOF := hidr (owns_below ho bF)
  have HBF := hidr (HB2.out.trans (bF.mono HB2.out.size))
  have n3 := (bF.block _ (lt_of_block n2)).trans n2
  generalize hwF : w2.alloc (.cells #[.int .i64 sd, .int .i64 sm, .slice ps swho.length cs] 28) = wF at *
  obtain ⟨gF, hgF⟩ : ∃ q, w2.heap.size = q := ⟨_, rfl⟩
  rw [hgF] at nF
  clear c1 ho b2 bF n1 n2 y0 y1 y2 y3
  have x0 := (cell_of_row _ _ 0 _ _ _ nF).trans rfl
  have x1 := (cell_of_row _ _ 1 _ _ _ nF).trans rfl
  have x2 := (cell_of_row _ _ 2 _ _ _ nF).trans rfl
  have y0 := (cell_of_row _ _ 0 _ _ _ n3).trans rfl
  have y1 := (cell_of_row _ _ 1 _ _ _ n3).trans rfl
  have y2 := (cell_of_row _ _ 2 _ _ _ n3).trans rfl
  have y3 := (cell_of_row _ _ 3 _ _ _ n3).trans rfl
  by_cases he : er = 0
  · subst he
    have hz := find_zero (s := ⟨l, b, a, roles⟩) (ds := ds) (by rw [HRR.out])
    have hfb := find_fits (s := ⟨l, b, a, roles⟩) (ds := ds) (by rw [HRR.out])
    rw [HRR.out] at hz hfb
    obtain ⟨_, hz2, d, fs, e1, e2, e3, _⟩ := hz
    have hS := days_ok hz2 d fs e2
    have hmb := fit_min hS (first_some hS e3).1
    dsimp only at e1 e2 e3 hfb hmb
    have c2 := fits_any ⟨l, b, a, roles⟩ _ ds _ sd sm swho _ wF (HR0.out.below HBF.out) (HD0.out.below HBF.out) (rowI_of_owns HOF.out (by
      have h1 := (first_some hS e3).1.len
      have h2 := hS.r4
      dsimp only at h1 h2
      omega)) (fun d' gs _ hd' => days_ok hz2 d' gs hd') (by omega) (by omega)
    unfold svV at c2
    dsimp only at c2
    rw [hfb] at c2
    clear hz2 e1 e2 e3 hS hfb hmb HRR
    go_wp2_with fail
    refine c2.mono ?_
    rintro e w3 ⟨rfl, b3⟩
    go_wp2_with fail
    go_ret
    exact ⟨rfl, HBF.out.trans (b3.mono HBF.out.size)⟩
  · have hw := (find_not (s := ⟨l, b, a, roles⟩) (ds := ds) (by rw [HRR.out]; exact he)).1
    rw [HRR.out] at hw
    dsimp only at hw
    have hsl : ((swho.length : Int) == 0) = true := by rw [hw]; rfl
    have he' : (er == 0) = false := beq_eq_false_iff_ne.2 he
    clear he hw
    go_wp2_with fail
    go_ret
    exact ⟨rfl, HBF.out⟩
/-- None is sooner. -/
theorem first_order {s : Sv} {ds : List (List (Nat → Bool))} {sd sm : Int} {swho : List Int} (h : findP s ds = ⟨0, sd, sm, swho⟩) {day min : Int} {who : List Int} (hf : fitB s ds day min who = true) : sd ≤ day ∧ (day = sd → sm ≤ min ∧ (min = sm → lexB swho who = true)) ∧ swho.length = who.length := by
  obtain ⟨d, fs, rfl, hd, hfit⟩ := fitB_iff.1 hf
  have hz := find_zero (s := s) (ds := ds) (by rw [h])
  rw [h] at hz
  obtain ⟨_, hz2, d0, fs0, e1, e2, e3, e4⟩ := hz
  dsimp only at e1 e3
  have hS := days_ok hz2 d fs hd
  have hle : d0 ≤ d := Classical.byContradiction fun hlt => first_none hS (e4 d fs (by omega) hd) min who hfit
  have h0 := first_some (days_ok hz2 d0 fs0 e2) e3
  refine ⟨by omega, fun he => ?_, by rw [h0.1.len, hfit.len]⟩
  have hdd : d = d0 := by omega
  subst hdd
  rw [e2] at hd
  cases Option.some.inj hd
  rcases h0.2 min who hfit with hlt | ⟨heq, hl⟩
  · exact ⟨by omega, fun e => by omega⟩
  · exact ⟨by omega, fun _ => hl⟩
theorem first_not {s : Sv} {ds : List (List (Nat → Bool))} (h : (findP s ds).err = 11) (day min : Int) (who : List Int) : fitB s ds day min who = false := by
  cases hf : fitB s ds day min who with
  | false => rfl
  | true =>
    exfalso
    obtain ⟨d, fs, rfl, hd, hfit⟩ := fitB_iff.1 hf
    obtain ⟨_, h2, h3⟩ := find_slot h
    exact first_none (days_ok h2 d fs hd) (h3 fs (List.mem_of_getElem? hd)) min who hfit
theorem lexB_step {l k : List Int} {j : Nat} {x y : Int} (h1 : l[j]? = some x) (h2 : k[j]? = some y) : lexB (l.drop j) (k.drop j) = if y ≠ x then decide (x < y) else lexB (l.drop (j + 1)) (k.drop (j + 1)) := by
  obtain ⟨a1, a2⟩ := List.getElem?_eq_some_iff.1 h1
  obtain ⟨b1, b2⟩ := List.getElem?_eq_some_iff.1 h2
  rw [List.drop_eq_getElem_cons a1, List.drop_eq_getElem_cons b1, a2, b2]
  rfl
set_option maxRecDepth 100000 in
set_option maxHeartbeats 1000000 in
theorem mfirst_walk (s : Sv) (rv : Value) (ds : List (List (Nat → Bool))) (dv : Value) (day min : Int) (who : List Int) (wv : Value) (w : World) (hT : Tab w) (hR : RowRI w rv s.roles) (hD : RowDs w dv ds) (hW : RowI w wv who) :
    Calls Tryd.prog 5 #[svV s rv, dv, .int .i64 day, .int .i64 min, wv] w fun e w' => e = .returned (.bool true) ∧ Below w.heap.size w w' := by
  obtain ⟨pw, cw, rfl, hlw, hw0⟩ := id hW
  clear hw0
  have HW0 := hidr hW
  clear hW
  obtain ⟨l, b, a, roles⟩ := s
  dsimp only at hR
  unfold svV
  dsimp only
  obtain ⟨pr, cr, rfl, hlr, hr0⟩ := id hR
  clear hr0
  have bA := (Below.refl w.heap.size w).alloc (Nat.le_refl _) (.cells #[.int .i64 l, .int .i64 b, .int .i64 a, .slice pr roles.length cr] 24)
  have nA := heap_alloc_new w (.cells #[.int .i64 l, .int .i64 b, .int .i64 a, .slice pr roles.length cr] 24)
  generalize hwA : w.alloc (.cells #[.int .i64 l, .int .i64 b, .int .i64 a, .slice pr roles.length cr] 24) = wA at *
  have c0 := alive10_any wA (tab_below hT bA)
  go_enter Tryd.func5, Tryd.ntmps5
  go_wp2_with fail
  refine c0.mono ?_
  rintro e w1 ⟨rfl, b1⟩
  have bb1 := bA.trans (b1.mono bA.size)
  have n1 := (b1.block _ (lt_of_block nA)).trans nA
  have y0 := (cell_of_row _ _ 0 _ _ _ n1).trans rfl
  have y1 := (cell_of_row _ _ 1 _ _ _ n1).trans rfl
  have y2 := (cell_of_row _ _ 2 _ _ _ n1).trans rfl
  have y3 := (cell_of_row _ _ 3 _ _ _ n1).trans rfl
  have c1 := find_any ⟨l, b, a, roles⟩ _ ds dv w1 (tab_below hT bb1) (hR.below bb1) (hD.below bb1)
  unfold svV at c1
  dsimp only at c1
  obtain ⟨R, hRr⟩ : ∃ R, findP ⟨l, b, a, roles⟩ ds = R := ⟨_, rfl⟩
  rw [hRr] at c1
  have HRR := hidr hRr
  have HR0 := hidr hR
  have HD0 := hidr hD
  have HB1 := hidr bb1
  obtain ⟨er, sd, sm, swho⟩ := R
  clear c0 b1 bA bb1 hwA nA hRr
  obtain ⟨pd, cd, rfl, _, _⟩ := hD
  go_wp2_with fail
  refine c1.mono ?_
  rintro e w2 ⟨sv, rfl, ho, b2⟩
  dsimp only at ho
  have HB2 := hidr (HB1.out.trans (b2.mono HB1.out.size))
  have n2 := (b2.block _ (lt_of_block n1)).trans n1
  obtain ⟨ps, cs, rfl⟩ := owns_shape ho
  have bF := (Below.refl w2.heap.size w2).alloc (Nat.le_refl _) (.cells #[.int .i64 sd, .int .i64 sm, .slice ps swho.length cs] 28)
  have nF := heap_alloc_new w2 (.cells #[.int .i64 sd, .int .i64 sm, .slice ps swho.length cs] 28)
  have HOF := hidr (owns_below ho bF)
  have HBF := hidr (HB2.out.trans (bF.mono HB2.out.size))
  have n3 := (bF.block _ (lt_of_block n2)).trans n2
  generalize hwF : w2.alloc (.cells #[.int .i64 sd, .int .i64 sm, .slice ps swho.length cs] 28) = wF at *
  obtain ⟨gF, hgF⟩ : ∃ q, w2.heap.size = q := ⟨_, rfl⟩
  rw [hgF] at nF
  clear c1 ho b2 bF n1 n2 y0 y1 y2 y3
  have x0 := (cell_of_row _ _ 0 _ _ _ nF).trans rfl
  have x1 := (cell_of_row _ _ 1 _ _ _ nF).trans rfl
  have x2 := (cell_of_row _ _ 2 _ _ _ nF).trans rfl
  have y0 := (cell_of_row _ _ 0 _ _ _ n3).trans rfl
  have y1 := (cell_of_row _ _ 1 _ _ _ n3).trans rfl
  have y2 := (cell_of_row _ _ 2 _ _ _ n3).trans rfl
  have y3 := (cell_of_row _ _ 3 _ _ _ n3).trans rfl
  by_cases he : er = 0 ∨ er = 11
  case neg =>
    have he0 : (er == 0) = false := beq_eq_false_iff_ne.2 fun e => he (.inl e)
    have he1 : (er == 11) = false := beq_eq_false_iff_ne.2 fun e => he (.inr e)
    have hA : (er != 0) = true := by rw [bne, he0]; rfl
    have hB : (er != 11) = true := by rw [bne, he1]; rfl
    clear he
    go_wp2_with fail
    go_ret
    exact ⟨rfl, HBF.out⟩
  have HE : Hid (daysE ⟨l, b, a, roles⟩ ds = 0) := by
    rcases he with rfl | rfl
    · exact (find_zero (s := ⟨l, b, a, roles⟩) (ds := ds) (by rw [HRR.out])).2.1
    · exact (find_slot (s := ⟨l, b, a, roles⟩) (ds := ds) (by rw [HRR.out])).2.1
  have bG := (Below.refl wF.heap.size wF).alloc (Nat.le_refl _) (.cells #[.int .i64 day, .int .i64 min, .slice pw who.length cw] 28)
  have nG := heap_alloc_new wF (.cells #[.int .i64 day, .int .i64 min, .slice pw who.length cw] 28)
  have HBG := hidr (HBF.out.trans (bG.mono HBF.out.size))
  have HOG := hidr (owns_below HOF.out bG)
  have n4 := (bG.block _ (lt_of_block n3)).trans n3
  have nF4 := (bG.block _ (lt_of_block nF)).trans nF
  generalize hwG : wF.alloc (.cells #[.int .i64 day, .int .i64 min, .slice pw who.length cw] 28) = wG at *
  have u0 := (cell_of_row _ _ 0 _ _ _ nG).trans rfl
  have u1 := (cell_of_row _ _ 1 _ _ _ nG).trans rfl
  have u2 := (cell_of_row _ _ 2 _ _ _ nG).trans rfl
  have t0 := (cell_of_row _ _ 0 _ _ _ n4).trans rfl
  have t1 := (cell_of_row _ _ 1 _ _ _ n4).trans rfl
  have t2 := (cell_of_row _ _ 2 _ _ _ n4).trans rfl
  have t3 := (cell_of_row _ _ 3 _ _ _ n4).trans rfl
  have HER := hidr he
  have he2 : (er == 0) = true ∧ er = 0 ∨ ((er == 0) = false ∧ (er == 11) = true) ∧ er = 11 := by
    rcases he with rfl | rfl
    · exact .inl ⟨rfl, rfl⟩
    · exact .inr ⟨⟨rfl, rfl⟩, rfl⟩
  clear bG nG n3 n4 nF x0 x1 x2 y0 y1 y2 y3 HOF HBF he
  by_cases hm0 : min < 0
  · rcases he2 with ⟨he3, _⟩ | ⟨⟨he3, he4⟩, _⟩
    · go_wp2_with fail
      go_ret
      exact ⟨rfl, HBG.out⟩
    · go_wp2_with fail
      go_ret
      exact ⟨rfl, HBG.out⟩
  by_cases hm1 : 1440 ≤ min
  · rcases he2 with ⟨he3, _⟩ | ⟨⟨he3, he4⟩, _⟩
    · go_wp2_with fail
      go_ret
      exact ⟨rfl, HBG.out⟩
    · go_wp2_with fail
      go_ret
      exact ⟨rfl, HBG.out⟩
  have c2 := fits_any ⟨l, b, a, roles⟩ _ ds _ day min who _ wG (HR0.out.below HBG.out) (HD0.out.below HBG.out) (HW0.out.below HBG.out) (fun d' gs _ hd' => days_ok HE.out d' gs hd') (by omega) (by omega)
  unfold svV at c2
  dsimp only at c2
  cases hfb : fitB ⟨l, b, a, roles⟩ ds day min who with
  | false =>
    rw [hfb] at c2
    rcases he2 with ⟨he3, _⟩ | ⟨⟨he3, he4⟩, _⟩
    · clear hfb
      go_wp2_with fail
      refine c2.mono ?_
      rintro e w3 ⟨rfl, b3⟩
      go_wp2_with fail
      go_ret
      exact ⟨rfl, HBG.out.trans (b3.mono HBG.out.size)⟩
    · clear hfb
      go_wp2_with fail
      refine c2.mono ?_
      rintro e w3 ⟨rfl, b3⟩
      go_wp2_with fail
      go_ret
      exact ⟨rfl, HBG.out.trans (b3.mono HBG.out.size)⟩
  | true =>
    rw [hfb] at c2
    rcases he2 with ⟨he3, he5⟩ | ⟨_, he5⟩
    case inr =>
      exfalso
      subst he5
      rw [first_not (s := ⟨l, b, a, roles⟩) (ds := ds) (by rw [HRR.out])] at hfb
      cases hfb
    subst he5
    obtain ⟨o1, o2, o3⟩ := first_order HRR.out hfb
    have HO2 := hidr o2
    have HO3 := hidr o3
    have hdl : ¬ day < sd := by omega
    clear hfb o2 o3 HRR HE HER
    go_wp2_with fail
    refine c2.mono ?_
    rintro e w3 ⟨rfl, b3⟩
    have HB3 := hidr (HBG.out.trans (b3.mono HBG.out.size))
    have nF5 := (b3.block _ (lt_of_block nF4)).trans nF4
    have x0 := (cell_of_row _ _ 0 _ _ _ nF5).trans rfl
    have x1 := (cell_of_row _ _ 1 _ _ _ nF5).trans rfl
    have x2 := (cell_of_row _ _ 2 _ _ _ nF5).trans rfl
    have HS3 := hidr (rowI_of_owns (owns_below HOG.out b3) (by have := HO3.out; omega))
    have HW3 := hidr (HW0.out.below HB3.out)
    clear c2 b3 nF4 nF5 u0 u1 u2 t0 t1 t2 t3 HOG HBG
    by_cases hgt : sd < day
    · have hne : (day == sd) = false := beq_eq_false_iff_ne.2 (by omega)
      go_wp2_with fail
      go_ret
      exact ⟨rfl, HB3.out⟩
    have hde : day = sd := by omega
    obtain ⟨hle, hlex⟩ := HO2.out hde
    have heq : (day == sd) = true := by rw [hde]; simp
    have hml : ¬ min < sm := by omega
    have HLX := hidr hlex
    clear hde hlex HO2
    by_cases hmg : sm < min
    · go_wp2_with fail
      go_ret
      exact ⟨rfl, HB3.out⟩
    have HL := hidr (HLX.out (by omega))
    clear HLX
    go_wp2_with fail
    go_loopw [14, 78] (fun _ t wr => ∃ j : Nat, t = .int .i64 (j : Int) ∧ j ≤ who.length ∧ Hid (lexB (swho.drop j) (who.drop j) = true) ∧ ∃ n, wr = w3.drewN n) (fun _ t _ => who.length - (intOf t).toNat)
    case atStart => exact ⟨0, rfl, by omega, HL, 0, rfl⟩
    case round =>
      obtain ⟨j, rfl, hj, hX, nn, rfl⟩ := hrel
      have hj0 : (0 : Int) ≤ (j : Int) := by omega
      by_cases hlt : j < who.length
      · have hlt' : (j : Int) < (who.length : Int) := by omega
        have hlt2 : (j : Int) < (swho.length : Int) := by have := HO3.out; omega
        obtain ⟨y, hjy⟩ : ∃ r, who[j]? = some r := ⟨_, List.getElem?_eq_getElem hlt⟩
        obtain ⟨x, hjx⟩ : ∃ r, swho[j]? = some r := ⟨swho[j]'(by omega), List.getElem?_eq_getElem (by omega)⟩
        obtain ⟨_, _, e9, _, hall⟩ := HW3.out
        cases e9
        obtain ⟨gw, ow, hpe, cy⟩ := hall j y hjy
        subst hpe
        obtain ⟨_, _, e8, _, hall2⟩ := HS3.out
        cases e8
        obtain ⟨gs, os, hpe2, cx⟩ := hall2 j x hjx
        subst hpe2
        have hS := lexB_step hjx hjy
        rw [hX.out] at hS
        have HS := hidr hS
        clear hall hall2 hjy hjx hS hX HL
        by_cases hxy : y = x
        · have hb : (y == x) = true := by rw [hxy]; simp
          have HX2 : Hid (lexB (swho.drop (j + 1)) (who.drop (j + 1)) = true) := by
            have := HS.out
            rw [if_neg (by simpa using hxy)] at this
            exact this.symm
          clear hxy HS
          go_wp2_with fail
          go_quiet (fail)
          go_wp2_with fail
          go_roundw
          case rel => exact ⟨j + 1, by go_num, by omega, HX2, _, rfl⟩
          case measure => simp [intOf]; omega
        · have hb : (y == x) = false := beq_eq_false_iff_ne.2 hxy
          have hlt3 : x < y := by
            have := HS.out
            rw [if_pos hxy] at this
            exact of_decide_eq_true this.symm
          clear HS hxy
          go_wp2_with fail
          go_quiet (fail)
          go_wp2_with fail
          go_quiet (fail)
          go_wp2_with fail
          go_ret
          exact ⟨rfl, HB3.out.trans ((below_drewN (below_drewN (below_drewN (Below.refl _ _) _) _) _).mono HB3.out.size)⟩
      · have hlt' : ¬ (j : Int) < (who.length : Int) := by omega
        clear hX
        go_wp2_with fail
        go_ret
        exact ⟨rfl, HB3.out.trans ((below_drewN (Below.refl _ _) _).mono HB3.out.size)⟩
end Go.Proofs.YtlhjgajhcabhoaaDoor

/- How rows that came in read. -/
namespace Go.Proofs.YtlhjgajhcabhoaaDoor
open Go.ChangeShapes Go.WideShapes Go.ChangeAt Go.WideMaps Go.WideElems Go.RowKit Go.Joins Msk
variable {H : Type} {enc : TypeId × Value → H} {W : World}

theorem cN9 : Tryd.prog.cellsOf 3 = 1 := by kernel_rfl
theorem add9 (g o n : Nat) : (⟨g, o, none⟩ : Addr).add n = ⟨g, o + n, none⟩ := by
  by_cases h : n = 0
  · subst h; simp [Addr.add]
  · simp [Addr.add, h]
theorem two9 {α : Type} {l : List α} (h : l.length = 2) : ∃ a b, l = [a, b] := by
  match l, h with
  | [a, b], _ => exact ⟨a, b, rfl⟩
theorem three9 {α : Type} {l : List α} (h : l.length = 3) : ∃ a b c, l = [a, b, c] := by
  match l, h with
  | [a, b, c], _ => exact ⟨a, b, c, rfl⟩
theorem five9 {α : Type} {l : List α} (h : l.length = 5) : ∃ a b c d e, l = [a, b, c, d, e] := by
  match l, h with
  | [a, b, c, d, e], _ => exact ⟨a, b, c, d, e, rfl⟩
/-- A row whose elements are read one by one. -/
theorem open_row {α : Type} (d0 : α) {size : Nat} {t e : TypeId} (ht : Tryd.prog.underlying t = some (.slice e)) (hsz : Tryd.prog.cellsOf e = size) (h0 : 0 < size) (Q : (Nat → Option Value) → α → Prop)
    (hel : ∀ (fuel : Nat) (cs : List Value) (y : DataW H × List MemPlace), DataW.trod enc Tryd.prog W 0 (fun _ => true) true fuel e cs = some y → ∃ u : α, cs.length = size ∧ Q (fun k => cs[k]?) u) {fuel : Nat} {cs : List Value} {x : DataW H × List MemPlace}
    (h : DataW.trod enc Tryd.prog W 0 (fun _ => true) true fuel t cs = some x) :
    ∃ (p : Option Addr) (len cap : Nat) (us : List α), cs = [.slice p len cap] ∧ us.length = len ∧ len < 9223372036854775808 ∧ ∀ (j : Nat) (u : α), us[j]? = some u → ∃ g o : Nat, p = some ⟨g, o, none⟩ ∧ ∃ c : List Value, c.length = size ∧ (∀ k v, c[k]? = some v → W.cell? ⟨g, o + j * size + k, none⟩ = some v) ∧ Q (fun k => c[k]?) u := by
  rcases DataW.trod_slice ht h with ⟨e1, _⟩ | ⟨a, len, cap, elems, rest, m, hf, e1, _, _, hlc, hm, hlen, hall, _⟩
  · exact ⟨none, 0, 0, [], e1, rfl, by decide, fun j u hj => by simp at hj⟩
  · have hl2 : len < 9223372036854775808 := by unfold maxLen at hm; omega
    have each : ∀ i, i < len → ∃ u : α, ∃ g o : Nat, a = ⟨g, o, none⟩ ∧ ∃ c : List Value, c.length = size ∧ (∀ k v, c[k]? = some v → W.cell? ⟨g, o + i * size + k, none⟩ = some v) ∧ Q (fun k => c[k]?) u := by
      intro i hi
      have h1 := hall i hi
      rw [hsz] at h1
      have hy : elems[i]? = some (elems[i]'(by omega)) := List.getElem?_eq_getElem _
      rw [hy, Option.bind_eq_some_iff] at h1
      obtain ⟨c, hc, htr⟩ := h1
      obtain ⟨u, hcl, hq⟩ := hel _ _ _ htr
      have spot : a.spot = none := by
        have h2 := hall 0 (by omega)
        rw [hsz] at h2
        have hy0 : elems[0]? = some (elems[0]'(by omega)) := List.getElem?_eq_getElem _
        rw [hy0, Option.bind_eq_some_iff] at h2
        obtain ⟨c', hc', htr'⟩ := h2
        obtain ⟨_, hcl', _⟩ := hel _ _ _ htr'
        have e0 : c'[0]? = some (c'[0]'(by omega)) := List.getElem?_eq_getElem _
        have q0 := (World.cells?_some hc').2.2 0 (by omega)
        rw [e0] at q0
        have q' := World.cell?_spot q0
        simpa [Addr.add] using q'
      obtain ⟨g, o, s⟩ := a
      have q := (World.cells?_some hc).2.2
      dsimp only at spot
      subst spot
      refine ⟨u, g, o, rfl, c, hcl, fun k v hk => ?_, hq⟩
      have hk' : k < c.length := (List.getElem?_eq_some_iff.1 hk).1
      have qk := q k (by omega)
      rw [add9, add9, hk] at qk
      exact qk
    let pick : Nat → α := fun i => if h : i < len then Classical.choose (each i h) else d0
    have hpick : ∀ i (h : i < len), pick i = Classical.choose (each i h) := fun i h => by simp only [pick, h, dif_pos]
    refine ⟨some a, len, cap, (List.range len).map pick, e1, by simp, hl2, fun j u hj => ?_⟩
    have hjl : j < len := by
      have := (List.getElem?_eq_some_iff.1 hj).1
      simpa using this
    rw [List.getElem?_map, List.getElem?_range hjl] at hj
    have hu : u = Classical.choose (each j hjl) := (Option.some.inj hj).symm.trans (hpick j hjl)
    rw [hu]
    obtain ⟨g, o, ea, c, h1, h2, h3⟩ := Classical.choose_spec (each j hjl)
    exact ⟨g, o, by rw [ea], c, h1, h2, h3⟩
theorem cM9 : Tryd.prog.cellsOf 41 = 23 := by kernel_rfl
theorem cU9 : Tryd.prog.cellsOf 39 = 1 := by kernel_rfl
/-- A mask's cells that came in. -/
theorem open_maskL {fuel : Nat} {cs : List Value} {x : DataW H × List MemPlace} (h : DataW.trod enc Tryd.prog W 0 (fun _ => true) true fuel 41 cs = some x) : ∃ f : Nat → Bool, cs = (mv f).toList := by
  obtain ⟨xs, m, _, hx, hcl, hlen, hel⟩ := DataW.trod_array maskType h
  rw [cM9] at hcl
  have each : ∀ i, i < 23 → ∃ z : Nat, z < 18446744073709551616 ∧ cs[i]? = some (.int .u64 (z : Int)) := by
    intro i hi
    have h1 := hel i hi
    rw [cU9] at h1
    have hy : xs[i]? = some xs[i] := by simp [hlen, hi]
    rw [hy] at h1
    obtain ⟨z, e1, e2, hw⟩ := DataW.trod_int Tryd.underlying39 h1
    have hc : i < cs.length := by omega
    have e3 : cs[i] = .int .u64 z := by
      have : (cs.drop (i * 1)).take 1 = [cs[i]] := by
        rw [Nat.mul_one, List.drop_eq_getElem_cons hc]
        rfl
      rw [this] at e1
      simpa using e1
    have hb := bounds_u64 hw
    refine ⟨z.toNat, by omega, ?_⟩
    rw [List.getElem?_eq_getElem hc, e3, Int.toNat_of_nonneg hb.1]
  obtain ⟨mm, hmm⟩ : ∃ mm : Nat → Nat, ∀ i, i < 23 → mm i < 18446744073709551616 ∧ cs[i]? = some (.int .u64 (mm i : Int)) := by
    refine ⟨fun i => match cs[i]? with | some (.int _ z) => z.toNat | _ => 0, fun i hi => ?_⟩
    obtain ⟨z, h1, h2⟩ := each i hi
    simp only [h2]
    exact ⟨by simpa using h1, by simp⟩
  refine ⟨fun i => (mm (i / 64)).testBit (i % 64), ?_⟩
  rw [← mv_of mm fun k hk => (hmm k hk).1]
  apply List.ext_getElem?
  intro i
  by_cases hi : i < 23
  · rw [(hmm i hi).2, Array.getElem?_toList, Array.getElem?_eq_getElem (by simpa using hi), Array.getElem_ofFn]
  · rw [List.getElem?_eq_none (by omega), List.getElem?_eq_none (by rw [Array.length_toList, Array.size_ofFn]; omega)]
theorem four9 {α : Type} {l : List α} (h : l.length = 4) : ∃ a b c d, l = [a, b, c, d] := by
  match l, h with
  | [a, b, c, d], _ => exact ⟨a, b, c, d, rfl⟩
end Go.Proofs.YtlhjgajhcabhoaaDoor

/- How services, days, and rows of numbers that came in read. -/
namespace Go.Proofs.YtlhjgajhcabhoaaDoor
open Go.ChangeShapes Go.WideShapes Go.ChangeAt Go.WideMaps Go.WideElems Go.RowKit Go.Joins Msk Mx
variable {H : Type} {enc : TypeId × Value → H} {W : World}

theorem cIs9 : Tryd.prog.cellsOf 26 = 1 := by kernel_rfl
theorem cIss9 : Tryd.prog.cellsOf 22 = 1 := by kernel_rfl
theorem cMs9 : Tryd.prog.cellsOf 42 = 1 := by kernel_rfl
theorem cSv9 : Tryd.prog.cellsOf 24 = 4 := by kernel_rfl
theorem one9 {α : Type} {l : List α} (h : l.length = 1) : ∃ a, l = [a] := by
  match l, h with
  | [a], _ => exact ⟨a, rfl⟩
theorem open_num (fuel : Nat) (cs : List Value) (y : DataW H × List MemPlace) (h : DataW.trod enc Tryd.prog W 0 (fun _ => true) true fuel 3 cs = some y) : ∃ u : Int, cs.length = 1 ∧ (fun k : Nat => cs[k]?) 0 = some (.int .i64 u) := by
  obtain ⟨x, e, _⟩ := DataW.trod_int Tryd.underlying3 h
  subst e
  exact ⟨x, rfl, rfl⟩
/-- A row of numbers that came in. -/
theorem open_ints9 {fuel : Nat} {cs : List Value} {x : DataW H × List MemPlace} (h : DataW.trod enc Tryd.prog W 0 (fun _ => true) true fuel 26 cs = some x) : ∃ (sl : Value) (l : List Int), cs = [sl] ∧ RowI W sl l := by
  obtain ⟨p, len, cap, us, e, hl, hn, hall⟩ := open_row (0 : Int) (Q := fun c u => c 0 = some (.int .i64 u)) intT cN9 (by decide) open_num h
  refine ⟨_, us, e, p, cap, by rw [hl], by rw [hl]; exact hn, fun j u hj => ?_⟩
  obtain ⟨g, o, hp, c, hcl, hcc, q0⟩ := hall j u hj
  exact ⟨g, o, hp, by simpa using hcc 0 _ q0⟩
theorem open_ints1 (fuel : Nat) (cs : List Value) (y : DataW H × List MemPlace) (h : DataW.trod enc Tryd.prog W 0 (fun _ => true) true fuel 26 cs = some y) : ∃ u : List Int × Value, cs.length = 1 ∧ ((fun k : Nat => cs[k]?) 0 = some u.2 ∧ RowI W u.2 u.1) := by
  obtain ⟨sl, l, rfl, hr⟩ := open_ints9 h
  exact ⟨(l, sl), rfl, rfl, hr⟩
/-- A row of rows of numbers that came in. -/
theorem open_intss9 {fuel : Nat} {cs : List Value} {x : DataW H × List MemPlace} (h : DataW.trod enc Tryd.prog W 0 (fun _ => true) true fuel 22 cs = some x) : ∃ (sl : Value) (l : List (List Int)), cs = [sl] ∧ RowRI W sl l := by
  obtain ⟨p, len, cap, us, e, hl, hn, hall⟩ := open_row (([], .slice none 0 0) : List Int × Value) (Q := fun c u => c 0 = some u.2 ∧ RowI W u.2 u.1) intssT cIs9 (by decide) open_ints1 h
  refine ⟨_, us.map (fun u => u.1), e, p, cap, by rw [List.length_map, hl], by rw [List.length_map, hl]; exact hn, fun j l hj => ?_⟩
  rw [List.getElem?_map] at hj
  cases hu : us[j]? with
  | none => rw [hu] at hj; cases hj
  | some u =>
    rw [hu] at hj
    cases Option.some.inj hj
    obtain ⟨g, o, hp, c, hcl, hcc, q0, q1⟩ := hall j u hu
    exact ⟨g, o, u.2, hp, by simpa using hcc 0 _ q0, q1⟩
theorem open_mask1 (fuel : Nat) (cs : List Value) (y : DataW H × List MemPlace) (h : DataW.trod enc Tryd.prog W 0 (fun _ => true) true fuel 41 cs = some y) : ∃ u : Nat → Bool, cs.length = 23 ∧ ∀ k : Nat, (fun k : Nat => cs[k]?) k = (mv u).toList[k]? := by
  obtain ⟨f, e⟩ := open_maskL h
  exact ⟨f, by rw [e]; exact mvk_len f, fun k => by rw [e]⟩
/-- A row of masks that came in. -/
theorem open_masks9 {fuel : Nat} {cs : List Value} {x : DataW H × List MemPlace} (h : DataW.trod enc Tryd.prog W 0 (fun _ => true) true fuel 42 cs = some x) : ∃ (sl : Value) (l : List (Nat → Bool)), cs = [sl] ∧ RowMk W sl l ∧ (x.1 = .nil ∧ l = [] ∨ ∃ es rs : List (DataW H), x.1 = .slice es rs ∧ es.length = l.length) := by
  obtain ⟨p, len, cap, us, e, hl, hn, hall⟩ := open_row (fun _ => false : Nat → Bool) (Q := fun c u => ∀ k : Nat, c k = (mv u).toList[k]?) (show Tryd.prog.underlying 42 = some (.slice 41) by kernel_rfl) cM9 (by decide) open_mask1 h
  refine ⟨_, us, e, ⟨p, cap, by rw [hl], by rw [hl]; exact hn, fun j f hj => ?_⟩, ?_⟩
  · obtain ⟨g, o, hp, c, hcl, hcc, hq⟩ := hall j f hj
    exact ⟨g, o, hp, fun k v hk => hcc k v ((hq k).trans hk)⟩
  · rcases DataW.trod_slice (show Tryd.prog.underlying 42 = some (.slice 41) by kernel_rfl) h with ⟨e1, ex⟩ | ⟨a, len', cap', elems, rest, m, hf, e1, ex, _, hlc, hm, hlen, _⟩
    · rw [e] at e1
      injection e1 with e1 _
      injection e1 with _ e2 e3
      subst e2
      exact .inl ⟨by rw [ex], List.length_eq_zero_iff.1 hl⟩
    · rw [e] at e1
      injection e1 with e1 _
      injection e1 with _ e2 e3
      subst e2
      exact .inr ⟨elems.map (·.1), rest.map (·.1), by rw [ex], by simp [hlen, hl]⟩
theorem open_masks1 (fuel : Nat) (cs : List Value) (y : DataW H × List MemPlace) (h : DataW.trod enc Tryd.prog W 0 (fun _ => true) true fuel 42 cs = some y) : ∃ u : List (Nat → Bool) × Value, cs.length = 1 ∧ ((fun k : Nat => cs[k]?) 0 = some u.2 ∧ RowMk W u.2 u.1) := by
  obtain ⟨sl, l, rfl, hr, _⟩ := open_masks9 h
  exact ⟨(l, sl), rfl, rfl, hr⟩
/-- Days that came in. -/
theorem open_days9 {fuel : Nat} {cs : List Value} {x : DataW H × List MemPlace} (h : DataW.trod enc Tryd.prog W 0 (fun _ => true) true fuel 25 cs = some x) : ∃ (sl : Value) (l : List (List (Nat → Bool))), cs = [sl] ∧ RowDs W sl l := by
  obtain ⟨p, len, cap, us, e, hl, hn, hall⟩ := open_row (([], .slice none 0 0) : List (Nat → Bool) × Value) (Q := fun c u => c 0 = some u.2 ∧ RowMk W u.2 u.1) (show Tryd.prog.underlying 25 = some (.slice 42) by kernel_rfl) cMs9 (by decide) open_masks1 h
  refine ⟨_, us.map (fun u => u.1), e, p, cap, by rw [List.length_map, hl], by rw [List.length_map, hl]; exact hn, fun j l hj => ?_⟩
  rw [List.getElem?_map] at hj
  cases hu : us[j]? with
  | none => rw [hu] at hj; cases hj
  | some u =>
    rw [hu] at hj
    cases Option.some.inj hj
    obtain ⟨g, o, hp, c, hcl, hcc, q0, q1⟩ := hall j u hu
    exact ⟨g, o, u.2, hp, by simpa using hcc 0 _ q0, q1⟩
set_option maxRecDepth 100000 in
theorem open_days {r : Reach} {b0 : Nat} {v : Value} {d : DataW H} {q : List MemPlace} (hv : Value.okWide Tryd.prog W r b0 25 v) (h : DataW.Trod enc Tryd.prog W 0 (fun _ => true) true 25 v d q) : ∃ l, RowDs W v l := by
  obtain ⟨ao, k0, c0, rfl⟩ := okWide_slice Tryd.underlying25 hv
  obtain ⟨fuel, hf⟩ := h
  obtain ⟨sl, l, e, hr⟩ := open_days9 hf
  have e' : Value.slice ao k0 c0 = sl := by simpa [Value.cells] using e
  rw [e']
  exact ⟨l, hr⟩
set_option maxRecDepth 100000 in
theorem open_ints {r : Reach} {b0 : Nat} {v : Value} {d : DataW H} {q : List MemPlace} (hv : Value.okWide Tryd.prog W r b0 26 v) (h : DataW.Trod enc Tryd.prog W 0 (fun _ => true) true 26 v d q) : ∃ l, RowI W v l := by
  obtain ⟨ao, k0, c0, rfl⟩ := okWide_slice Tryd.underlying26 hv
  obtain ⟨fuel, hf⟩ := h
  obtain ⟨sl, l, e, hr⟩ := open_ints9 hf
  have e' : Value.slice ao k0 c0 = sl := by simpa [Value.cells] using e
  rw [e']
  exact ⟨l, hr⟩
set_option maxRecDepth 100000 in
/-- A service that came in. -/
theorem open_service {r : Reach} {b0 : Nat} {v : Value} {d : DataW H} {q : List MemPlace} (hv : Value.okWide Tryd.prog W r b0 24 v) (h : DataW.Trod enc Tryd.prog W 0 (fun _ => true) true 24 v d q) : ∃ (s : Sv) (rv : Value), v = svV s rv ∧ RowRI W rv s.roles := by
  obtain ⟨cs, rfl, _⟩ := okWide_struct Tryd.underlying24 hv
  obtain ⟨fuel, hf⟩ := h
  obtain ⟨xs, m, _, _, hl, hx, hall⟩ := DataW.trod_struct Tryd.underlying24 hf
  rw [cSv9] at hl
  have hx4 : xs.length = 4 := hx
  have hcs : (Value.agg cs).cells.toList = cs.toList := rfl
  rw [hcs] at hl hall
  obtain ⟨c0, c1, c2, c3, hcs2⟩ := four9 hl
  obtain ⟨x0, x1, x2, x3, rfl⟩ := four9 hx4
  rw [hcs2] at hall
  have h0 : DataW.trod enc Tryd.prog W 0 (fun _ => true) true m 3 (([c0, c1, c2, c3].drop 0).take (Tryd.prog.cellsOf 3)) = some x0 := hall 0 _ rfl
  have h1 : DataW.trod enc Tryd.prog W 0 (fun _ => true) true m 3 (([c0, c1, c2, c3].drop 1).take (Tryd.prog.cellsOf 3)) = some x1 := hall 1 _ rfl
  have h2 : DataW.trod enc Tryd.prog W 0 (fun _ => true) true m 3 (([c0, c1, c2, c3].drop 2).take (Tryd.prog.cellsOf 3)) = some x2 := hall 2 _ rfl
  have h3 : DataW.trod enc Tryd.prog W 0 (fun _ => true) true m 22 (([c0, c1, c2, c3].drop 3).take (Tryd.prog.cellsOf 22)) = some x3 := hall 3 _ rfl
  rw [cN9] at h0 h1 h2
  rw [cIss9] at h3
  obtain ⟨a, e0, _⟩ := DataW.trod_int Tryd.underlying3 h0
  obtain ⟨b, e1, _⟩ := DataW.trod_int Tryd.underlying3 h1
  obtain ⟨c, e2, _⟩ := DataW.trod_int Tryd.underlying3 h2
  obtain ⟨sl, l, e3, hr⟩ := open_intss9 h3
  simp at e0 e1 e2 e3
  subst e0 e1 e2 e3
  refine ⟨⟨a, b, c, l⟩, c3, ?_, hr⟩
  unfold svV
  congr 1
  exact Array.toList_inj.1 hcs2
set_option maxRecDepth 100000 in
theorem days_stay {W' : World} {v : Value} {d : DataW H} {p : List MemPlace} (h : DataW.Trod enc Tryd.prog W 0 (fun _ => true) true 25 v d p) (hb : Below W.heap.size W W') (hlt : ∀ x ∈ p, x.block < W.heap.size) : DataW.Trod enc Tryd.prog W' 0 (fun b => decide (b < W.heap.size)) true 25 v d p :=
  Below.trod (by kernel_rfl) (by kernel_rfl) (of_decide_eq_true (by kernel_rfl)) h hb hlt
set_option maxRecDepth 100000 in
theorem ints_stay {W' : World} {v : Value} {d : DataW H} {p : List MemPlace} (h : DataW.Trod enc Tryd.prog W 0 (fun _ => true) true 26 v d p) (hb : Below W.heap.size W W') (hlt : ∀ x ∈ p, x.block < W.heap.size) : DataW.Trod enc Tryd.prog W' 0 (fun b => decide (b < W.heap.size)) true 26 v d p :=
  Below.trod (by kernel_rfl) (by kernel_rfl) (of_decide_eq_true (by kernel_rfl)) h hb hlt
set_option maxRecDepth 100000 in
theorem service_stays {W' : World} {v : Value} {d : DataW H} {p : List MemPlace} (h : DataW.Trod enc Tryd.prog W 0 (fun _ => true) true 24 v d p) (hb : Below W.heap.size W W') (hlt : ∀ x ∈ p, x.block < W.heap.size) : DataW.Trod enc Tryd.prog W' 0 (fun b => decide (b < W.heap.size)) true 24 v d p :=
  Below.trod (by kernel_rfl) (by kernel_rfl) (of_decide_eq_true (by kernel_rfl)) h hb hlt
end Go.Proofs.YtlhjgajhcabhoaaDoor

/- What the condition on the listed table gives the walks, the start that meets it, and how a mask that came in reads. -/
namespace Go.Proofs.YtlhjgajhcabhoaaDoor
open Go.ChangeShapes Go.WideShapes Go.ChangeAt Go.WideMaps Go.WideElems Go.RowKit Go.Joins Msk

/-- The listed variable, as every row of the seat lists it. -/
abbrev laid1 : List (String × DataW Unit) := Rows.matchTellsRow.laid
def tabName : String := (Rows.matchTellsRow.named.headD default)
def tabInts : List Int := Lib.deBruijn64tab.map fun (n : Nat) => (n : Int)
theorem own : ownKnob Tryd.prog.godebug = none := by kernel_rfl
theorem gTab : Tryd.prog.globalNamed tabName = some 0 := by kernel_rfl
theorem tTab : (Tryd.prog.globals[0]?).map (·.type) = some 103 := by kernel_rfl
theorem cU8 : Tryd.prog.cellsOf 5 = 1 := by kernel_rfl
theorem cTab : Tryd.prog.cellsOf 103 = 64 := by kernel_rfl
theorem cU64F : Tryd.prog.cellsOf 39 = 1 := by kernel_rfl
theorem cMaskF : Tryd.prog.cellsOf 41 = 23 := by kernel_rfl

theorem door_met (os : Os) (args : Array Value) : laidMetH Tryd.prog laid1 ((World.doorLaid Tryd.prog 400 os).forCall (fun _ _ => 0) ⟨#[], args, []⟩).memory :=
  laidMetH_of_parts3 (fuel := 8) (laidMet_of_run' 8 (by kernel_rfl) (by kernel_rfl)) (by kernel_rfl) (by kernel_rfl)

theorem tab_of_laid {W : World} (h : laidMetH Tryd.prog laid1 W) : Tab W := by
  rw [MakeChecks.laidMetH_plain _ _ _ (by kernel_rfl)] at h
  have t : Lib.TabIs Tryd.prog W tabName .u8 tabInts := Lib.tabIs_of_head (name := tabName) (rest := []) gTab tTab Tryd.underlying103 Tryd.underlying5 cU8 cTab h
  intro i hi
  have := t.cell gTab i (by simpa [tabInts, Lib.deBruijn64tab] using hi)
  rw [this]
  have hl : i < Lib.deBruijn64tab.length := by simpa [Lib.deBruijn64tab] using hi
  simp [tabInts, List.getD, hl]

end Go.Proofs.YtlhjgajhcabhoaaDoor

/- Five arguments. It speaks of no program. -/
namespace Go.Proofs.YtlhjgajhcabhoaaDoor
open Go.ChangeShapes Go.WideShapes Go.ChangeAt Go.WideMaps Go.WideElems Go.RowKit Go.Joins

theorem trodAll_five {H : Type} {enc : TypeId × Value → H} {P : Program} {w : World} {base : Nat} {spare : Nat → Bool} {held : Bool} {t0 t1 t2 t3 t4 : TypeId} {args : Array Value} {ds : List (DataW H)} {ps : List MemPlace} (h : DataW.TrodAll enc P w base spare held [t0, t1, t2, t3, t4] args.toList ds ps) :
    ∃ v0 v1 v2 v3 v4 d0 d1 d2 d3 d4 p0 p1 p2 p3 p4, args = #[v0, v1, v2, v3, v4] ∧ ds = [d0, d1, d2, d3, d4] ∧ ps = p0 ++ (p1 ++ (p2 ++ (p3 ++ p4))) ∧ DataW.Trod enc P w base spare held t0 v0 d0 p0 ∧ DataW.Trod enc P w base spare held t1 v1 d1 p1 ∧ DataW.Trod enc P w base spare held t2 v2 d2 p2 ∧ DataW.Trod enc P w base spare held t3 v3 d3 p3 ∧ DataW.Trod enc P w base spare held t4 v4 d4 p4 := by
  obtain ⟨v0, vs, d0, ds', p0, q, hargs, rfl, rfl, h0, hr⟩ := trodAll_cons h
  obtain ⟨v1, vs1, d1, ds1, p1, q1, rfl, rfl, rfl, h1, hr1⟩ := trodAll_cons hr
  obtain ⟨v2, vs2, d2, ds2, p2, q2, rfl, rfl, rfl, h2, hr2⟩ := trodAll_cons hr1
  obtain ⟨v3, vs3, d3, ds3, p3, q3, rfl, rfl, rfl, h3, hr3⟩ := trodAll_cons hr2
  obtain ⟨v4, vs4, d4, ds4, p4, q4, rfl, rfl, rfl, h4, hr4⟩ := trodAll_cons hr3
  obtain ⟨rfl, rfl, rfl⟩ := trodAll_nil hr4
  exact ⟨v0, v1, v2, v3, v4, d0, d1, d2, d3, d4, p0, p1, p2, p3, p4, by cases args; simp_all, rfl, by simp, h0, h1, h2, h3, h4⟩
theorem trodAll_mk5 {H : Type} {enc : TypeId × Value → H} {P : Program} {w : World} {base : Nat} {spare : Nat → Bool} {held : Bool} {t0 t1 t2 t3 t4 : TypeId} {v0 v1 v2 v3 v4 : Value} {d0 d1 d2 d3 d4 : DataW H} {p0 p1 p2 p3 p4 : List MemPlace} (h0 : DataW.Trod enc P w base spare held t0 v0 d0 p0) (h1 : DataW.Trod enc P w base spare held t1 v1 d1 p1) (h2 : DataW.Trod enc P w base spare held t2 v2 d2 p2)
    (h3 : DataW.Trod enc P w base spare held t3 v3 d3 p3) (h4 : DataW.Trod enc P w base spare held t4 v4 d4 p4) : DataW.TrodAll enc P w base spare held [t0, t1, t2, t3, t4] [v0, v1, v2, v3, v4] [d0, d1, d2, d3, d4] (p0 ++ (p1 ++ (p2 ++ (p3 ++ p4)))) := ⟨p0, _, h0, trodAll_mk4 h1 h2 h3 h4, rfl⟩
end Go.Proofs.YtlhjgajhcabhoaaDoor
