/- The first slot is the first: plain facts. -/
import Derived.Test.YtlhjgajhcabhoaaDoorMn06
import Derived.Great.BuildSlice
import Derived.Great.FillDense
import Derived.Test.YtlhjgajhcabhoaaDoorMn01
import Derived.MapKept
import Derived.Carry
namespace Go.Proofs.YtlhjgajhcabhoaaDoor
open Go.RowKit Msk Mx

theorem holdB_iff (f : Nat → Bool) (x y : Int) : holdB f x y = true ↔ 0 ≤ x ∧ y ≤ 1440 ∧ x ≤ y ∧ ∀ i : Nat, x ≤ (i : Int) → (i : Int) < y → f i = true := by
  unfold holdB
  rw [Bool.and_eq_true, Bool.and_eq_true, Bool.and_eq_true, decide_eq_true_eq, decide_eq_true_eq, decide_eq_true_eq]
  constructor
  · rintro ⟨⟨⟨h1, h2⟩, h3⟩, h4⟩
    refine ⟨h1, h2, h3, fun i hi hi' => ?_⟩
    have h := eqm_same h4 i (by omega)
    have hin : inl [(x, y)] i = true := by simp [inl]; omega
    have h14 : decide (i < 1440) = true := decide_eq_true (by omega)
    rw [hin, h14] at h
    simpa using h
  · rintro ⟨h1, h2, h3, h4⟩
    refine ⟨⟨⟨h1, h2⟩, h3⟩, eqm_true fun i _ => ?_⟩
    cases hin : inl [(x, y)] i with
    | false => rfl
    | true =>
      simp [inl] at hin
      rw [h4 i (by omega) (by omega)]
      rfl
/-- A service can be had at a minute by some. -/
structure Fit (s : Sv) (fs : List (Nat → Bool)) (m : Int) (who : List Int) : Prop where
  len : who.length = s.roles.length
  mem : ∀ (i : Nat) (r : Int) (p : List Int), who[i]? = some r → s.roles[i]? = some p → r ∈ p
  nd : who.Nodup
  ok : ∀ r ∈ who, okP fs (m - s.bef) (m - s.bef + whole s) r = true
/-- One list ahead of the other one, or the same. -/
def lexB : List Int → List Int → Bool
  | x :: l, y :: k => if y ≠ x then decide (x < y) else lexB l k
  | _, _ => true
theorem lexB_refl : ∀ l : List Int, lexB l l = true
  | [] => rfl
  | x :: l => by rw [lexB, if_neg (by simp)]; exact lexB_refl l
theorem lexB_app : ∀ (t l k : List Int), lexB (t ++ l) (t ++ k) = lexB l k
  | [], _, _ => rfl
  | x :: t, l, k => by
    show lexB (x :: (t ++ l)) (x :: (t ++ k)) = _
    rw [lexB, if_neg (by simp)]
    exact lexB_app t l k
theorem lexB_lt {x y : Int} (h : x < y) (l k : List Int) : lexB (x :: l) (y :: k) = true := by
  rw [lexB, if_pos (by omega)]
  exact decide_eq_true h
/-- Behind t, one of each pool, none twice. -/
structure Val (pools : List (List Int)) (t u : List Int) : Prop where
  len : t.length + u.length = pools.length
  mem : ∀ (i : Nat) (r : Int), u[i]? = some r → r ∈ pools.getD (t.length + i) []
  nd : (t ++ u).Nodup
theorem pick_sound {pools : List (List Int)} : ∀ {k : Nat} {t who : List Int}, t.length + k = pools.length → t.Nodup → pickP pools k t = some who → ∃ u, who = t ++ u ∧ Val pools t u
  | 0, t, who, hk, hn, h => by
    cases Option.some.inj h
    exact ⟨[], by simp, ⟨by simpa using hk, fun i r hi => by simp at hi, by simpa using hn⟩⟩
  | k + 1, t, who, hk, hn, h => by
    rw [pickP] at h
    obtain ⟨r, hr, hs⟩ := findSome_some h
    by_cases hm : r ∈ t
    · rw [if_pos hm] at hs; cases hs
    · rw [if_neg hm] at hs
      obtain ⟨u, e, hv⟩ := pick_sound (k := k) (t := t ++ [r]) (by simp; omega) (List.nodup_append.2 ⟨hn, by simp, fun a ha b hb => by rw [List.mem_singleton.1 hb]; rintro rfl; exact hm ha⟩) hs
      refine ⟨r :: u, by rw [e, List.append_assoc]; rfl, ⟨?_, fun i q hi => ?_, ?_⟩⟩
      · have := hv.len
        simp at this ⊢
        omega
      · match i, hi with
        | 0, hi => cases Option.some.inj hi; exact hr
        | i + 1, hi =>
          have := hv.mem i q (by simpa using hi)
          rw [List.length_append] at this
          rw [show t.length + (i + 1) = t.length + [r].length + i by simp; omega]
          exact this
      · have := hv.nd
        rw [List.append_assoc] at this
        exact this
theorem findSome_cases {α β : Type} (f : α → Option β) : ∀ l : List α, (l.findSome? f = none ∧ ∀ x ∈ l, f x = none) ∨ ∃ pre x post y, l = pre ++ x :: post ∧ (∀ z ∈ pre, f z = none) ∧ f x = some y ∧ l.findSome? f = some y
  | [] => .inl ⟨rfl, fun x hx => by cases hx⟩
  | x :: l => by
    cases hx : f x with
    | some y => exact .inr ⟨[], x, l, y, rfl, (fun z hz => by cases hz), hx, by rw [List.findSome?_cons, hx]⟩
    | none =>
      rcases findSome_cases f l with ⟨h1, h2⟩ | ⟨pre, z, post, y, h1, h2, h3, h4⟩
      · refine .inl ⟨by rw [List.findSome?_cons, hx]; exact h1, fun z hz => ?_⟩
        rcases List.mem_cons.1 hz with rfl | hz
        · exact hx
        · exact h2 z hz
      · refine .inr ⟨x :: pre, z, post, y, by rw [h1]; rfl, fun q hq => ?_, h3, by rw [List.findSome?_cons, hx]; exact h4⟩
        rcases List.mem_cons.1 hq with rfl | hq
        · exact hx
        · exact h2 q hq
/-- What is picked comes first; where nothing is picked there is nothing. -/
theorem pick_least {pools : List (List Int)} (hup : ∀ p ∈ pools, p.Pairwise (· < ·)) : ∀ {k : Nat} {t : List Int}, t.length + k = pools.length → ∀ u, Val pools t u → ∃ who, pickP pools k t = some who ∧ lexB who (t ++ u) = true
  | 0, t, hk, u, hv => by
    have hu : u = [] := List.eq_nil_of_length_eq_zero (by have := hv.len; omega)
    subst hu
    exact ⟨t, rfl, by rw [List.append_nil]; exact lexB_refl t⟩
  | k + 1, t, hk, u, hv => by
    match u, hv with
    | [], hv => have := hv.len; simp at this; omega
    | r :: u, hv =>
      have hr : r ∈ pools.getD t.length [] := hv.mem 0 r rfl
      have hrt : r ∉ t := fun h => by
        have := (List.nodup_append.1 hv.nd).2.2 r h r List.mem_cons_self
        exact this rfl
      have hv' : Val pools (t ++ [r]) u := by
        refine ⟨?_, fun i q hi => ?_, ?_⟩
        · have := hv.len
          simp at this ⊢
          omega
        · have := hv.mem (i + 1) q (by simpa using hi)
          rw [show t.length + (i + 1) = (t ++ [r]).length + i by simp; omega] at this
          exact this
        · rw [List.append_assoc]
          exact hv.nd
      obtain ⟨who1, e1, l1⟩ := pick_least hup (k := k) (t := t ++ [r]) (by simp; omega) u hv'
      have hf : (if r ∈ t then none else pickP pools k (t ++ [r])) = some who1 := by
        rw [if_neg hrt]
        exact e1
      rcases findSome_cases (fun q => if q ∈ t then none else pickP pools k (t ++ [q])) (pools.getD t.length []) with ⟨_, h2⟩ | ⟨pre, x, post, y, h1, h2, h3, h4⟩
      · have := h2 r hr
        rw [hf] at this
        cases this
      · refine ⟨y, by rw [pickP]; exact h4, ?_⟩
        by_cases hxr : x = r
        · subst hxr
          rw [hf] at h3
          cases Option.some.inj h3
          rw [List.append_assoc] at l1
          exact l1
        · have hlt : x < r := by
            rw [h1] at hr
            rcases List.mem_append.1 hr with hp | hp
            · have := h2 r hp
              rw [hf] at this
              cases this
            · rcases List.mem_cons.1 hp with e | hp
              · exact absurd e.symm hxr
              · have hpw : (pools.getD t.length []).Pairwise (· < ·) := by
                  cases hq : pools[t.length]? with
                  | none => simp [List.getD, hq]
                  | some p =>
                    have : pools.getD t.length [] = p := by simp [List.getD, hq]
                    rw [this]
                    exact hup p (List.mem_of_getElem? hq)
                rw [h1, List.pairwise_append] at hpw
                exact (List.pairwise_cons.1 hpw.2.1).1 r hp
          have hxt : x ∉ t := fun hx => by
            rw [if_pos hx] at h3
            cases h3
          rw [if_neg hxt] at h3
          have hnt : t.Nodup := (List.nodup_append.1 hv.nd).1
          obtain ⟨u2, e2, _⟩ := pick_sound (k := k) (t := t ++ [x]) (by simp; omega) (List.nodup_append.2 ⟨hnt, by simp, fun a ha b hb => by rw [List.mem_singleton.1 hb]; rintro rfl; exact hxt ha⟩) h3
          rw [e2, List.append_assoc, lexB_app]
          exact lexB_lt hlt _ _
theorem good_gap {n : Int} : ∀ {l : List (Int × Int)} {last : Int}, good last n l → ∀ s ∈ l, ∀ t ∈ l, t.1 ≤ s.2 → s.2 < t.2 → False
  | [], _, _, s, hs, _, _, _, _ => by cases hs
  | q :: l, last, h, s, hs, t, ht, h1, h2 => by
    obtain ⟨g1, g2, g3, g4⟩ := h
    rcases List.mem_cons.1 hs with es | hs'
    · subst es
      rcases List.mem_cons.1 ht with et | ht'
      · subst et
        omega
      · have := good_at g4 t ht'
        omega
    · rcases List.mem_cons.1 ht with et | ht'
      · subst et
        have := good_at g4 s hs'
        omega
      · exact good_gap g4 s hs' t ht' h1 h2
theorem okP_iff (fs : List (Nat → Bool)) (x y r : Int) : okP fs x y r = true ↔ 0 ≤ x ∧ y ≤ 1440 ∧ x ≤ y ∧ ∀ i : Nat, x ≤ (i : Int) → (i : Int) < y → (fs.getD r.toNat fun _ => false) i = true := holdB_iff _ x y
theorem freeP_getD (ok : Int → Bool) (roles : List (List Int)) (i : Nat) : (freeP ok roles).getD i [] = (roles.getD i []).filter ok := by
  unfold freeP
  rw [List.getD_eq_getElem?_getD, List.getD_eq_getElem?_getD, List.getElem?_map]
  cases roles[i]? <;> rfl
theorem fit_val {s : Sv} {fs : List (Nat → Bool)} {x : Int} {who : List Int} : Fit s fs (x + s.bef) who ↔ Val (freeP (okP fs x (x + whole s)) s.roles) [] who := by
  have e : x + s.bef - s.bef = x := by omega
  constructor
  · rintro ⟨h1, h2, h3, h4⟩
    rw [e] at h4
    refine ⟨by unfold freeP; rw [List.length_map]; simpa using h1, fun i r hi => ?_, by simpa using h3⟩
    rw [freeP_getD, List.length_nil, Nat.zero_add, List.mem_filter]
    have hil := (List.getElem?_eq_some_iff.1 hi).1
    have hp : s.roles[i]? = some (s.roles[i]'(by omega)) := List.getElem?_eq_getElem _
    refine ⟨?_, h4 r (List.mem_of_getElem? hi)⟩
    rw [show s.roles.getD i [] = s.roles[i]'(by omega) by simp [List.getD, hp]]
    exact h2 i r _ hi hp
  · rintro ⟨h1, h2, h3⟩
    have hl : who.length = s.roles.length := by unfold freeP at h1; rw [List.length_map] at h1; simpa using h1
    have h5 : ∀ (i : Nat) (r : Int), who[i]? = some r → r ∈ s.roles.getD i [] ∧ okP fs x (x + whole s) r = true := fun i r hi => by
      have := h2 i r hi
      rwa [freeP_getD, List.length_nil, Nat.zero_add, List.mem_filter] at this
    refine ⟨hl, fun i r p hi hp => ?_, by simpa using h3, fun r hr => ?_⟩
    · have := (h5 i r hi).1
      rwa [show s.roles.getD i [] = p by simp [List.getD, hp]] at this
    · obtain ⟨i, hi, rfl⟩ := List.getElem_of_mem hr
      rw [e]
      exact (h5 i _ (List.getElem?_eq_getElem hi)).2
theorem freeP_up {ok : Int → Bool} {s : Sv} {n : Int} (h : SvOK s n) : ∀ p ∈ freeP ok s.roles, p.Pairwise (· < ·) := fun p hp => by
  unfold freeP at hp
  rw [List.mem_map] at hp
  obtain ⟨q, hq, rfl⟩ := hp
  exact (h.pool q hq).up.filter _
theorem mem_compact_of {x : Int} {zs : List Int} (h : x ∈ zs) : x ∈ Go.Lib.compact zs := by
  have key : ∀ n, n ≤ zs.length → ∀ j, j < n → zs.getD j 0 ∈ Go.Lib.compactUpTo zs.toArray n := by
    intro n
    induction n with
    | zero => intro _ j hj; omega
    | succ n ih =>
      intro hn j hj
      rw [Go.Lib.compactUpTo_succ]
      by_cases e : j = n
      · subst e
        cases hk : Go.Lib.keeps zs.toArray j with
        | true =>
          rw [if_pos rfl, getElem!_pos _ j (by simpa using (by omega : j < zs.length))]
          simp [List.getD, List.getElem?_eq_getElem (by omega : j < zs.length)]
        | false =>
          have h0 : j ≠ 0 := fun e => by subst e; simp [Go.Lib.keeps] at hk
          have := ih (by omega) (j - 1) (by omega)
          have heq : zs.getD j 0 = zs.getD (j - 1) 0 := by
            have h1 : j < zs.length := by omega
            have h2 : j - 1 < zs.length := by omega
            simp [Go.Lib.keeps, h0] at hk
            simp only [List.getD]
            exact hk
          rw [heq]
          exact List.mem_append_left _ this
      · exact List.mem_append_left _ (ih (by omega) j (by omega))
  obtain ⟨j, hj, rfl⟩ := List.getElem_of_mem h
  have := key zs.length (Nat.le_refl _) j hj
  show _ ∈ Go.Lib.compactUpTo _ _
  simpa [List.getD, List.getElem?_eq_getElem hj] using this
theorem compact_sub (zs : List Int) : (Go.Lib.compact zs).Sublist zs := by
  have e : zs = (List.range zs.length).map (zs.toArray[·]!) := by
    apply List.ext_getElem (by simp)
    intro i h1 h2
    simp [h1]
  unfold Go.Lib.compact Go.Lib.compactUpTo
  conv => rhs; rw [e]
  exact List.Sublist.map _ (List.filter_sublist)
theorem places_up (W : Int) (fs : List (Nat → Bool)) (roles : List (List Int)) : (placesP W fs roles).Pairwise (· ≤ ·) := by
  have h : ((placesL W fs roles).mergeSort fun x y => decide (x ≤ y)).Pairwise (fun a b => decide (a ≤ b) = true) := List.pairwise_mergeSort (fun a b c h1 h2 => by simp at h1 h2 ⊢; omega) (fun a b => by simp; omega) _
  exact (h.imp (fun h => of_decide_eq_true h)).sublist (compact_sub _)
theorem mem_places {W x : Int} {fs : List (Nat → Bool)} {roles : List (List Int)} : x ∈ placesP W fs roles ↔ ∃ p ∈ roles, ∃ r ∈ p, ∃ s ∈ rs (fs.getD r.toNat fun _ => false) 1440, W ≤ s.2 - s.1 ∧ s.1 = x := by
  have h0 : x ∈ placesP W fs roles ↔ x ∈ placesL W fs roles := ⟨fun h => List.mem_mergeSort.1 (mem_compact h), fun h => mem_compact_of (List.mem_mergeSort.2 h)⟩
  rw [h0]
  unfold placesL poolL runsOf
  simp only [List.mem_flatMap, List.mem_map, List.mem_filter, decide_eq_true_eq]
  constructor
  · rintro ⟨p, hp, r, hr, s, ⟨hs, hw⟩, e⟩
    exact ⟨p, hp, r, hr, s, hs, hw, e⟩
  · rintro ⟨p, hp, r, hr, s, hs, hw, e⟩
    exact ⟨p, hp, r, hr, s, ⟨hs, hw⟩, e⟩
/-- The span of a mask around minutes that it has. -/
theorem run_around {f : Nat → Bool} {x y : Int} (h0 : 0 ≤ x) (hxy : x < y) (hy : y ≤ 1440) (h : ∀ i : Nat, x ≤ (i : Int) → (i : Int) < y → f i = true) : ∃ s ∈ rs f 1440, s.1 ≤ x ∧ y ≤ s.2 ∧ (0 ≤ s.1 ∧ s.2 ≤ 1440 ∧ ∀ i : Nat, s.1 ≤ (i : Int) → (i : Int) < s.2 → f i = true) := by
  have hR := runs_of f 1440
  have has : ∀ i : Nat, i < 1440 → (f i = true ↔ ∃ s ∈ rs f 1440, s.1 ≤ (i : Int) ∧ (i : Int) < s.2) := fun i hi => by
    rw [← hR.has i hi, List.any_eq_true]
    simp
  have hg := good_at hR.good
  have full : ∀ s ∈ rs f 1440, 0 ≤ s.1 ∧ s.2 ≤ 1440 ∧ ∀ i : Nat, s.1 ≤ (i : Int) → (i : Int) < s.2 → f i = true := fun s hs => by
    obtain ⟨g1, g2, g3⟩ := hg s hs
    exact ⟨by omega, g3, fun i h1 h2 => (has i (by omega)).2 ⟨s, hs, h1, h2⟩⟩
  obtain ⟨n, hn⟩ : ∃ n : Nat, x = (n : Int) := ⟨x.toNat, by omega⟩
  obtain ⟨s, hs, h1, h2⟩ := (has n (by omega)).1 (h n (by omega) (by omega))
  refine ⟨s, hs, by omega, ?_, full s hs⟩
  refine Classical.byContradiction fun hlt => ?_
  obtain ⟨g1, g2, g3⟩ := hg s hs
  obtain ⟨m, hm⟩ : ∃ m : Nat, s.2 = (m : Int) := ⟨s.2.toNat, by omega⟩
  obtain ⟨t, ht, t1, t2⟩ := (has m (by omega)).1 (h m (by omega) (by omega))
  exact good_gap hR.good s hs t ht (by omega) (by omega)
/-- Who can be had at a minute can be had at a place to try that is no later. -/
theorem fit_place {s : Sv} {n : Int} {fs : List (Nat → Bool)} {x : Int} {who : List Int} (hS : SvOK s n) (h : Fit s fs (x + s.bef) who) : ∃ p ∈ placesP (whole s) fs s.roles, p ≤ x ∧ Fit s fs (p + s.bef) who := by
  have hme := hS.meas
  unfold measB at hme
  have hme := of_decide_eq_true hme
  have hW : 1 ≤ whole s := by unfold whole; omega
  have ex : ∀ (l : List Int), (∀ r ∈ l, ∃ t ∈ rs (fs.getD r.toNat fun _ => false) 1440, t.1 ≤ x ∧ x + whole s ≤ t.2 ∧ (0 ≤ t.1 ∧ t.2 ≤ 1440 ∧ ∀ i : Nat, t.1 ≤ (i : Int) → (i : Int) < t.2 → (fs.getD r.toNat fun _ => false) i = true)) → l ≠ [] →
      ∃ p, p ≤ x ∧ 0 ≤ p ∧ (∃ r ∈ l, ∃ t ∈ rs (fs.getD r.toNat fun _ => false) 1440, whole s ≤ t.2 - t.1 ∧ t.1 = p) ∧ ∀ r ∈ l, ∃ t : Int × Int, t.1 ≤ p ∧ x + whole s ≤ t.2 ∧ t.2 ≤ 1440 ∧ ∀ i : Nat, t.1 ≤ (i : Int) → (i : Int) < t.2 → (fs.getD r.toNat fun _ => false) i = true := by
    intro l
    induction l with
    | nil => intro _ h; exact absurd rfl h
    | cons r l ih =>
      intro hl _
      obtain ⟨t, ht, t1, t2, t3, t4, t5⟩ := hl r List.mem_cons_self
      by_cases hn : l = []
      · subst hn
        refine ⟨t.1, t1, t3, ⟨r, List.mem_cons_self, t, ht, by omega, rfl⟩, fun q hq => ?_⟩
        rw [List.mem_singleton.1 hq]
        exact ⟨t, Int.le_refl _, t2, t4, t5⟩
      · obtain ⟨p, p1, p2, ⟨r0, hr0, t0, ht0, w0, e0⟩, p4⟩ := ih (fun q hq => hl q (List.mem_cons_of_mem _ hq)) hn
        by_cases hle : t.1 ≤ p
        · refine ⟨p, p1, p2, ⟨r0, List.mem_cons_of_mem _ hr0, t0, ht0, w0, e0⟩, fun q hq => ?_⟩
          rcases List.mem_cons.1 hq with rfl | hq
          · exact ⟨t, hle, t2, t4, t5⟩
          · exact p4 q hq
        · refine ⟨t.1, t1, t3, ⟨r, List.mem_cons_self, t, ht, by omega, rfl⟩, fun q hq => ?_⟩
          rcases List.mem_cons.1 hq with rfl | hq
          · exact ⟨t, Int.le_refl _, t2, t4, t5⟩
          · obtain ⟨u, u1, u2, u4, u5⟩ := p4 q hq
            exact ⟨u, by omega, u2, u4, u5⟩
  have hwl := h.len
  have hr1 := hS.r1
  have hwn : who ≠ [] := fun e => by rw [e] at hwl; simp at hwl; omega
  obtain ⟨p, p1, p2, ⟨r, hr, t, ht, w0, e0⟩, p4⟩ := ex who (fun r hr => by
    have := (okP_iff _ _ _ _).1 (h.ok r hr)
    rw [show x + s.bef - s.bef = x by omega] at this
    exact run_around this.1 (by omega) this.2.1 this.2.2.2) hwn
  refine ⟨p, ?_, p1, ⟨h.len, h.mem, h.nd, fun r hr => by
    rw [show p + s.bef - s.bef = p by omega, okP_iff]
    obtain ⟨t, t1, t2, t4, t5⟩ := p4 r hr
    exact ⟨p2, by omega, by omega, fun i h1 h2 => t5 i (by omega) (by omega)⟩⟩⟩
  obtain ⟨i, hi, rfl⟩ := List.getElem_of_mem hr
  have hp : s.roles[i]? = some (s.roles[i]'(by omega)) := List.getElem?_eq_getElem _
  exact mem_places.2 ⟨_, List.mem_of_getElem? hp, _, h.mem i _ _ (List.getElem?_eq_getElem hi) hp, t, ht, w0, e0⟩
/-- What the first slot of a day is. -/
theorem first_some {s : Sv} {n : Int} {fs : List (Nat → Bool)} (hS : SvOK s n) {m : Int} {who : List Int} (h : firstP s.len s.bef s.aft s.roles fs = some (m, who)) : Fit s fs m who ∧ ∀ m' who', Fit s fs m' who' → m < m' ∨ m = m' ∧ lexB who who' = true := by
  unfold firstP at h
  have hW : s.bef + s.len + s.aft = whole s := rfl
  rcases findSome_cases (atP8 s.len s.bef s.aft s.roles fs) (placesP (s.bef + s.len + s.aft) fs s.roles) with ⟨h1, _⟩ | ⟨pre, x, post, y, h1, h2, h3, h4⟩
  · rw [h1] at h; cases h
  · rw [h4] at h
    cases Option.some.inj h
    unfold atP8 at h3
    rw [hW] at h3
    cases hp : pickP (freeP (okP fs x (x + whole s)) s.roles) s.roles.length [] with
    | none => rw [hp] at h3; cases h3
    | some w0 =>
      rw [hp] at h3
      have h3' := Option.some.inj h3
      have e1 : x + s.bef = m := congrArg Prod.fst h3'
      have e2 : w0 = who := congrArg Prod.snd h3'
      subst e1 e2
      have hfl : (freeP (okP fs x (x + whole s)) s.roles).length = s.roles.length := by unfold freeP; rw [List.length_map]
      obtain ⟨u, eu, hv⟩ := pick_sound (by rw [hfl]; simp) (by simp) hp
      rw [List.nil_append] at eu
      subst eu
      refine ⟨fit_val.2 hv, fun m' who' hf => ?_⟩
      obtain ⟨x', rfl⟩ : ∃ x', m' = x' + s.bef := ⟨m' - s.bef, by omega⟩
      obtain ⟨p, hpp, hpx, hfp⟩ := fit_place hS hf
      have hxp : x ≤ p := by
        rw [← hW, h1] at hpp
        rcases List.mem_append.1 hpp with hq | hq
        · exfalso
          have := h2 p hq
          unfold atP8 at this
          rw [hW] at this
          obtain ⟨w1, e1, _⟩ := pick_least (freeP_up hS) (k := s.roles.length) (t := []) (by unfold freeP; rw [List.length_map]; simp) who' (fit_val.1 hfp)
          rw [e1] at this
          cases this
        · rcases List.mem_cons.1 hq with rfl | hq
          · exact Int.le_refl _
          · have hup := places_up (s.bef + s.len + s.aft) fs s.roles
            rw [h1, List.pairwise_append] at hup
            exact (List.pairwise_cons.1 hup.2.1).1 p hq
      by_cases hlt : x < x'
      · exact .inl (by omega)
      · have hx : x = x' := by omega
        subst hx
        refine .inr ⟨rfl, ?_⟩
        obtain ⟨w1, e1, l1⟩ := pick_least (freeP_up hS) (k := s.roles.length) (t := []) (by unfold freeP; rw [List.length_map]; simp) who' (fit_val.1 hf)
        rw [hp] at e1
        cases Option.some.inj e1
        simpa using l1
theorem first_none {s : Sv} {n : Int} {fs : List (Nat → Bool)} (hS : SvOK s n) (h : firstP s.len s.bef s.aft s.roles fs = none) (m : Int) (who : List Int) : ¬ Fit s fs m who := fun hf => by
  unfold firstP at h
  obtain ⟨x, rfl⟩ : ∃ x, m = x + s.bef := ⟨m - s.bef, by omega⟩
  obtain ⟨p, hpp, hpx, hfp⟩ := fit_place hS hf
  have hW : s.bef + s.len + s.aft = whole s := rfl
  rcases findSome_cases (atP8 s.len s.bef s.aft s.roles fs) (placesP (s.bef + s.len + s.aft) fs s.roles) with ⟨_, h2⟩ | ⟨_, _, _, _, _, _, _, h4⟩
  · have := h2 p (by rw [hW]; exact hpp)
    unfold atP8 at this
    rw [hW] at this
    obtain ⟨w1, e1, _⟩ := pick_least (freeP_up hS) (k := s.roles.length) (t := []) (by unfold freeP; rw [List.length_map]; simp) who (fit_val.1 hfp)
    rw [e1] at this
    cases this
  · rw [h4] at h; cases h
end Go.Proofs.YtlhjgajhcabhoaaDoor

/- What is asked first of slots: a service of two roles, of which one alone can fill one. -/
namespace Go.Proofs.YtlhjgajhcabhoaaDoor
open Go.RowKit Msk Mx

def sv10 : Sv := ⟨30, 10, 0, [[0, 1], [0]]⟩
def fs10 : List (Nat → Bool) := [inl [(100, 200)], inl [(100, 200)]]
theorem wrong10 : wrongS sv10 2 = 0 := by decide
theorem two_list {l : List Int} (h : l.length = 2) : ∃ a b, l = [a, b] := by
  match l, h with
  | [a, b], _ => exact ⟨a, b, rfl⟩
theorem find10 : findP sv10 [fs10] = ⟨0, 0, 110, [1, 0]⟩ := by
  have hS := wrong_ok wrong10
  have hall : ∀ r, (r = 0 ∨ r = 1) → (fs10.getD (Int.toNat r) fun _ => false) = inl [(100, 200)] := fun r hr => by
    rcases hr with rfl | rfl <;> rfl
  have hin : ∀ i : Nat, inl [((100 : Int), (200 : Int))] i = true ↔ 100 ≤ i ∧ i < 200 := fun i => by
    simp [inl]
    omega
  have hf : Fit sv10 fs10 110 [1, 0] := by
    refine ⟨rfl, fun i r p h1 h2 => ?_, by decide, fun r hr => ?_⟩
    · match i, h1, h2 with
      | 0, h1, h2 => cases Option.some.inj h1; cases Option.some.inj h2; decide
      | 1, h1, h2 => cases Option.some.inj h1; cases Option.some.inj h2; decide
      | i + 2, h1, h2 => simp at h1
    · rw [okP_iff, hall r (by simp at hr; omega)]
      refine ⟨by decide, by decide, by decide, fun i h1 h2 => (hin i).2 ?_⟩
      have e1 : (110 : Int) - sv10.bef = 100 := rfl
      have e2 : (110 : Int) - sv10.bef + whole sv10 = 140 := rfl
      rw [e1] at h1
      rw [e2] at h2
      omega
  cases hp : firstP sv10.len sv10.bef sv10.aft sv10.roles fs10 with
  | none => exact absurd hf (first_none hS hp 110 [1, 0])
  | some x =>
    obtain ⟨m, who⟩ := x
    obtain ⟨h1, h2⟩ := first_some hS hp
    have hl : who.length = 2 := h1.len
    obtain ⟨p, q, rfl⟩ := two_list hl
    have hpm : p = 0 ∨ p = 1 := by
      have := h1.mem 0 p [0, 1] rfl rfl
      simpa using this
    have hqm : q = 0 := by
      have := h1.mem 1 q [0] rfl rfl
      simpa using this
    have hne : p ≠ q := fun e => by
      have := h1.nd
      rw [e] at this
      simp at this
    have hp1 : p = 1 := by omega
    subst hp1 hqm
    have hok := (okP_iff _ _ _ _).1 (h1.ok 0 (by simp))
    rw [hall 0 (.inl rfl)] at hok
    have e1 : m - sv10.bef = m - 10 := rfl
    have e2 : m - sv10.bef + whole sv10 = m - 10 + 40 := rfl
    rw [e2, e1] at hok
    obtain ⟨k1, k2, k3, k4⟩ := hok
    obtain ⟨k, hk⟩ : ∃ k : Nat, m - 10 = (k : Int) := ⟨(m - 10).toNat, by omega⟩
    have hk2 := (hin k).1 (k4 k (by omega) (by omega))
    have hm : m = 110 := by
      rcases h2 110 [1, 0] hf with h | ⟨h, _⟩ <;> omega
    subst hm
    unfold findP
    rw [if_neg (by decide)]
    have hd : daysE sv10 [fs10] = 0 := by
      show (if wrongS sv10 ((fs10.length : Nat) : Int) ≠ 0 then wrongS sv10 ((fs10.length : Nat) : Int) else 0) = 0
      rw [show ((fs10.length : Nat) : Int) = 2 from rfl, wrong10]
      rfl
    rw [if_neg (by rw [hd]; decide)]
    have hdf : daysF sv10 [fs10] 0 = some (0, 110, [1, 0]) := by
      rw [daysF, hp]
    rw [hdf]
    rfl
theorem masksT : Tryd.prog.underlying 42 = some (.slice 41) := by kernel_rfl
theorem maskInf : (Tryd.prog.info? 41).map (fun i => (i.zero, i.size, i.bytes)) = some (some (.agg #[.int .u64 0, .int .u64 0, .int .u64 0, .int .u64 0, .int .u64 0, .int .u64 0, .int .u64 0, .int .u64 0, .int .u64 0, .int .u64 0, .int .u64 0, .int .u64 0, .int .u64 0, .int .u64 0, .int .u64 0, .int .u64 0, .int .u64 0, .int .u64 0, .int .u64 0, .int .u64 0, .int .u64 0, .int .u64 0, .int .u64 0]), 23, 184) := by kernel_rfl
/-- A row of two masks is made. -/
theorem wpList_bslice_two {ops : Array Oper} {rest : List Oper} {op : Oper} {a : Act} {w : World} {Q : Exit → Act → World → Prop} (hg : op.guard = none) (x y : Operand) (ho : op.op = .buildSlice 42 2 #[(0, x), (1, y)]) (f g : Nat → Bool) (hx : a.eval x = .agg (mv f)) (hy : a.eval y = .agg (mv g))
    (h : wpList Tryd.prog ops Q rest (a.put op.dst (.slice (some ⟨w.heap.size, 0, none⟩) 2 2)) (w.alloc (.cells (mv f ++ mv g) 41))) : wpList Tryd.prog ops Q (op :: rest) a w := by
  obtain ⟨i, hi, hz, hs, _⟩ := info_of maskInf
  refine wpList_buildSlice hg 42 41 2 _ ho (mv f ++ mv g) i _ masksT hi hz (by rw [hs]; decide) (by rw [hs]; decide) ?_ h
  rw [hs]
  have h1 := Great.fill_whole (s := 23) (by decide) [Value.agg (mv f), Value.agg (mv g)] ((Array.range (2 * 23)).map ((Value.agg #[.int .u64 0, .int .u64 0, .int .u64 0, .int .u64 0, .int .u64 0, .int .u64 0, .int .u64 0, .int .u64 0, .int .u64 0, .int .u64 0, .int .u64 0, .int .u64 0, .int .u64 0, .int .u64 0, .int .u64 0, .int .u64 0, .int .u64 0, .int .u64 0, .int .u64 0, .int .u64 0, .int .u64 0, .int .u64 0, .int .u64 0]).cells[· % (Value.agg #[.int .u64 0, .int .u64 0, .int .u64 0, .int .u64 0, .int .u64 0, .int .u64 0, .int .u64 0, .int .u64 0, .int .u64 0, .int .u64 0, .int .u64 0, .int .u64 0, .int .u64 0, .int .u64 0, .int .u64 0, .int .u64 0, .int .u64 0, .int .u64 0, .int .u64 0, .int .u64 0, .int .u64 0, .int .u64 0, .int .u64 0]).cells.size]!)) (fun v hv => by
    rcases List.mem_cons.1 hv with rfl | hv
    · exact mv_size f
    · rw [List.mem_singleton.1 hv]
      exact mv_size g) (by simp)
  have e : (List.flatMap (fun v : Value => v.cells.toList) [Value.agg (mv f), Value.agg (mv g)]).toArray = mv f ++ mv g := by
    apply Array.toList_inj.1
    simp [Value.cells]
  rw [e] at h1
  have e2 : (Array.map (fun x : Nat × Operand => (x.1, a.eval x.2)) #[(0, x), (1, y)]).toList = ([Value.agg (mv f), Value.agg (mv g)].zipIdx 0).map fun x => (x.2, x.1) := by simp [hx, hy]
  rw [← h1, ← e2]
theorem rowI_block {w : World} {g : Nat} {l : List Int} (h : w.heap[g]? = some (.cells (intsV l).toArray 3 (0, 0))) (hl : l.length < 9223372036854775808) : RowI w (.slice (some ⟨g, 0, none⟩) l.length l.length) l :=
  ⟨_, _, rfl, hl, fun j n hj => ⟨g, 0, rfl, (cell_of_row _ _ _ _ _ _ h).trans (by simp [intsV, hj])⟩⟩
set_option maxRecDepth 100000 in
set_option maxHeartbeats 1000000 in
theorem alive10_any (w : World) (hT : Tab w) : Calls Tryd.prog 13 #[] w fun e w' => e = .returned (.bool true) ∧ Below w.heap.size w w' := by
  have hz := mv_lit
  have bA := (Below.refl w.heap.size w).alloc (Nat.le_refl _) (.cells #[.int .i64 100, .int .i64 200] 57)
  have nA := heap_alloc_new w (.cells #[.int .i64 100, .int .i64 200] 57)
  generalize hwA : w.alloc (.cells #[.int .i64 100, .int .i64 200] 57) = wA at *
  have c1 := of_any (.slice (some ⟨w.heap.size, 0, none⟩) 1 1) [(100, 200)] wA (.inr ⟨w.heap.size, 0, 1, rfl, by simp, fun j hj => by
    have : j = 0 := by simpa using hj
    subst this
    exact ⟨(cell_of_row _ _ 0 _ _ _ nA).trans rfl, (cell_of_row _ _ 1 _ _ _ nA).trans rfl⟩⟩)
  go_enter Tryd.func13, Tryd.ntmps13
  go_wp2_with fail
  refine c1.mono ?_
  rintro e w1 ⟨rfl, b1⟩
  have bb1 := bA.trans (b1.mono bA.size)
  clear c1 nA hwA bA b1
  have bB := (Below.refl w1.heap.size w1).alloc (Nat.le_refl _) (.cells (mv fun _ => false) 41)
  have nB := heap_alloc_new w1 (.cells (mv fun _ => false) 41)
  generalize hwB : w1.alloc (.cells (mv fun _ => false) 41) = wB at *
  have nC := setRow_heap _ _ _ (mv (inl [(100, 200)])) _ _ nB
  have bC := below_setRow bB (Nat.le_refl _) (mv (inl [(100, 200)]))
  generalize hwC : wB.setRow w1.heap.size (mv (inl [(100, 200)])) = wC at *
  have bb2 := bb1.trans (bC.mono bb1.size)
  have bD : Below wC.heap.size wC (((wC.alloc (.cells #[.int .i64 0, .int .i64 1] 3)).alloc (.cells #[.int .i64 0] 3)).alloc (.cells #[.slice (some ⟨wC.heap.size, 0, none⟩) 2 2, .slice (some ⟨wC.heap.size + 1, 0, none⟩) 1 1] 26)) := (((Below.refl _ _).alloc (Nat.le_refl _) _).alloc (by simp) _).alloc (by simp; omega) _
  have nD1 : (((wC.alloc (.cells #[.int .i64 0, .int .i64 1] 3)).alloc (.cells #[.int .i64 0] 3)).alloc (.cells #[.slice (some ⟨wC.heap.size, 0, none⟩) 2 2, .slice (some ⟨wC.heap.size + 1, 0, none⟩) 1 1] 26)).heap[wC.heap.size]? = some (.cells #[.int .i64 0, .int .i64 1] 3 (0, 0)) := by (repeat (first | refine blk_old _ _ _ (by simp only [size_alloc]; omega) ?_ | exact blk_new _ _ _ (by first | rfl | simp only [size_alloc])))
  have nD2 : (((wC.alloc (.cells #[.int .i64 0, .int .i64 1] 3)).alloc (.cells #[.int .i64 0] 3)).alloc (.cells #[.slice (some ⟨wC.heap.size, 0, none⟩) 2 2, .slice (some ⟨wC.heap.size + 1, 0, none⟩) 1 1] 26)).heap[wC.heap.size + 1]? = some (.cells #[.int .i64 0] 3 (0, 0)) := by (repeat (first | refine blk_old _ _ _ (by simp only [size_alloc]; omega) ?_ | exact blk_new _ _ _ (by first | rfl | simp only [size_alloc])))
  have nD3 : (((wC.alloc (.cells #[.int .i64 0, .int .i64 1] 3)).alloc (.cells #[.int .i64 0] 3)).alloc (.cells #[.slice (some ⟨wC.heap.size, 0, none⟩) 2 2, .slice (some ⟨wC.heap.size + 1, 0, none⟩) 1 1] 26)).heap[wC.heap.size + 2]? = some (.cells #[.slice (some ⟨wC.heap.size, 0, none⟩) 2 2, .slice (some ⟨wC.heap.size + 1, 0, none⟩) 1 1] 26 (0, 0)) := by (repeat (first | refine blk_old _ _ _ (by simp only [size_alloc]; omega) ?_ | exact blk_new _ _ _ (by first | rfl | simp only [size_alloc])))
  generalize hwD : ((wC.alloc (.cells #[.int .i64 0, .int .i64 1] 3)).alloc (.cells #[.int .i64 0] 3)).alloc (.cells #[.slice (some ⟨wC.heap.size, 0, none⟩) 2 2, .slice (some ⟨wC.heap.size + 1, 0, none⟩) 1 1] 26) = wD at *
  have nM := (bD.block _ (lt_of_block nC)).trans nC
  have bE : Below wD.heap.size wD ((wD.alloc (.cells (mv (inl [(100, 200)]) ++ mv (inl [(100, 200)])) 41)).alloc (.cells #[.slice (some ⟨wD.heap.size, 0, none⟩) 2 2] 42)) := ((Below.refl _ _).alloc (Nat.le_refl _) _).alloc (by simp) _
  have nE1 : ((wD.alloc (.cells (mv (inl [(100, 200)]) ++ mv (inl [(100, 200)])) 41)).alloc (.cells #[.slice (some ⟨wD.heap.size, 0, none⟩) 2 2] 42)).heap[wD.heap.size]? = some (.cells (mv (inl [(100, 200)]) ++ mv (inl [(100, 200)])) 41 (0, 0)) := by (repeat (first | refine blk_old _ _ _ (by simp only [size_alloc]; omega) ?_ | exact blk_new _ _ _ (by first | rfl | simp only [size_alloc])))
  have nE2 : ((wD.alloc (.cells (mv (inl [(100, 200)]) ++ mv (inl [(100, 200)])) 41)).alloc (.cells #[.slice (some ⟨wD.heap.size, 0, none⟩) 2 2] 42)).heap[wD.heap.size + 1]? = some (.cells #[.slice (some ⟨wD.heap.size, 0, none⟩) 2 2] 42 (0, 0)) := by (repeat (first | refine blk_old _ _ _ (by simp only [size_alloc]; omega) ?_ | exact blk_new _ _ _ (by first | rfl | simp only [size_alloc])))
  generalize hwE : (wD.alloc (.cells (mv (inl [(100, 200)]) ++ mv (inl [(100, 200)])) 41)).alloc (.cells #[.slice (some ⟨wD.heap.size, 0, none⟩) 2 2] 42) = wE at *
  have mD1 := (bE.block _ (lt_of_block nD1)).trans nD1
  have mD2 := (bE.block _ (lt_of_block nD2)).trans nD2
  have mD3 := (bE.block _ (lt_of_block nD3)).trans nD3
  have hRI : RowRI wE (.slice (some ⟨wC.heap.size + 2, 0, none⟩) 2 2) sv10.roles := by
    refine ⟨_, 2, rfl, by decide, fun j l hj => ?_⟩
    match j, hj with
    | 0, hj => cases Option.some.inj hj; exact ⟨_, 0, _, rfl, (cell_of_row _ _ 0 _ _ _ mD3).trans rfl, rowI_block (l := [0, 1]) mD1 (by decide)⟩
    | 1, hj => cases Option.some.inj hj; exact ⟨_, 0, _, rfl, (cell_of_row _ _ 1 _ _ _ mD3).trans rfl, rowI_block (l := [0]) mD2 (by decide)⟩
    | j + 2, hj => simp [sv10] at hj
  have hDs : RowDs wE (.slice (some ⟨wD.heap.size + 1, 0, none⟩) 1 1) [fs10] := by
    refine ⟨_, 1, rfl, by decide, fun j l hj => ?_⟩
    match j, hj with
    | 0, hj =>
      cases Option.some.inj hj
      refine ⟨_, 0, _, rfl, (cell_of_row _ _ 0 _ _ _ nE2).trans rfl, _, 2, rfl, by decide, fun i f hi => ⟨_, 0, rfl, fun q v hq => ?_⟩⟩
      have hq' := (List.getElem?_eq_some_iff.1 hq).1
      rw [mvk_len] at hq'
      refine (cell_of_row _ _ _ _ _ _ nE1).trans ?_
      match i, hi with
      | 0, hi =>
        cases Option.some.inj hi
        rw [show 0 + 0 * 23 + q = q by omega, Array.getElem?_append_left (by rw [mv_size]; omega), ← Array.getElem?_toList]
        exact hq
      | 1, hi =>
        cases Option.some.inj hi
        rw [show 0 + 1 * 23 + q = 23 + q by omega, Array.getElem?_append_right (by rw [mv_size]; omega), mv_size, Nat.add_sub_cancel_left, ← Array.getElem?_toList]
        exact hq
      | i + 2, hi => simp [fs10] at hi
    | j + 1, hj => simp at hj
  have bb3 := bb2.trans ((bD.trans (bE.mono bD.size)).mono bb2.size)
  have c2 := find_any sv10 _ [fs10] _ wE (tab_below hT bb3) hRI hDs
  rw [find10] at c2
  unfold svV sv10 at c2
  dsimp only at c2
  have HB3 := hidr bb3
  clear hRI hDs mD1 mD2 mD3 nE1 nE2 nD1 nD2 nD3 bE bD bb2 bb1 bB bC nC bb3 hT
  go_wp2_with (first
    | (refine wpList_store_row rfl 41 _ _ rfl _ _ rfl rfl _ _ nB (maskSize _) (by simp [mv_size]) (mv_all _) ?_)
    | (refine wpList_load_row rfl 41 _ rfl _ rfl _ _ _ _ nM maskType rfl (maskSize _) ?_)
    | (refine wpList_bslice_two rfl _ _ rfl (inl [(100, 200)]) (inl [(100, 200)]) rfl rfl ?_))
  refine c2.mono ?_
  rintro e w2 ⟨v, rfl, ho, b2⟩
  obtain ⟨q, c, hv, _, hc⟩ := rowI_of_owns ho (by decide)
  obtain ⟨g, o, hp, c0⟩ := hc 0 1 rfl
  obtain ⟨g', o', hp', c1⟩ := hc 1 0 rfl
  subst hp
  cases hp'
  subst hv
  rw [Nat.add_zero] at c0
  have HB4 := hidr (HB3.out.trans (b2.mono HB3.out.size))
  have bF := (Below.refl w2.heap.size w2).alloc (Nat.le_refl _) (.cells #[.int .i64 0, .int .i64 110, .slice (some ⟨g, o, none⟩) 2 c] 28)
  have nF := heap_alloc_new w2 (.cells #[.int .i64 0, .int .i64 110, .slice (some ⟨g, o, none⟩) 2 c] 28)
  have d0 := (bF.cell (block_lt_of_cell c0)).trans c0
  have d1 := (bF.cell (block_lt_of_cell c1)).trans c1
  have HB5 := hidr (HB4.out.trans (bF.mono HB4.out.size))
  generalize hwF : w2.alloc (.cells #[.int .i64 0, .int .i64 110, .slice (some ⟨g, o, none⟩) 2 c] 28) = wF at *
  have y0 := (cell_of_row _ _ 0 _ _ _ nF).trans rfl
  have y1 := (cell_of_row _ _ 1 _ _ _ nF).trans rfl
  have y2 := (cell_of_row _ _ 2 _ _ _ nF).trans rfl
  clear ho hc c0 c1 bF nF b2 c2
  go_wp2_with fail
  go_ret
  exact ⟨rfl, HB5.out⟩
end Go.Proofs.YtlhjgajhcabhoaaDoor

/- An object is put into the heap. -/
namespace Go.Proofs.YtlhjgajhcabhoaaDoor
open Go.RowKit

def putB5 (w : World) (b : Nat) (o : Obj) : World := { w with heap := w.heap.setIfInBounds b o }
theorem putB5_below {r n : Nat} {w0 w : World} (h : Below n w0 w) (hr : n ≤ r) (o : Obj) : Below n w0 (putB5 w r o) :=
  ⟨h.os, h.tape, h.output, by simpa [putB5] using h.size, fun k hk => by
    rw [← h.block k hk]
    show (w.heap.setIfInBounds r o)[k]? = _
    rw [Array.getElem?_setIfInBounds_ne (by omega)]⟩
end Go.Proofs.YtlhjgajhcabhoaaDoor

/- Numbers, each once. -/
namespace Lx

/-- One number more, if it is not there yet. -/
def addN (acc : List Int) (n : Int) : List Int := if n ∈ acc then acc else acc ++ [n]
theorem addN_mem (acc : List Int) (n m : Int) : m ∈ addN acc n ↔ m ∈ acc ∨ m = n := by
  unfold addN
  split
  · rename_i h
    constructor
    · exact .inl
    · rintro (h1 | rfl)
      · exact h1
      · exact h
  · simp
end Lx

/- A map from numbers to marks, of which each that is there is set. -/
namespace Go.Proofs.YtlhjgajhcabhoaaDoor
open Go.RowKit Lx

theorem mapT7 : Tryd.prog.underlying 59 = some (.map 3 4) := by kernel_rfl
theorem intT7 : Tryd.prog.underlying 3 = some (.int .i64) := by kernel_rfl
def kvB (e : MapEntry) : Value × Value := (e.key, e.val)
def kvsB (S : List Int) : List (Value × Value) := S.map fun n => (.int .i64 n, .bool true)
/-- The numbers that are set. -/
def MapB (w : World) (b : Nat) (S : List Int) : Prop := ∃ es c, w.heap[b]? = some (.map es c) ∧ es.toList.map kvB = kvsB S
theorem MapB.later {w w' : World} {b : Nat} {S : List Int} (h : MapB w b S) (hk : w'.heap[b]? = w.heap[b]?) : MapB w' b S := by
  obtain ⟨es, c, h1, h2⟩ := h
  exact ⟨es, c, hk.trans h1, h2⟩
theorem lt_of_mapB {w : World} {b : Nat} {S : List Int} (h : MapB w b S) : b < w.heap.size := by
  obtain ⟨es, c, h1, _⟩ := h
  exact (Array.getElem?_eq_some_iff.1 h1).1
theorem findB (k : Int) : ∀ (es : List MapEntry) (S : List Int) (i : Nat), es.map kvB = kvsB S → (k ∈ S ∧ ∃ j, Instr.findNow (.int .i64) (.int .i64 k) es i = some (some (i + j, .bool true)) ∧ (es[j]?).map kvB = some (.int .i64 k, .bool true)) ∨ (k ∉ S ∧ Instr.findNow (.int .i64) (.int .i64 k) es i = some none)
  | [], [], i, _ => .inr ⟨by simp, rfl⟩
  | [], _ :: _, i, h => by simp [kvsB] at h
  | _ :: _, [], i, h => by simp [kvsB] at h
  | e :: es, n :: S, i, h => by
    simp only [kvsB, List.map_cons, List.cons.injEq] at h
    obtain ⟨h1, h2⟩ := h
    have hk : e.key = .int .i64 n := congrArg Prod.fst h1
    have hv : e.val = .bool true := congrArg Prod.snd h1
    have hs : Instr.sameNow (.int .i64) (.int .i64 k) e.key = some (k == n) := by rw [hk]; simp [Instr.sameNow]
    simp only [Instr.findNow, hs]
    by_cases e1 : k = n
    · subst e1
      left
      refine ⟨List.mem_cons_self, 0, ?_, ?_⟩
      · simp [hv]
      · simp only [List.getElem?_cons_zero, Option.map_some, h1]
    · have e2 : (k == n) = false := by simpa using e1
      rw [e2]
      rcases findB k es S (i + 1) h2 with ⟨m, j, f, g⟩ | ⟨m, f⟩
      · left
        exact ⟨List.mem_cons_of_mem _ m, j + 1, by rw [show i + (j + 1) = i + 1 + j by omega]; exact f, by simpa using g⟩
      · right
        exact ⟨by simp [e1, m], f⟩
/-- What is looked up. -/
theorem lookB {w : World} {b : Nat} {S : List Int} (h : MapB w b S) (k : Int) : (Instr.lookup 59 (.map (some b)) (.int .i64 k) false).run Tryd.prog w = .ok (.bool (decide (k ∈ S))) w := by
  obtain ⟨es, c, hb, hE⟩ := h
  have hc : ∀ z, (Instr.checkKey z 10000 3 (.int .i64 k)).run Tryd.prog w = .ok () w := fun z => MapKept.run_checkKey (k := .int .i64 k) intT7 (by simp [MapKept.IsKey]) z 9999
  have hz : (zeroValue 4).run Tryd.prog w = .ok (.bool false) w := by kernel_rfl
  rcases findB k es.toList S 0 hE with ⟨h1, j, h2, _⟩ | ⟨h1, h2⟩
  · simp [Instr.lookup, run_underlying mapT7, MapKept.run_getObj_map hb, hc, MapKept.run_findKey intT7 h2, Result.andThen, h1]
  · simp [Instr.lookup, run_underlying mapT7, MapKept.run_getObj_map hb, hc, MapKept.run_findKey intT7 h2, hz, Result.andThen, h1]
/-- A number is set. -/
theorem insB {w : World} {b : Nat} {S : List Int} (h : MapB w b S) (k : Int) : ∃ o, (Instr.mapUpdate 59 (.map (some b)) (.int .i64 k) (.bool true)).run Tryd.prog w = .ok () (putB5 w b o) ∧ MapB (putB5 w b o) b (addN S k) := by
  obtain ⟨es, c, hb, hE⟩ := h
  have hc : (Instr.checkKey false 10000 3 (.int .i64 k)).run Tryd.prog w = .ok () w := MapKept.run_checkKey (k := .int .i64 k) intT7 (by simp [MapKept.IsKey]) false 9999
  rcases findB k es.toList S 0 hE with ⟨h1, j, h2, h3⟩ | ⟨h1, h2⟩
  · have hks : (Instr.keyThatStays (.int .i64 k) (.int .i64 k)).run Tryd.prog w = .ok (.int .i64 k) w := MapKept.run_keyThatStays (d := .int .i64) (by simp [MapKept.IsKey])
    have hold : (Option.map (fun x => x.key) es[j]?).getD (.int .i64 k) = .int .i64 k := by
      rw [Array.getElem?_toList] at h3
      cases he : es[j]? with
      | none => rfl
      | some e =>
        rw [he] at h3
        simp [kvB] at h3
        simp [h3.1]
    refine ⟨.map (es.modify j fun e => { e with key := .int .i64 k, val := .bool true }) c, ?_, _, c, (MapKept.heap_set hb).1, ?_⟩
    · rw [Nat.zero_add] at h2
      simp [Instr.mapUpdate, run_underlying mapT7, MapKept.run_getObj_map hb, hc, MapKept.run_findKey intT7 h2, hold, hks, MapKept.run_setObj_map _ hb, Result.andThen, putB5]
    · have e : addN S k = S := if_pos h1
      rw [e, ← hE]
      rw [Array.getElem?_toList] at h3
      apply List.ext_getElem?
      intro q
      simp only [List.getElem?_map, Array.getElem?_toList, Array.getElem?_modify]
      by_cases eq : j = q
      · subst eq
        rw [if_pos rfl, h3, Option.map_map]
        cases he : es[j]? with
        | none => rw [he] at h3; simp at h3
        | some e => rfl
      · rw [if_neg eq]
  · refine ⟨.map (es.push ⟨.int .i64 k, .bool true, c⟩) (c + 1), ?_, _, c + 1, (MapKept.heap_set hb).1, ?_⟩
    · simp [Instr.mapUpdate, run_underlying mapT7, MapKept.run_getObj_map hb, hc, MapKept.run_findKey intT7 h2, MapKept.run_setObj_map _ hb, Result.andThen, putB5]
    · have e : addN S k = S ++ [k] := if_neg h1
      rw [e, Array.toList_push, List.map_append, hE]
      simp [kvsB, kvB]
theorem makeB (w : World) : (Instr.makeMap 59 none).run Tryd.prog w = .ok (.map (some w.heap.size)) (w.alloc (.map #[] 0)) := by
  unfold Instr.makeMap
  simp [go_sem]
end Go.Proofs.YtlhjgajhcabhoaaDoor
