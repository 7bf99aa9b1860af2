/- A region that draws its order, whose values are told by sayings, and whose operations keep what is said of the world; the last one waits for all. It speaks of no program. -/
import Derived.Test.YtlhjgajhcabhoaaDoorMn04
import Derived.Test.YtlhjgajhcabhoaaDoorMn01
import Derived.Test.YtlhjgajhcabhoaaDoorMn05
namespace Go.Proofs.YtlhjgajhcabhoaaDoor
open Go Go.RowKit
section
variable {P : Program} {ops : Array Oper} {Q : Exit → Act → World → Prop} {id : Nat} {a0 : Act} {w : World}
/-- What an operation of the region comes to, in whatever world of which that is said. -/
def StepP (P : Program) (ops : Array Oper) (Q : Exit → Act → World → Prop) (sl : List Nat) (a0 : Act) (J : World → Prop) (sp : Nat → Value → World → Prop) : Prop :=
  ∀ (i s : Nat) (o : Oper) (L : Nat → Bool) (A : Act) (W : World), ops[i]? = some o → sl[i]? = some s → (∀ e ∈ o.after, Region.binds .any e = true → L e.on = true) → J W →
    (∀ s, notDst ops s = true → A.tmps.getD s undef = a0.tmps.getD s undef) → (∀ (j s : Nat), sl[j]? = some s → L j = true → sp j (A.tmps.getD s undef) W) → wpOp P ops Q i (fun a' W' => ∃ v, a' = A.put (some s) v ∧ sp i v W' ∧ J W' ∧ Below W.heap.size W W') A W
theorem wp_region_lastP (J : World → Prop) (sp : Nat → Value → World → Prop) (hJ0 : J w.drew) (hmono : ∀ W W', Below W.heap.size W W' → ∀ j u, sp j u W → sp j u W') (hm : P.follows .mixedOrders = true) (hback : backB ops = true) (hdst : dstB ops = true) (hin : inB ops a0.tmps.size = true) (n : Nat) (hn : ops.size = n + 1) (huse : useB ops = true) (sl : List Nat)
    (hds : (ops.toList.take n).map (fun o => o.dst) = sl.map some) (hnd : decide (((ops.toList.take n).map (fun o => o.dst)).Nodup) = true)
    (hstep : StepP P ops Q sl a0 J sp) (hlast : ∀ (o : Oper) (W : World) (A : Act), ops[n]? = some o → J W → (∀ (j s : Nat), sl[j]? = some s → sp j (A.tmps.getD s undef) W) → (∀ s, notDst ops s = true → A.tmps.getD s undef = a0.tmps.getD s undef) →
      (∀ ds : List (Nat × Value), ds.map (fun p => p.1) = sl → (∀ (j s : Nat) (v : Value), ds[j]? = some (s, v) → A.tmps.getD s undef = v) → A = putAll ds a0) →
      wpOp P ops Q n (fun a' W' => (∃ v, a' = A.put o.dst v) ∧ Q .normal a' W') A W) : (Code.region id ops true).wp P Q a0 w := by
  have hnd' : (sl.map some).Nodup := by rw [← hds]; exact of_decide_eq_true hnd
  have hl : sl.length = n := by
    have h := congrArg List.length hds
    simp only [List.length_map, List.length_take, Array.length_toList] at h
    omega
  have atD : ∀ {j : Nat} {p : Oper}, j < n → ops[j]? = some p → ∃ s, sl[j]? = some s ∧ p.dst = some s := fun {j p} hj hp => by
    have h1 : ((ops.toList.take n).map (fun o => o.dst))[j]? = some p.dst := by
      rw [List.getElem?_map, List.getElem?_take_of_lt hj, Array.getElem?_toList, hp]
      rfl
    rw [hds, List.getElem?_map] at h1
    cases hs : sl[j]? with
    | none => rw [hs] at h1; cases h1
    | some s =>
      rw [hs] at h1
      exact ⟨s, rfl, (Option.some.inj h1).symm⟩
  have slNe : ∀ {j k s t : Nat}, sl[j]? = some s → sl[k]? = some t → j ≠ k → s ≠ t := fun {j k s t} hj hk hne e => by
    subst e
    have hj' := (List.getElem?_eq_some_iff.1 hj).1
    have hk' := (List.getElem?_eq_some_iff.1 hk).1
    have h1 : (sl.map some)[j]? = (sl.map some)[k]? := by rw [List.getElem?_map, List.getElem?_map, hj, hk]
    exact hne ((List.getElem?_inj (by simpa using hj') hnd').1 h1)
  refine wp_region_flow hm hback hdst hin (fun L A W => (∀ (j : Nat) (p : Oper), ops[j]? = some p → L j = true → ∀ e ∈ p.after, Region.binds .any e = true → L e.on = true) ∧ (L n = false → J W ∧ A.tmps.size = a0.tmps.size ∧ ∀ (j s : Nat), sl[j]? = some s → L j = true → sp j (A.tmps.getD s undef) W) ∧ (L n = true → Q .normal A W)) (fun _ _ _ => True) ?_ ?_ ?_
  · intro L h
    refine ⟨fun j p hp hj => ?_, fun _ => ⟨hJ0, rfl, fun j s hj hL => ?_⟩, fun h' => ?_⟩
    · have := h j (Array.getElem?_eq_some_iff.1 hp).1
      rw [this] at hj; cases hj
    · have := h j (by have := (List.getElem?_eq_some_iff.1 hj).1; omega)
      rw [this] at hL; cases hL
    · rw [h n (by omega)] at h'; cases h'
  · intro i o L A W ho hLi hdep hJ hdef hkept hhas
    clear hhas
    obtain ⟨hc, hbel, hdone⟩ := hJ
    have hi : i < ops.size := (Array.getElem?_eq_some_iff.1 ho).1
    have hLn : L n = false := by
      cases h : L n with
      | false => rfl
      | true =>
        have := use_all huse hn hc h n i (by omega) (by omega)
        rw [this] at hLi; cases hLi
    obtain ⟨hbw, hsz, hread⟩ := hbel hLn
    have hc' : ∀ (j : Nat) (p : Oper), ops[j]? = some p → (decide (i = j) || L j) = true → ∀ e ∈ p.after, Region.binds .any e = true → (decide (i = e.on) || L e.on) = true := by
      intro j p hp hj e he hb
      by_cases hij : i = j
      · subst hij
        rw [ho] at hp
        cases hp
        rw [hdep e he hb]; simp
      · rw [hc j p hp (by simpa [hij] using hj) e he hb]; simp
    by_cases hin' : i = n
    · subst hin'
      have hall : ∀ j, j < i → L j = true := fun j hj => by
        have := use_all huse hn hc' (L := fun k => decide (i = k) || L k) (by simp) i j (by omega) (by omega)
        simpa [show i ≠ j by omega] using this
      refine wpOp_mono ?_ (hlast o W A ho hbw (fun j s hj => hread j s hj (hall j (by have := (List.getElem?_eq_some_iff.1 hj).1; omega))) (fun s h => hkept s fun j p hp _ => nd h j p hp) fun ds hd hv => ?_)
      · rintro a' W' ⟨⟨v, hv⟩, hq⟩
        exact ⟨v, hv, fun _ => trivial, fun _ _ _ _ => trivial, hc', fun h => by simp at h, fun _ => hq⟩
      · refine act_is ds hdef hsz (by rw [show ds.map (fun p => some p.1) = (ds.map (fun p => p.1)).map some by rw [List.map_map]; rfl, hd]; exact hnd') (fun s h => hkept s fun j p hp hj e => ?_) (fun j s v hj => hv j s v hj)
        have hjn : j < i := by
          have h1 := (Array.getElem?_eq_some_iff.1 hp).1
          have h2 : j ≠ i := fun e' => by rw [e', hLn] at hj; cases hj
          omega
        obtain ⟨s', hs', hd'⟩ := atD hjn hp
        rw [hd'] at e
        cases e
        rw [← hd, List.getElem?_map] at hs'
        cases hq : ds[j]? with
        | none => rw [hq] at hs'; cases hs'
        | some q =>
          rw [hq] at hs'
          exact h q (List.mem_of_getElem? hq) (Option.some.inj hs')
    · obtain ⟨s, hs, hd⟩ := atD (show i < n by omega) ho
      have hsl : s < A.tmps.size := by
        have q1 := List.all_eq_true.1 hin i (by simpa using hi)
        rw [ho] at q1
        simp only [Option.bind_some, hd] at q1
        rw [hsz]
        simpa using q1
      refine wpOp_mono ?_ (hstep i s o L A W ho hs hdep hbw (fun s' h => hkept s' fun j p hp _ => nd h j p hp) hread)
      rintro a' W' ⟨v, rfl, hv, hJ', hb⟩
      refine ⟨v, by rw [hd], fun _ => trivial, fun _ _ _ _ => trivial, hc', fun _ => ⟨hJ', by simpa [Act.put] using hsz, fun j t hj hL => ?_⟩, fun h => ?_⟩
      · by_cases hij : i = j
        · subst hij
          rw [hs] at hj
          cases hj
          rw [show (A.put (some s) v).tmps.getD s undef = v from getD_set_same _ _ _ hsl]
          exact hv
        · rw [show (A.put (some s) v).tmps.getD t undef = A.tmps.getD t undef from getD_set_other _ _ _ _ (slNe hs hj hij)]
          exact hmono _ _ hb j _ (hread j t hj (by simpa [hij] using hL))
      · simp [hin', hLn] at h
  · intro L A W hL hJ hdef hsize hkept hhas
    exact hJ.2.2 (hL n (by omega))
end
end Go.Proofs.YtlhjgajhcabhoaaDoor

/- Sayings of the values in a region: most are known beforehand, some are told. It speaks of no program. -/
namespace Go.Proofs.YtlhjgajhcabhoaaDoor
open Go Go.RowKit

/-- What is said of the i-th operation's value. -/
def spX (vals : List Value) (sps : List (Nat × (Value → World → Prop))) (i : Nat) (v : Value) (W : World) : Prop := match sps.find? (fun p => p.1 == i) with
  | some p => p.2 v W
  | none => v = vals.getD i undef
theorem spX_mono {vals : List Value} {sps : List (Nat × (Value → World → Prop))} (h : ∀ p ∈ sps, ∀ (W W' : World) (u : Value), Below W.heap.size W W' → p.2 u W → p.2 u W') (W W' : World) (hb : Below W.heap.size W W') (j : Nat) (u : Value) (hs : spX vals sps j u W) : spX vals sps j u W' := by
  unfold spX at hs ⊢
  cases hf : sps.find? (fun p => p.1 == j) with
  | none => rw [hf] at hs; exact hs
  | some p =>
    rw [hf] at hs
    exact h p (List.mem_of_find?_eq_some hf) W W' u hb hs
end Go.Proofs.YtlhjgajhcabhoaaDoor

/- The spans of any mask are as they must be. -/
namespace Msk

theorem run_begin (f : Nat → Bool) : ∀ m, f m = true → ∃ a, a ≤ m ∧ (a = 0 ∨ f (a - 1) = false) ∧ ∀ i, a ≤ i → i ≤ m → f i = true
  | 0, h => ⟨0, Nat.le_refl _, .inl rfl, fun i _ hi => by rw [show i = 0 by omega]; exact h⟩
  | m + 1, h => by
    cases hm : f m with
    | false => exact ⟨m + 1, Nat.le_refl _, .inr hm, fun i h1 h2 => by rw [show i = m + 1 by omega]; exact h⟩
    | true =>
      obtain ⟨a, h1, h2, h3⟩ := run_begin f m hm
      refine ⟨a, by omega, h2, fun i hi hi' => ?_⟩
      by_cases e : i = m + 1
      · rw [e]; exact h
      · exact h3 i hi (by omega)
theorem runs_all (f : Nat → Bool) : ∀ n, Runs f n (rs f n) ∧ ((n = 0 ∨ f (n - 1) = false) → endOf (-1) (rs f n) < n) := by
  intro n
  induction n using Nat.strongRecOn with
  | ind n ih =>
    match n, ih with
    | 0, _ => exact ⟨Runs.zero f, fun _ => by show (-1 : Int) < 0; omega⟩
    | m + 1, ih =>
      cases hm : f m with
      | false =>
        have e : rs f (m + 1) = rs f m := by rw [rs, hm]; rfl
        have h := (ih m (by omega)).1
        rw [e]
        refine ⟨h.skip (m + 1) (by omega) fun i h1 h2 => by rw [show i = m by omega]; exact hm, fun _ => ?_⟩
        have := h.last
        omega
      | true =>
        obtain ⟨a, h1, h2, h3⟩ := run_begin f m hm
        obtain ⟨r1, r2⟩ := ih a (by omega)
        have e := rs_run f a h2 (m - a) (fun i q1 q2 => h3 i q1 (by omega))
        rw [show a + (m - a + 1) = m + 1 by omega] at e
        rw [e]
        refine ⟨r1.run (r2 h2) (m + 1) (by omega) (fun i q1 q2 => h3 i q1 (by omega)), fun h => ?_⟩
        rcases h with h | h
        · omega
        · rw [show m + 1 - 1 = m by omega, hm] at h
          cases h
theorem runs_of (f : Nat → Bool) (n : Nat) : Runs f n (rs f n) := (runs_all f n).1
end Msk

/- What match.firstOf comes to. Written by genmaf.py. -/
namespace Go.Proofs.YtlhjgajhcabhoaaDoor
open Go.RowKit Msk Mx

theorem wp_assignT {op : Oper} {a : Act} {w : World} {K : Act → World → Prop} {Q : Exit → Act → World → Prop} (x : Operand) (ho : op.op = .assign x) (h : K (a.put op.dst (a.eval x)) w) : op.wp Tryd.prog a w K Q := by
  unfold Oper.wp execOp
  simp only [ho, Sem.run_pure]
  exact h
theorem findSome_some {α β : Type} {f : α → Option β} : ∀ {l : List α} {y : β}, l.findSome? f = some y → ∃ x ∈ l, f x = some y
  | [], y, h => by simp at h
  | x :: l, y, h => by
    rw [List.findSome?_cons] at h
    cases hx : f x with
    | some z =>
      rw [hx] at h
      exact ⟨x, List.mem_cons_self, by rw [hx]; exact h⟩
    | none =>
      rw [hx] at h
      obtain ⟨q, hq, e⟩ := findSome_some h
      exact ⟨q, List.mem_cons_of_mem _ hq, e⟩
theorem pick_len {pools : List (List Int)} : ∀ {k : Nat} {t who : List Int}, pickP pools k t = some who → who.length = t.length + k
  | 0, t, who, h => by cases Option.some.inj h; rfl
  | k + 1, t, who, h => by
    rw [pickP] at h
    obtain ⟨r, _, hr⟩ := findSome_some h
    by_cases hm : r ∈ t
    · rw [if_pos hm] at hr; cases hr
    · rw [if_neg hm] at hr
      have := pick_len hr
      simp at this
      omega
/-- What is tried at a place; the first place at which all roles can be filled. -/
def atP8 (l b a : Int) (roles : List (List Int)) (fs : List (Nat → Bool)) (x : Int) : Option (Int × List Int) := (pickP (freeP (okP fs x (x + (b + l + a))) roles) roles.length []).map fun who => (x + b, who)
def firstP (l b a : Int) (roles : List (List Int)) (fs : List (Nat → Bool)) : Option (Int × List Int) := (placesP (b + l + a) fs roles).findSome? (atP8 l b a roles fs)
def OutF (res : Option (Int × List Int)) (w : World) (e : Ending) (w' : World) : Prop := (∃ m who v, res = some (m, who) ∧ e = .returned (.tuple #[.int .i64 m, v, .bool true]) ∧ w'.ownsRow w.heap.size 3 1 v who.length (intsV who) ∧ Below w.heap.size w w') ∨ (res = none ∧ e = .returned (.tuple #[.int .i64 0, .slice none 0 0, .bool false]) ∧ Below w.heap.size w w')
theorem mem_compact {x : Int} {zs : List Int} (h : x ∈ Go.Lib.compact zs) : x ∈ zs := by
  unfold Go.Lib.compact Go.Lib.compactUpTo at h
  rw [List.mem_map] at h
  obtain ⟨j, hj, rfl⟩ := h
  have hj' := List.mem_range.1 ((List.mem_filter.1 hj).1)
  rw [getElem!_pos _ j (by simpa using hj')]
  simp
theorem runs_rs (f : Nat → Bool) : Runs f 1440 (rs f 1440) := Msk.runs_of f 1440
theorem place_bd {W : Int} {fs : List (Nat → Bool)} {roles : List (List Int)} {x : Int} (h : x ∈ placesP W fs roles) : 0 ≤ x ∧ x < 1440 := by
  have h1 : x ∈ placesL W fs roles := (List.mem_mergeSort).1 (mem_compact h)
  unfold placesL poolL runsOf at h1
  rw [List.mem_flatMap] at h1
  obtain ⟨p, _, h2⟩ := h1
  rw [List.mem_flatMap] at h2
  obtain ⟨r, _, h3⟩ := h2
  rw [List.mem_map] at h3
  obtain ⟨s, hs, rfl⟩ := h3
  have := good_at (runs_rs _).good s (List.mem_filter.1 hs).1
  omega
set_option maxRecDepth 100000 in
set_option maxHeartbeats 1000000 in
theorem firstOf_any (l b a : Int) (roles : List (List Int)) (rv : Value) (fs : List (Nat → Bool)) (fv : Value) (w : World) (hT : Tab w) (hR : RowRI w rv roles) (hF : RowMk w fv fs) (hin : ∀ p ∈ roles, p.length ≤ 8 ∧ ∀ r ∈ p, 0 ≤ r ∧ r < (fs.length : Int)) (hrl : roles.length ≤ 4) (hme : measB l b a = true) :
    Calls Tryd.prog 16 #[.agg #[.int .i64 l, .int .i64 b, .int .i64 a, rv], fv] w (OutF (firstP l b a roles fs) w) := by
  obtain ⟨pr, cr, rfl, hlr, hallr0⟩ := id hR
  clear hallr0
  have bA := (Below.refl w.heap.size w).alloc (Nat.le_refl _) (.cells #[.int .i64 l, .int .i64 b, .int .i64 a, .slice pr roles.length cr] 24)
  have nA := heap_alloc_new w (.cells #[.int .i64 l, .int .i64 b, .int .i64 a, .slice pr roles.length cr] 24)
  generalize hwA : w.alloc (.cells #[.int .i64 l, .int .i64 b, .int .i64 a, .slice pr roles.length cr] 24) = wA at *
  have HR := hidr (hR.below bA)
  have HF := hidr (hF.below bA)
  have HB := hidr bA
  have HIN := hidr hin
  have HIN2 : Hid (∀ p ∈ roles, p.length ≤ 1000 ∧ ∀ r ∈ p, 0 ≤ r ∧ r < (fs.length : Int)) := fun p hp => ⟨by have := (hin p hp).1; omega, (hin p hp).2⟩
  have HME := hidr hme
  have hmb : 1 ≤ l ∧ l ≤ 1440 ∧ 0 ≤ b ∧ b ≤ 1440 ∧ 0 ≤ a ∧ a ≤ 1440 ∧ b + l + a ≤ 1440 := by
    unfold measB at hme
    exact of_decide_eq_true hme
  obtain ⟨m1, m2, m3, m4, m5, m6, m7⟩ := hmb
  have z0 := (cell_of_row _ _ 0 _ _ _ nA).trans rfl
  have z1 := (cell_of_row _ _ 1 _ _ _ nA).trans rfl
  have z2 := (cell_of_row _ _ 2 _ _ _ nA).trans rfl
  have z3 := (cell_of_row _ _ 3 _ _ _ nA).trans rfl
  have c0 := places_any l b a roles _ fs fv wA (tab_below hT bA) HR.out HF.out hin hrl hme
  obtain ⟨pf, cf, rfl, hlf, _⟩ := hF
  clear bA hin hR hme
  go_enter Tryd.func16, Tryd.ntmps16
  go_wp2_with fail
  refine c0.mono ?_
  rintro e w1 ⟨v1, rfl, hrow1, b1⟩
  obtain ⟨p1, q1, rfl, hl1, _⟩ := id hrow1
  have HR1 := hidr hrow1
  have HB1 := hidr b1
  clear c0 hrow1 b1 z0 z1 z2 z3
  go_wp2_with fail
  go_loopw [16] (fun t wr => ∃ j : Nat, t = .int .i64 (j : Int) ∧ j ≤ (placesP (b + l + a) fs roles).length ∧ Hid (firstP l b a roles fs = ((placesP (b + l + a) fs roles).drop j).findSome? (atP8 l b a roles fs)) ∧ Hid (Below wA.heap.size wA wr) ∧ Hid (RowI wr (.slice p1 (placesP (b + l + a) fs roles).length q1) (placesP (b + l + a) fs roles))) (fun t _ => (placesP (b + l + a) fs roles).length - (intOf t).toNat)
  case atStart => exact ⟨0, rfl, by omega, rfl, HB1, HR1⟩
  case round =>
    obtain ⟨j, rfl, hj, hX, HBr, HRA0⟩ := hrel
    have hj0 : (0 : Int) ≤ (j : Int) := by omega
    by_cases hlt : j < (placesP (b + l + a) fs roles).length
    · have hlt' : (j : Int) < ((placesP (b + l + a) fs roles).length : Int) := by omega
      obtain ⟨x, hjx⟩ : ∃ r, (placesP (b + l + a) fs roles)[j]? = some r := ⟨_, List.getElem?_eq_getElem hlt⟩
      obtain ⟨_, _, e1, _, hall⟩ := HRA0.out
      cases e1
      obtain ⟨gx, ox, hpe, cx⟩ := hall j _ hjx
      subst hpe
      obtain ⟨hx0, hx1⟩ := place_bd (List.mem_of_getElem? hjx)
      have hS := findSome_step (f := atP8 l b a roles fs) hjx
      have HX := hidr (hX.out.trans hS)
      have HRr := hidr (HR.out.below HBr.out)
      have HFr := hidr (HF.out.below HBr.out)
      have n2 := (HBr.out.block _ (lt_of_block nA)).trans nA
      have y1 := (cell_of_row _ _ 1 _ _ _ n2).trans rfl
      have y3 := (cell_of_row _ _ 3 _ _ _ n2).trans rfl
      have hwx : IntKind.i64.wrap (x + (b + l + a)) = x + (b + l + a) := by rw [IntKind.wrap_i64]; omega
      rw [show atP8 l b a roles fs x = (pickP (freeP (okP fs x (x + (b + l + a))) roles) roles.length []).map fun who => (x + b, who) from rfl] at HX
      clear hall hS hX hjx
      go_wp2_with fail
      refine wp_region_lastP (Below wr.heap.size wr) (spX [.pointer (some ⟨w.heap.size, 3, none⟩), .slice pr roles.length cr, .slice pf fs.length cf, .int .i64 x, .int .i64 x, .agg #[.int .i64 l, .int .i64 b, .int .i64 a, .slice pr roles.length cr], .int .i64 (b + l + a), .int .i64 (x + (b + l + a)), .agg #[.int .i64 x, .int .i64 (x + (b + l + a))], undef] [(9, (fun v W => ∃ q, v = q ∧ RowRI W q (freeP (okP fs x (x + (b + l + a))) roles)))]) ((Below.refl _ _).drew) (spX_mono (fun p hp W W' u hb h => by cases List.mem_singleton.1 hp; obtain ⟨q, e, hr⟩ := h; exact ⟨q, e, hr.below hb⟩)) (by kernel_rfl) (by kernel_rfl) (by kernel_rfl) (by kernel_rfl) 10 (by kernel_rfl) (by kernel_rfl) [20, 21, 22, 23, 24, 25, 26, 27, 28, 29] (by kernel_rfl) (by kernel_rfl) ?_ ?_
      · intro i' s o' L A W2 ho hs hdep hJ hkept hhas
        match i', ho, hs with
        | 0, ho, hs =>
          cases Option.some.inj ho
          cases Option.some.inj hs
          have h2 : A.tmps[2]?.getD undef = .pointer (some ⟨w.heap.size, 0, none⟩) := (gd A 2).trans (hkept 2 (by kernel_rfl))
          refine wpOp_step rfl (fun K hK => ?_)
          go_simp
          exact hK _ _ ⟨_, rfl, rfl, hJ, Below.refl _ _⟩
        | 1, ho, hs =>
          cases Option.some.inj ho
          cases Option.some.inj hs
          have h20 : A.tmps[20]?.getD undef = .pointer (some ⟨w.heap.size, 3, none⟩) := (gd A 20).trans (hhas 0 20 rfl (hdep ⟨0, .data⟩ (by simp) rfl))
          have zz := (hJ.cell (block_lt_of_cell y3)).trans y3
          refine wpOp_step rfl (fun K hK => ?_)
          go_simp
          exact hK _ _ ⟨_, rfl, rfl, hJ, Below.refl _ _⟩
        | 2, ho, hs =>
          cases Option.some.inj ho
          cases Option.some.inj hs
          have h1 : A.tmps[1]?.getD undef = .slice pf fs.length cf := (gd A 1).trans (hkept 1 (by kernel_rfl))
          refine wpOp_step rfl (fun K hK => ?_)
          go_simp
          exact hK _ _ ⟨_, rfl, rfl, hJ, Below.refl _ _⟩
        | 3, ho, hs =>
          cases Option.some.inj ho
          cases Option.some.inj hs
          have h8 : A.tmps[8]?.getD undef = .int .i64 x := (gd A 8).trans (hkept 8 (by kernel_rfl))
          refine wpOp_step rfl (fun K hK => ?_)
          go_simp
          exact hK _ _ ⟨_, rfl, rfl, hJ, Below.refl _ _⟩
        | 4, ho, hs =>
          cases Option.some.inj ho
          cases Option.some.inj hs
          have h8 : A.tmps[8]?.getD undef = .int .i64 x := (gd A 8).trans (hkept 8 (by kernel_rfl))
          refine wpOp_step rfl (fun K hK => ?_)
          go_simp
          exact hK _ _ ⟨_, rfl, rfl, hJ, Below.refl _ _⟩
        | 5, ho, hs =>
          cases Option.some.inj ho
          cases Option.some.inj hs
          have h2 : A.eval (.tmp 2) = .pointer (some ⟨w.heap.size, 0, none⟩) := hkept 2 (by kernel_rfl)
          refine wpOp_step rfl (fun K hK => ?_)
          show Oper.wp _ _ _ _ _ _
          refine wp_load_row 24 _ rfl _ h2 _ _ _ _ ((hJ.block _ (lt_of_block n2)).trans n2) svTypeM rfl (by kernel_rfl) ?_
          exact hK _ _ ⟨_, rfl, rfl, hJ, Below.refl _ _⟩
        | 6, ho, hs =>
          cases Option.some.inj ho
          cases Option.some.inj hs
          have h25 : A.tmps[25]?.getD undef = .agg #[.int .i64 l, .int .i64 b, .int .i64 a, .slice pr roles.length cr] := (gd A 25).trans (hhas 5 25 rfl (hdep ⟨5, .data⟩ (by simp) rfl))
          refine wpOp_step rfl (fun K hK => ?_)
          go_simp
          refine (whole_any l b a _ W2 (.inl HME.out)).mono ?_
          rintro r' W' ⟨rfl, hb'⟩
          exact hK _ _ ⟨_, rfl, rfl, hJ.trans (hb'.mono hJ.size), hb'⟩
        | 7, ho, hs =>
          cases Option.some.inj ho
          cases Option.some.inj hs
          have h24 : A.tmps[24]?.getD undef = .int .i64 x := (gd A 24).trans (hhas 4 24 rfl (hdep ⟨4, .data⟩ (by simp) rfl))
          have h26 : A.tmps[26]?.getD undef = .int .i64 (b + l + a) := (gd A 26).trans (hhas 6 26 rfl (hdep ⟨6, .data⟩ (by simp) rfl))
          refine wpOp_step rfl (fun K hK => ?_)
          go_simp
          exact hK _ _ ⟨_, rfl, rfl, hJ, Below.refl _ _⟩
        | 8, ho, hs =>
          cases Option.some.inj ho
          cases Option.some.inj hs
          have h23 : A.tmps[23]?.getD undef = .int .i64 x := (gd A 23).trans (hhas 3 23 rfl (hdep ⟨3, .data⟩ (by simp) rfl))
          have h27 : A.tmps[27]?.getD undef = .int .i64 (x + (b + l + a)) := (gd A 27).trans (hhas 7 27 rfl (hdep ⟨7, .data⟩ (by simp) rfl))
          refine wpOp_step rfl (fun K hK => ?_)
          go_simp
          exact hK _ _ ⟨_, rfl, rfl, hJ, Below.refl _ _⟩
        | 9, ho, hs =>
          cases Option.some.inj ho
          cases Option.some.inj hs
          have h21 : A.tmps[21]?.getD undef = .slice pr roles.length cr := (gd A 21).trans (hhas 1 21 rfl (hdep ⟨1, .data⟩ (by simp) rfl))
          have h22 : A.tmps[22]?.getD undef = .slice pf fs.length cf := (gd A 22).trans (hhas 2 22 rfl (hdep ⟨2, .data⟩ (by simp) rfl))
          have h28 : A.tmps[28]?.getD undef = .agg #[.int .i64 x, .int .i64 (x + (b + l + a))] := (gd A 28).trans (hhas 8 28 rfl (hdep ⟨8, .data⟩ (by simp) rfl))
          refine wpOp_step rfl (fun K hK => ?_)
          go_simp
          refine (freePools_any roles _ fs _ x (x + (b + l + a)) W2 (HRr.out.below hJ) (HFr.out.below hJ) HIN2.out (by omega)).mono ?_
          rintro r' W' ⟨q, rfl, hrow, hb'⟩
          exact hK _ _ ⟨_, rfl, ⟨q, rfl, hrow⟩, hJ.trans (hb'.mono hJ.size), hb'⟩
        | kk + 10, ho, hs => simp at hs
      · intro o' W2 A ho hJ hhas hkept hput
        obtain ⟨q29, e29, hrow29⟩ := hhas 9 29 rfl
        have hA : A = putAll [(20, .pointer (some ⟨w.heap.size, 3, none⟩)), (21, .slice pr roles.length cr), (22, .slice pf fs.length cf), (23, .int .i64 x), (24, .int .i64 x), (25, .agg #[.int .i64 l, .int .i64 b, .int .i64 a, .slice pr roles.length cr]), (26, .int .i64 (b + l + a)), (27, .int .i64 (x + (b + l + a))), (28, .agg #[.int .i64 x, .int .i64 (x + (b + l + a))]), (29, q29)] _ := hput _ rfl (fun j s v hj => match j, hj with
          | 0, hj => by cases Option.some.inj hj; exact hhas 0 20 rfl
          | 1, hj => by cases Option.some.inj hj; exact hhas 1 21 rfl
          | 2, hj => by cases Option.some.inj hj; exact hhas 2 22 rfl
          | 3, hj => by cases Option.some.inj hj; exact hhas 3 23 rfl
          | 4, hj => by cases Option.some.inj hj; exact hhas 4 24 rfl
          | 5, hj => by cases Option.some.inj hj; exact hhas 5 25 rfl
          | 6, hj => by cases Option.some.inj hj; exact hhas 6 26 rfl
          | 7, hj => by cases Option.some.inj hj; exact hhas 7 27 rfl
          | 8, hj => by cases Option.some.inj hj; exact hhas 8 28 rfl
          | 9, hj => by cases Option.some.inj hj; exact e29
          | kk + 10, hj => by simp at hj)
        cases Option.some.inj ho
        refine wpOp_step rfl (fun K hK => ?_)
        show Oper.wp _ _ _ _ _ _
        refine wp_assignT _ rfl ?_
        rw [show A.eval (.tmp 29) = q29 from e29]
        refine hK _ _ ⟨⟨q29, rfl⟩, ?_⟩
        change Exit.then _ _ Exit.normal _ _
        subst hA
        simp only [putAll_cons, putAll_nil, Act.put, List.setIfInBounds_toArray, List.set_cons_succ, List.set_cons_zero]
        clear hK hput hhas hkept e29
        have HB2 := hidr (HBr.out.trans (hJ.mono HBr.out.size))
        have HRA := hidr (HRA0.out.below hJ)
        have hfl : (freeP (okP fs x (x + (b + l + a))) roles).length = roles.length := by unfold freeP; rw [List.length_map]
        have c1 := pick_any (freeP (okP fs x (x + (b + l + a))) roles) q29 W2 hrow29 (by rw [hfl]; omega) roles.length [] (.slice none 0 0) W2 (by rw [hfl]; simp) (Below.refl _ _) (World.ownsRow_nil _ _ _ _)
        have y32 := (hJ.cell (block_lt_of_cell y3)).trans y3
        have y12 := (hJ.cell (block_lt_of_cell y1)).trans y1
        clear hrow29 hJ hfl
        go_wp2_with fail
        refine c1.mono ?_
        rintro e w3 ⟨hg, ⟨who, v', hw, rfl, ho⟩ | ⟨hw, rfl, _⟩⟩
        · have HX2 : Hid (firstP l b a roles fs = some (x + b, who)) := by
            show _ = _
            rw [HX.out, hw]
            rfl
          have b3 : Below W2.heap.size W2 w3 := below_grownBy (Below.refl _ _) hg (Nat.le_refl _) (fun k hk => by cases hk)
          have HRw := hidr (owns_low ho (Nat.le_trans HB.out.size HB2.out.size))
          have y13 := (b3.cell (block_lt_of_cell y12)).trans y12
          have HB3 := hidr (HB.out.trans ((HB2.out.trans (b3.mono HB2.out.size)).mono HB.out.size))
          have hwb : IntKind.i64.wrap (x + b) = x + b := by rw [IntKind.wrap_i64]; omega
          clear c1 hg ho hw b3
          go_wp2_with fail
          go_ret3
          exact .inl ⟨x + b, who, v', HX2.out, rfl, HRw.out, HB3.out⟩
        · have HX2 : Hid (firstP l b a roles fs = ((placesP (b + l + a) fs roles).drop (j + 1)).findSome? (atP8 l b a roles fs)) := by
            show _ = _
            rw [HX.out, hw]
            rfl
          have b3 : Below W2.heap.size W2 w3 := below_grownBy (Below.refl _ _) hg (Nat.le_refl _) (fun k hk => by cases hk)
          have HB3 := hidr (HB2.out.trans (b3.mono HB2.out.size))
          have HRA3 := hidr (HRA.out.below b3)
          clear c1 hg hw b3
          go_wp2_with fail
          go_roundw
          case rel => exact ⟨j + 1, by go_num, by omega, HX2, HB3, HRA3⟩
          case measure => simp [intOf]; omega
    · have hlt' : ¬ (j : Int) < ((placesP (b + l + a) fs roles).length : Int) := by omega
      have HX : Hid (firstP l b a roles fs = none) := by
        show _ = _
        rw [hX.out, List.drop_of_length_le (by omega)]
        rfl
      have HB3 := hidr (HB.out.trans (HBr.out.mono HB.out.size))
      clear hX
      go_wp2_with fail
      go_ret3
      exact .inr ⟨HX.out, rfl, HB3.out⟩
end Go.Proofs.YtlhjgajhcabhoaaDoor

/- What match.Find comes to. -/
namespace Go.Proofs.YtlhjgajhcabhoaaDoor
open Go.RowKit Msk Mx

/-- Days in memory: of each the masks of all resources. -/
def RowDs (w : World) (v : Value) (ds : List (List (Nat → Bool))) : Prop := ∃ p c, v = .slice p ds.length c ∧ ds.length < 9223372036854775808 ∧ ∀ (j : Nat) (fs : List (Nat → Bool)), ds[j]? = some fs → ∃ (g o : Nat) (sv : Value), p = some ⟨g, o, none⟩ ∧ w.cell? ⟨g, o + j, none⟩ = some sv ∧ RowMk w sv fs
theorem RowDs.below {w w' : World} {v : Value} {ds : List (List (Nat → Bool))} (h : RowDs w v ds) (hb : Below w.heap.size w w') : RowDs w' v ds := by
  obtain ⟨p, c, h1, h2, h3⟩ := h
  refine ⟨p, c, h1, h2, fun j l hj => ?_⟩
  obtain ⟨g, o, sv, e, hc, hr⟩ := h3 j l hj
  exact ⟨g, o, sv, e, (hb.cell (block_lt_of_cell hc)).trans hc, hr.below hb⟩
def daysE (s : Sv) : List (List (Nat → Bool)) → Int
  | [] => 0
  | d :: l => if wrongS s d.length ≠ 0 then wrongS s d.length else daysE s l
def daysF (s : Sv) : List (List (Nat → Bool)) → Nat → Option (Nat × Int × List Int)
  | [], _ => none
  | d :: l, n => match firstP s.len s.bef s.aft s.roles d with
    | some x => some (n, x.1, x.2)
    | none => daysF s l (n + 1)
/-- What is told: an error, a day, a minute, who. -/
structure Sl where
  err : Int
  day : Int
  min : Int
  who : List Int
def findP (s : Sv) (ds : List (List (Nat → Bool))) : Sl := if 30 < ds.length then ⟨5, 0, 0, []⟩ else if daysE s ds ≠ 0 then ⟨daysE s ds, 0, 0, []⟩ else match daysF s ds 0 with
  | some x => ⟨0, (x.1 : Int), x.2.1, x.2.2⟩
  | none => ⟨11, 0, 0, []⟩
def OutS (r : Sl) (w : World) (e : Ending) (w' : World) : Prop := ∃ v, e = .returned (.tuple #[.agg #[.int .i64 r.day, .int .i64 r.min, v], .int .i64 r.err]) ∧ w'.ownsRow w.heap.size 3 1 v r.who.length (intsV r.who) ∧ Below w.heap.size w w'
theorem daysE_step {s : Sv} {l : List (List (Nat → Bool))} {j : Nat} {d : List (Nat → Bool)} (h : l[j]? = some d) : daysE s (l.drop j) = if wrongS s d.length ≠ 0 then wrongS s d.length else daysE s (l.drop (j + 1)) := by
  obtain ⟨h1, h2⟩ := List.getElem?_eq_some_iff.1 h
  rw [List.drop_eq_getElem_cons h1, h2]; rfl
theorem daysF_step {s : Sv} {l : List (List (Nat → Bool))} {j : Nat} {d : List (Nat → Bool)} (n : Nat) (h : l[j]? = some d) : daysF s (l.drop j) n = match firstP s.len s.bef s.aft s.roles d with
    | some x => some (n, x.1, x.2)
    | none => daysF s (l.drop (j + 1)) (n + 1) := by
  obtain ⟨h1, h2⟩ := List.getElem?_eq_some_iff.1 h
  rw [List.drop_eq_getElem_cons h1, h2]; rfl
theorem daysE_ok {s : Sv} : ∀ {l : List (List (Nat → Bool))}, daysE s l = 0 → ∀ d ∈ l, wrongS s d.length = 0
  | [], _, d, hd => by cases hd
  | x :: l, h, d, hd => by
    by_cases hx : wrongS s x.length = 0
    · rw [daysE, if_neg (by simpa using hx)] at h
      rcases List.mem_cons.1 hd with rfl | hd
      · exact hx
      · exact daysE_ok h d hd
    · rw [daysE, if_pos hx] at h
      exact absurd h hx
theorem poolG_ok {p : List Int} {n : Int} : ∀ (m i : Nat), poolG p n m i = 0 → ∀ j, i ≤ j → j < i + m → (0 ≤ p.getD j 0 ∧ p.getD j 0 < n) ∧ (0 < j → p.getD (j - 1) 0 < p.getD j 0)
  | 0, i, _, j, h1, h2 => by omega
  | m + 1, i, h, j, h1, h2 => by
    rw [poolG] at h
    by_cases c1 : p.getD i 0 < 0 ∨ n ≤ p.getD i 0
    · rw [if_pos c1] at h; cases h
    · rw [if_neg c1] at h
      by_cases c2 : 0 < i ∧ p.getD i 0 ≤ p.getD (i - 1) 0
      · rw [if_pos c2] at h; cases h
      · rw [if_neg c2] at h
        by_cases e : j = i
        · subst e
          exact ⟨by omega, fun h0 => by omega⟩
        · exact poolG_ok m (i + 1) h j (by omega) (by omega)
/-- A pool of which nothing is wrong. -/
structure PoolOK (p : List Int) (n : Int) : Prop where
  len1 : 1 ≤ p.length
  len8 : p.length ≤ 8
  bd : ∀ r ∈ p, 0 ≤ r ∧ r < n
  up : p.Pairwise (· < ·)
theorem pool_ok {p : List Int} {n : Int} (h : poolE p n = 0) : PoolOK p n := by
  unfold poolE at h
  by_cases hl : p.length < 1 ∨ 8 < p.length
  · rw [if_pos hl] at h; cases h
  · rw [if_neg hl] at h
    have hk := poolG_ok p.length 0 h
    refine ⟨by omega, by omega, fun r hr => ?_, ?_⟩
    · obtain ⟨j, hj, rfl⟩ := List.getElem_of_mem hr
      have := (hk j (by omega) (by omega)).1
      simpa [List.getD, List.getElem?_eq_getElem hj] using this
    · have step : ∀ d j : Nat, j + d + 1 < p.length → p.getD j 0 < p.getD (j + d + 1) 0 := by
        intro d
        induction d with
        | zero =>
          intro j hj
          have := (hk (j + 1) (by omega) (by omega)).2 (by omega)
          simpa using this
        | succ d ih =>
          intro j hj
          have h1 := ih j (by omega)
          have h2 := (hk (j + d + 1 + 1) (by omega) (by omega)).2 (by omega)
          rw [show j + d + 1 + 1 - 1 = j + d + 1 by omega] at h2
          rw [show j + (d + 1) + 1 = j + d + 1 + 1 by omega]
          omega
      rw [List.pairwise_iff_getElem]
      intro i j hi hj hij
      have := step (j - i - 1) i (by omega)
      rw [show i + (j - i - 1) + 1 = j by omega] at this
      simpa [List.getD, List.getElem?_eq_getElem hi, List.getElem?_eq_getElem hj] using this
theorem rolesG_ok {n : Int} : ∀ {l : List (List Int)}, rolesG n l = 0 → ∀ p ∈ l, PoolOK p n
  | [], _, p, hp => by cases hp
  | x :: l, h, p, hp => by
    by_cases hx : poolE x n = 0
    · rw [rolesG, if_neg (by simpa using hx)] at h
      rcases List.mem_cons.1 hp with rfl | hp
      · exact pool_ok hx
      · exact rolesG_ok h p hp
    · rw [rolesG, if_pos hx] at h
      exact absurd h hx
/-- A service of which nothing is wrong. -/
structure SvOK (s : Sv) (n : Int) : Prop where
  meas : measB s.len s.bef s.aft = true
  r1 : 1 ≤ s.roles.length
  r4 : s.roles.length ≤ 4
  pool : ∀ p ∈ s.roles, PoolOK p n
theorem wrong_ok {s : Sv} {n : Int} (h : wrongS s n = 0) : SvOK s n := by
  unfold wrongS at h
  by_cases h1 : measB s.len s.bef s.aft = false
  · rw [if_pos h1] at h; cases h
  · rw [if_neg h1] at h
    by_cases h2 : s.roles.length < 1 ∨ 4 < s.roles.length
    · rw [if_pos h2] at h; cases h
    · rw [if_neg h2] at h
      exact ⟨by simpa using h1, by omega, by omega, rolesG_ok h⟩
theorem owns_set {w : World} {B : Nat} {e : TypeId} {n : Nat} {v : Value} {xs : List Value} {size : Nat} (h : w.ownsRow B e size v n xs) {g : Nat} (hg : g < B) (X : Array Value) : (w.setRow g X).ownsRow B e size v n xs :=
  h.kept (row := some g) ⟨rfl, rfl, rfl, by simp, fun k _ hk => setRow_other w g k _ (fun e => hk (by rw [e]))⟩ (by
    cases hz : v.ownBlock with
    | none => exact .inl rfl
    | some q =>
      refine .inr fun e => ?_
      cases e
      have := (h.lt g hz).1
      omega)
theorem slotType : Tryd.prog.underlying 28 = some (.struct (Tryd.prog.fieldsOf 28)) := by kernel_rfl
theorem find_post {R : Ending → World → Prop} {a : Act} {w : World} (g : Nat) (d m : Int) (v : Value) (er : Int) (hd : a.defers = []) (h4 : a.tmps.getD 4 undef = .pointer (some ⟨g, 0, none⟩)) (h5 : a.tmps.getD 5 undef = .int .i64 er)
    (hg : w.heap[g]? = some (.cells #[.int .i64 d, .int .i64 m, v] 28 (0, 0))) (hR : R (.returned (.tuple #[.agg #[.int .i64 d, .int .i64 m, v], .int .i64 er])) w) : bodyPost Tryd.prog Tryd.f8 R .ret a w := by
  refine bodyPost_ret (v := .tuple #[.agg #[.int .i64 d, .int .i64 m, v], .int .i64 er]) ?_ hd hR
  have h4' : a.tmps[4]?.getD undef = .pointer (some ⟨g, 0, none⟩) := by simpa using h4
  have h5' : a.tmps[5]?.getD undef = .int .i64 er := by simpa using h5
  have hv := run_loadVar_row (P := Tryd.prog) w g 28 28 _ _ _ hg slotType rfl (by kernel_rfl)
  simp [results, Tryd.results8, h4', h5', asAddr, hv]
set_option maxRecDepth 100000 in
set_option maxHeartbeats 1000000 in
/-- match.Find. -/
theorem find_any (s : Sv) (rv : Value) (ds : List (List (Nat → Bool))) (dv : Value) (w : World) (hT : Tab w) (hR : RowRI w rv s.roles) (hD : RowDs w dv ds) :
    Calls Tryd.prog 8 #[svV s rv, dv] w (OutS (findP s ds) w) := by
  obtain ⟨l, b, a, roles⟩ := s
  dsimp only at hR
  unfold svV
  dsimp only
  obtain ⟨pr, cr, rfl, hlr, hallr0⟩ := id hR
  clear hallr0
  have bA : Below w.heap.size w ((w.alloc (.cells #[.int .i64 l, .int .i64 b, .int .i64 a, .slice pr roles.length cr] 24)).alloc (.cells #[.int .i64 0, .int .i64 0, .slice none 0 0] 28)) := ((Below.refl _ _).alloc (Nat.le_refl _) _).alloc (by simp) _
  have nA : ((w.alloc (.cells #[.int .i64 l, .int .i64 b, .int .i64 a, .slice pr roles.length cr] 24)).alloc (.cells #[.int .i64 0, .int .i64 0, .slice none 0 0] 28)).heap[w.heap.size]? = some (.cells #[.int .i64 l, .int .i64 b, .int .i64 a, .slice pr roles.length cr] 24 (0, 0)) := by (repeat (first | refine blk_old _ _ _ (by simp only [size_alloc]; omega) ?_ | exact blk_new _ _ _ (by first | rfl | simp only [size_alloc])))
  have nS : ((w.alloc (.cells #[.int .i64 l, .int .i64 b, .int .i64 a, .slice pr roles.length cr] 24)).alloc (.cells #[.int .i64 0, .int .i64 0, .slice none 0 0] 28)).heap[w.heap.size + 1]? = some (.cells #[.int .i64 0, .int .i64 0, .slice none 0 0] 28 (0, 0)) := by (repeat (first | refine blk_old _ _ _ (by simp only [size_alloc]; omega) ?_ | exact blk_new _ _ _ (by first | rfl | simp only [size_alloc])))
  generalize hwA : (w.alloc (.cells #[.int .i64 l, .int .i64 b, .int .i64 a, .slice pr roles.length cr] 24)).alloc (.cells #[.int .i64 0, .int .i64 0, .slice none 0 0] 28) = wA at *
  have HR := hidr (hR.below bA)
  have HD := hidr (hD.below bA)
  have HT := hidr (tab_below hT bA)
  have HB := hidr bA
  obtain ⟨pd, cd, rfl, hld, _⟩ := hD
  clear bA hR hT
  have HRet : Hid (∀ (W : World) (er : Int), Below wA.heap.size wA W → W.heap[w.heap.size + 1]? = some (.cells #[.int .i64 0, .int .i64 0, .slice none 0 0] 28 (0, 0)) → findP ⟨l, b, a, roles⟩ ds = ⟨er, 0, 0, []⟩ → (W.setRow (w.heap.size + 1) #[.int .i64 0, .int .i64 0, .slice none 0 0]).heap[w.heap.size + 1]? = some (.cells #[.int .i64 0, .int .i64 0, .slice none 0 0] 28 (0, 0)) ∧ OutS (findP ⟨l, b, a, roles⟩ ds) w (.returned (.tuple #[.agg #[.int .i64 0, .int .i64 0, .slice none 0 0], .int .i64 er])) (W.setRow (w.heap.size + 1) #[.int .i64 0, .int .i64 0, .slice none 0 0])) := fun W er hW hs he => by
    rw [he]
    exact ⟨setRow_heap _ _ _ _ _ _ hs, _, rfl, World.ownsRow_nil _ _ _ _, below_setRow (HB.out.trans (hW.mono HB.out.size)) (by omega) _⟩
  by_cases h30 : 30 < (ds.length : Int)
  · have HX : Hid (findP ⟨l, b, a, roles⟩ ds = ⟨5, 0, 0, []⟩) := by
      show _ = _
      unfold findP
      rw [if_pos (by omega)]
    have HQ := hidr (HRet.out wA 5 (Below.refl _ _) nS HX.out)
    clear HRet
    go_enter Tryd.func8, Tryd.ntmps8
    go_wp2_with (first
      | (refine wpList_store_row rfl 28 _ _ rfl _ _ rfl rfl _ _ nS (by kernel_rfl) (by simp) (by simp [Value.oneCell']) ?_))
    exact find_post (w.heap.size + 1) 0 0 (.slice none 0 0) 5 rfl rfl rfl HQ.out.1 HQ.out.2
  have HE : Hid (findP ⟨l, b, a, roles⟩ ds = if daysE ⟨l, b, a, roles⟩ ds ≠ 0 then ⟨daysE ⟨l, b, a, roles⟩ ds, 0, 0, []⟩ else match daysF ⟨l, b, a, roles⟩ ds 0 with
      | some x => ⟨0, (x.1 : Int), x.2.1, x.2.2⟩
      | none => ⟨11, 0, 0, []⟩) := by
    show _ = _
    unfold findP
    rw [if_neg (by omega)]
  go_enter Tryd.func8, Tryd.ntmps8
  go_wp2_with fail
  go_loopw [20] (fun t wr => ∃ j : Nat, t = .int .i64 (j : Int) ∧ j ≤ ds.length ∧ Hid (daysE ⟨l, b, a, roles⟩ ds = daysE ⟨l, b, a, roles⟩ (ds.drop j)) ∧ Hid (Below wA.heap.size wA wr)) (fun t _ => ds.length - (intOf t).toNat)
  case atStart => exact ⟨0, rfl, by omega, rfl, Below.refl _ _⟩
  case round =>
    obtain ⟨j, rfl, hj, hX, HBr⟩ := hrel
    have hj0 : (0 : Int) ≤ (j : Int) := by omega
    by_cases hlt : j < ds.length
    · have hlt' : (j : Int) < (ds.length : Int) := by omega
      obtain ⟨fs, hjf⟩ : ∃ r, ds[j]? = some r := ⟨_, List.getElem?_eq_getElem hlt⟩
      obtain ⟨_, _, e1, _, hall⟩ := HD.out.below HBr.out
      cases e1
      obtain ⟨gd0, od0, sv, hpe, cx, hrow⟩ := hall j _ hjf
      subst hpe
      obtain ⟨pf, cf, rfl, hlf, _⟩ := hrow
      have n2 := (HBr.out.block _ (lt_of_block nA)).trans nA
      have y0 := (cell_of_row _ _ 0 _ _ _ n2).trans rfl
      have y1 := (cell_of_row _ _ 1 _ _ _ n2).trans rfl
      have y2 := (cell_of_row _ _ 2 _ _ _ n2).trans rfl
      have y3 := (cell_of_row _ _ 3 _ _ _ n2).trans rfl
      have c1 := mwrong_any ⟨l, b, a, roles⟩ _ (fs.length : Int) wr (HR.out.below HBr.out)
      unfold svV at c1
      dsimp only at c1
      have hS := daysE_step (s := ⟨l, b, a, roles⟩) hjf
      obtain ⟨er, her⟩ : ∃ q, wrongS ⟨l, b, a, roles⟩ (fs.length : Int) = q := ⟨_, rfl⟩
      rw [her] at c1 hS
      have nS0 := (HBr.out.block _ (lt_of_block nS)).trans nS
      clear hall hjf her
      by_cases hz : er = 0
      · subst hz
        rw [if_neg (by simp)] at hS
        have HX2 := hidr (hX.out.trans hS)
        clear hS hX
        go_wp2_with fail
        refine c1.mono ?_
        rintro e w2 ⟨rfl, b2⟩
        have HB2 := hidr (HBr.out.trans (b2.mono HBr.out.size))
        clear c1 b2
        go_wp2_with fail
        go_roundw
        case rel => exact ⟨j + 1, by go_num, by omega, HX2, HB2⟩
        case measure => simp [intOf]; omega
      · rw [if_pos hz] at hS
        have hz' : (er == 0) = false := beq_eq_false_iff_ne.2 hz
        have HX2 := hidr (hX.out.trans hS)
        clear hS hX
        go_wp2_with fail
        refine c1.mono ?_
        rintro e w2 ⟨rfl, b2⟩
        have nS2 := (b2.block _ (lt_of_block nS0)).trans nS0
        have HQ := hidr (HRet.out w2 er (HBr.out.trans (b2.mono HBr.out.size)) nS2 (HE.out.trans (by rw [HX2.out]; exact if_pos hz)))
        clear c1 b2 hz
        go_wp2_with (first
          | (refine wpList_store_row rfl 28 _ _ rfl _ _ rfl rfl _ _ nS2 (by kernel_rfl) (by simp) (by simp [Value.oneCell']) ?_))
        exact find_post (w.heap.size + 1) 0 0 (.slice none 0 0) er rfl rfl rfl HQ.out.1 HQ.out.2
    · have hlt' : ¬ (j : Int) < (ds.length : Int) := by omega
      have HZ : Hid (daysE ⟨l, b, a, roles⟩ ds = 0) := by
        show _ = _
        rw [hX.out, List.drop_of_length_le (by omega)]
        rfl
      have HOK := hidr (daysE_ok HZ.out)
      have HE2 := hidr (HE.out.trans (if_neg (by rw [HZ.out]; simp)))
      clear hX HE HZ
      go_wp2_with fail
      go_loopw [35] (fun t W => ∃ k : Nat, t = .int .i64 (k : Int) ∧ k ≤ ds.length ∧ Hid (daysF ⟨l, b, a, roles⟩ ds 0 = daysF ⟨l, b, a, roles⟩ (ds.drop k) k) ∧ Hid (Below wA.heap.size wA W)) (fun t _ => ds.length - (intOf t).toNat)
      case atStart => exact ⟨0, rfl, by omega, rfl, HBr⟩
      case round =>
        obtain ⟨k, rfl, hk, hX, HBk⟩ := hrel
        have hk0 : (0 : Int) ≤ (k : Int) := by omega
        by_cases hltk : k < ds.length
        · have hltk' : (k : Int) < (ds.length : Int) := by omega
          obtain ⟨fs, hjf⟩ : ∃ r, ds[k]? = some r := ⟨_, List.getElem?_eq_getElem hltk⟩
          obtain ⟨_, _, e1, _, hall⟩ := HD.out.below HBk.out
          cases e1
          obtain ⟨gd0, od0, sv, hpe, cx, hrow⟩ := hall k _ hjf
          subst hpe
          have hok := wrong_ok (HOK.out fs (List.mem_of_getElem? hjf))
          have c1 := firstOf_any l b a roles _ fs sv wr (tab_below HT.out HBk.out) (HR.out.below HBk.out) hrow (fun p hp => ⟨(hok.pool p hp).len8, (hok.pool p hp).bd⟩) hok.r4 hok.meas
          obtain ⟨pf, cf, rfl, hlf, _⟩ := hrow
          have n2 := (HBk.out.block _ (lt_of_block nA)).trans nA
          have y0 := (cell_of_row _ _ 0 _ _ _ n2).trans rfl
          have y1 := (cell_of_row _ _ 1 _ _ _ n2).trans rfl
          have y2 := (cell_of_row _ _ 2 _ _ _ n2).trans rfl
          have y3 := (cell_of_row _ _ 3 _ _ _ n2).trans rfl
          have hS := daysF_step (s := ⟨l, b, a, roles⟩) k hjf
          dsimp only at hS
          have HX := hidr (hX.out.trans hS)
          have nS0 := (HBk.out.block _ (lt_of_block nS)).trans nS
          clear hall hjf hS hX hok
          go_wp2_with fail
          refine c1.mono ?_
          rintro e w2 (⟨m, who, v, hf, rfl, hrw, b2⟩ | ⟨hf, rfl, b2⟩)
          · have nS2 := (b2.block _ (lt_of_block nS0)).trans nS0
            have HXX : Hid (findP ⟨l, b, a, roles⟩ ds = ⟨0, (k : Int), m, who⟩) := by
              show _ = _
              rw [HE2.out, HX.out, hf]
            have hgl : w.heap.size + 1 < wA.heap.size := lt_of_block nS
            have HQ : Hid ((w2.setRow (w.heap.size + 1) #[.int .i64 (k : Int), .int .i64 m, v]).heap[w.heap.size + 1]? = some (.cells #[.int .i64 (k : Int), .int .i64 m, v] 28 (0, 0)) ∧ OutS (findP ⟨l, b, a, roles⟩ ds) w (.returned (.tuple #[.agg #[.int .i64 (k : Int), .int .i64 m, v], .int .i64 0])) (w2.setRow (w.heap.size + 1) #[.int .i64 (k : Int), .int .i64 m, v])) := by
              rw [HXX.out]
              refine ⟨setRow_heap _ _ _ _ _ _ nS2, v, rfl, ?_, below_setRow (HB.out.trans ((HBk.out.trans (b2.mono HBk.out.size)).mono HB.out.size)) (by omega) _⟩
              exact owns_low (owns_set hrw (Nat.lt_of_lt_of_le hgl HBk.out.size) _) (Nat.le_trans HB.out.size HBk.out.size)
            obtain ⟨pw, cw, rfl⟩ := owns_shape hrw
            clear c1 b2 hf
            go_wp2_with (first
              | (refine wpList_store_row rfl 28 _ _ rfl _ _ rfl rfl _ _ nS2 (by kernel_rfl) (by simp) (by simp [Value.oneCell']) ?_))
            exact find_post (w.heap.size + 1) (k : Int) m _ 0 rfl rfl rfl HQ.out.1 HQ.out.2
          · have HX2 : Hid (daysF ⟨l, b, a, roles⟩ ds 0 = daysF ⟨l, b, a, roles⟩ (ds.drop (k + 1)) (k + 1)) := by
              show _ = _
              rw [HX.out, hf]
            have HB2 := hidr (HBk.out.trans (b2.mono HBk.out.size))
            clear c1 b2 hf
            go_wp2_with fail
            go_roundw
            case rel => exact ⟨k + 1, by go_num, by omega, HX2, HB2⟩
            case measure => simp [intOf]; omega
        · have hltk' : ¬ (k : Int) < (ds.length : Int) := by omega
          have HXX : Hid (findP ⟨l, b, a, roles⟩ ds = ⟨11, 0, 0, []⟩) := by
            show _ = _
            rw [HE2.out, hX.out, List.drop_of_length_le (by omega)]
            rfl
          have nS0 := (HBk.out.block _ (lt_of_block nS)).trans nS
          have HQ := hidr (HRet.out wr 11 HBk.out nS0 HXX.out)
          clear hX
          go_wp2_with (first
            | (refine wpList_store_row rfl 28 _ _ rfl _ _ rfl rfl _ _ nS0 (by kernel_rfl) (by simp) (by simp [Value.oneCell']) ?_))
          exact find_post (w.heap.size + 1) 0 0 (.slice none 0 0) 11 rfl rfl rfl HQ.out.1 HQ.out.2
end Go.Proofs.YtlhjgajhcabhoaaDoor
