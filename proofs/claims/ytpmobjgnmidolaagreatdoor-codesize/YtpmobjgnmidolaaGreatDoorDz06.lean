/- A region that draws its order, whose values are known beforehand; what is said of the world hangs on what has been done. It speaks of no program. -/
import Derived.Test.YtpmobjgnmidolaaGreatDoorDz04
import Derived.Test.YtpmobjgnmidolaaGreatDoorDz05
import Derived.Laws.EntriesVeiled
import Derived.Deep.OwnRows
namespace Go.Proofs.YtpmobjgnmidolaaGreatDoor
open Go Go.RowKit
section
variable {P : Program} {ops : Array Oper} {Q : Exit → Act → World → Prop} {id : Nat} {a0 : Act} {w : World}
def ClosL (ops : Array Oper) (L : Nat → Bool) : Prop := ∀ (j : Nat) (p : Oper), ops[j]? = some p → L j = true → ∀ e ∈ p.after, Region.binds .any e = true → L e.on = true
def StepL (P : Program) (ops : Array Oper) (Q : Exit → Act → World → Prop) (ds : List (Option Nat × Value)) (a0 : Act) (J : (Nat → Bool) → World → Prop) : Prop :=
  ∀ (i : Nat) (d : Option Nat) (v : Value) (o : Oper) (L : Nat → Bool) (A : Act) (W : World), ops[i]? = some o → ds[i]? = some (d, v) → L i = false → (∀ e ∈ o.after, Region.binds .any e = true → L e.on = true) → ClosL ops L → J L W →
    (∀ s, notDst ops s = true → A.tmps.getD s undef = a0.tmps.getD s undef) → (∀ (j s : Nat) (u : Value), ds[j]? = some (some s, u) → L j = true → A.tmps.getD s undef = u) → wpOp P ops Q i (fun a' W' => a' = A.put d v ∧ J (fun k => decide (i = k) || L k) W') A W
theorem clos_lt {m : Nat} (hu : useB (ops.extract 0 (m + 1)) = true) (hm : m < ops.size) {L : Nat → Bool} (hc : ClosL ops L) {i : Nat} (hi : i < m) (hL : L i = false) : L m = false := by
  cases h : L m with
  | false => rfl
  | true =>
    have hs : (ops.extract 0 (m + 1)).size = m + 1 := by simp; omega
    have hex : ∀ (j : Nat) (p : Oper), (ops.extract 0 (m + 1))[j]? = some p → ops[j]? = some p := fun j p hp => by
      rw [Array.getElem?_extract] at hp
      split at hp
      · simpa using hp
      · cases hp
    have := use_all hu hs (L := L) (fun j p hp hj => hc j p (hex j p hp) hj) h m i (by omega) (by omega)
    rw [this] at hL; cases hL
theorem wp_region_JL (J : (Nat → Bool) → World → Prop) (hJ0 : ∀ L : Nat → Bool, (∀ i, i < ops.size → L i = false) → J L w.drew) (hm : P.follows .mixedOrders = true) (hback : backB ops = true) (hdst : dstB ops = true) (hin : inB ops a0.tmps.size = true) (ds : List (Option Nat × Value)) (es : List (Nat × Value))
    (hds : ops.toList.map (fun o => o.dst) = ds.map (fun p => p.1)) (hes : ds.filterMap (fun p => p.1.map fun s => (s, p.2)) = es) (hnd : decide ((es.map (fun p => p.1)).Nodup) = true)
    (hstep : StepL P ops Q ds a0 J) (hend : ∀ (L : Nat → Bool) (W : World), (∀ i, i < ops.size → L i = true) → J L W → Q .normal (putAll es a0) W) : (Code.region id ops true).wp P Q a0 w := by
  have hl : ds.length = ops.size := by
    have h := congrArg List.length hds
    simpa using h.symm
  have atD : ∀ {j : Nat} {p : Oper}, ops[j]? = some p → ∃ v, ds[j]? = some (p.dst, v) := fun {j p} hp => by
    have h1 : (ops.toList.map (fun o => o.dst))[j]? = some p.dst := by
      rw [List.getElem?_map, Array.getElem?_toList, hp]
      rfl
    rw [hds, List.getElem?_map] at h1
    cases hs : ds[j]? with
    | none => rw [hs] at h1; cases h1
    | some q =>
      rw [hs] at h1
      exact ⟨q.2, by rw [← Option.some.inj h1]⟩
  have atO : ∀ {j : Nat} {d : Option Nat} {v : Value}, ds[j]? = some (d, v) → ∃ p, ops[j]? = some p ∧ p.dst = d := fun {j d v} hj => by
    have hj' := (List.getElem?_eq_some_iff.1 hj).1
    obtain ⟨p, hp⟩ : ∃ p, ops[j]? = some p := ⟨ops[j]'(by omega), Array.getElem?_eq_getElem _⟩
    obtain ⟨v', hv'⟩ := atD hp
    rw [hj] at hv'
    exact ⟨p, hp, (congrArg Prod.fst (Option.some.inj hv')).symm⟩
  refine wp_region_flow hm hback hdst hin (fun L _ W => ClosL ops L ∧ J L W) (fun j x _ => ∀ d v, ds[j]? = some (d, v) → x = v) ?_ ?_ ?_
  · intro L h
    refine ⟨fun j p hp hj => ?_, hJ0 L h⟩
    have := h j (Array.getElem?_eq_some_iff.1 hp).1
    rw [this] at hj; cases hj
  · intro i o L A W ho hLi hdep hJ hdef hkept hhas
    obtain ⟨hc, hJ⟩ := hJ
    have hc' : ClosL ops (fun k => decide (i = k) || L k) := by
      intro j p hp hj e he hb
      show (decide (i = e.on) || L e.on) = true
      by_cases hij : i = j
      · subst hij
        rw [ho] at hp
        cases hp
        rw [hdep e he hb]; simp
      · rw [hc j p hp (by simpa [hij] using hj) e he hb]; simp
    obtain ⟨v, hv⟩ := atD ho
    refine wpOp_mono ?_ (hstep i o.dst v o L A W ho hv hLi hdep hc hJ (fun s' h => hkept s' fun j p hp _ => nd h j p hp) fun j s u hj hL => ?_)
    · rintro a' W' ⟨rfl, hJ'⟩
      exact ⟨v, rfl, fun _ d' v' h => by rw [hv] at h; exact congrArg Prod.snd (Option.some.inj h), fun _ _ _ h => h, hc', hJ'⟩
    · obtain ⟨p, hp, hd⟩ := atO hj
      exact hhas j p hp hL s hd _ _ hj
  · intro L A W hL hJ hdef hsize hkept hhas
    have e : A = putAll es a0 := by
      refine act_is es hdef hsize (by
        have := of_decide_eq_true hnd
        rw [show es.map (fun p => some p.1) = (es.map (fun p => p.1)).map some by rw [List.map_map]; rfl]
        rw [List.nodup_iff_pairwise_ne] at this ⊢
        rw [List.pairwise_map]
        exact this.imp fun hab e => hab (Option.some.inj e)) (fun s h => hkept s fun j p hp e => ?_) (fun j s v hj => ?_)
      · obtain ⟨v, hv⟩ := atD hp
        refine h (s, v) ?_ rfl
        rw [← hes, List.mem_filterMap]
        exact ⟨_, List.mem_of_getElem? hv, by rw [e]; rfl⟩
      · have hm' := List.mem_of_getElem? hj
        rw [← hes, List.mem_filterMap] at hm'
        obtain ⟨q, hq, hqe⟩ := hm'
        obtain ⟨k, hk⟩ := List.getElem?_of_mem hq
        obtain ⟨d, v'⟩ := q
        cases d with
        | none => cases hqe
        | some t =>
          have h2 := Option.some.inj hqe
          have h3 : t = s := congrArg Prod.fst h2
          have h4 : v' = v := congrArg Prod.snd h2
          subst h3 h4
          obtain ⟨p, hp, hd⟩ := atO hk
          exact hhas k p hp t hd _ _ hk
    rw [e]
    exact hend L W hL hJ.2
def JJ (m : Nat) (Pre Post : World → Prop) (L : Nat → Bool) (W : World) : Prop := (L m = false → Pre W) ∧ (L m = true → Post W)
variable {m : Nat} {Pre Post : World → Prop} {L : Nat → Bool} {W W' : World} {i : Nat}
theorem JJ.start (hm : m < ops.size) (h : Pre W) (hL : ∀ i, i < ops.size → L i = false) : JJ m Pre Post L W := ⟨fun _ => h, fun e => by rw [hL m hm] at e; cases e⟩
theorem JJ.keep (h : JJ m Pre Post L W) (hi : i ≠ m) : JJ m Pre Post (fun k => decide (i = k) || L k) W := ⟨fun e => h.1 (by simpa [hi] using e), fun e => h.2 (by simpa [hi] using e)⟩
theorem JJ.low (hi : i ≠ m) (hL : L m = false) (h : Pre W') : JJ m Pre Post (fun k => decide (i = k) || L k) W' := ⟨fun _ => h, fun e => by simp [hi, hL] at e⟩
theorem JJ.both {R : Prop} (h : JJ m Pre Post L W) (h1 : Pre W → R) (h2 : Post W → R) : R := by
  cases hL : L m with
  | false => exact h1 (h.1 hL)
  | true => exact h2 (h.2 hL)
theorem JJ.done (h : Post W') : JJ m Pre Post (fun k => decide (m = k) || L k) W' := ⟨fun e => by simp at e, fun _ => h⟩
end
end Go.Proofs.YtpmobjgnmidolaaGreatDoor

/- How heights are found, plainly: by a map of places, and by a row of places. -/
namespace Vx
def lk : List (Int × Int) → Int → Option Int
  | [], _ => none
  | e :: L, k => if k = e.1 then some e.2 else lk L k
end Vx

/- How the machine runs, plainly. -/
namespace Vx
abbrev M := Nat → Bool
def spM (l : List (Int × Int)) : M := fun i => l.any fun s => decide (s.1 ≤ (i : Int)) && decide ((i : Int) < s.2) && decide (i < 1440)
def unM (f g : M) : M := fun i => (f i || g i) && decide (i < 1440)
def dfM (f g : M) : M := fun i => (f i && !g i) && decide (i < 1440)
def boM (f g : M) : M := fun i => (f i && g i) && decide (i < 1440)
def shM (f : M) (x : Int) : M := fun t => decide (t < 1440) && (decide (x ≤ (t : Int)) && (decide ((t : Int) - x < 1440) && f ((t : Int) - x).toNat))
def noM : M := fun _ => false
def pop1 (F : M → M) (S : List M) : List M := match S.reverse with
  | g :: T => T.reverse ++ [F g]
  | [] => []
def pop2 (F : M → M → M) (S : List M) : List M := match S.reverse with
  | g :: f :: T => T.reverse ++ [F f g]
  | _ => []
theorem pop1_eq (F : M → M) (T : List M) (g : M) : pop1 F (T ++ [g]) = T ++ [F g] := by simp [pop1]
theorem pop2_eq (F : M → M → M) (T : List M) (f g : M) : pop2 F (T ++ [f, g]) = T ++ [F f g] := by simp [pop2]
theorem last1 {S : List M} (h : 1 ≤ S.length) : ∃ T g, S = T ++ [g] := by
  rcases List.eq_nil_or_concat S with rfl | ⟨T, g, rfl⟩
  · simp at h
  · exact ⟨T, g, by simp⟩
theorem last2 {S : List M} (h : 2 ≤ S.length) : ∃ T f g, S = T ++ [f, g] := by
  obtain ⟨T, g, rfl⟩ := last1 (S := S) (by omega)
  obtain ⟨U, f, rfl⟩ := last1 (S := T) (by simp at h; omega)
  exact ⟨U, f, g, by simp⟩
structure St where
  k : Nat
  S : List M
  n : Nat
section
variable (wk : Int → Bool) (day : Int)
def onD (x : In) : Bool := if x.op = 6 then wk x.a else decide (x.a ≤ day) && decide (day ≤ x.b)
def stepV (ev : Nat → M × Nat) (x : In) (s : St) : St :=
  if x.op = 1 then ⟨s.k + 1, s.S ++ [spM x.sp], s.n + 1⟩
  else if x.op = 2 then ⟨s.k + 1, pop2 unM s.S, s.n + 1⟩
  else if x.op = 3 then ⟨s.k + 1, pop2 dfM s.S, s.n + 1⟩
  else if x.op = 4 then ⟨s.k + 1, pop2 boM s.S, s.n + 1⟩
  else if x.op = 5 then ⟨s.k + 1, pop1 (fun f => shM f x.a) s.S, s.n + 1⟩
  else if x.op = 8 then ⟨s.k + 1, s.S ++ [(ev x.a.toNat).1], s.n + 1 + (ev x.a.toNat).2⟩
  else if onD wk day x = true then ⟨s.k + 1, s.S, s.n + 1⟩
  else ⟨x.to.toNat, s.S ++ [noM], s.n + 1⟩
def goV (ev : Nat → M × Nat) (l : List In) : Nat → St → St
  | 0, s => s
  | f + 1, s => match l[s.k]? with
    | none => s
    | some x => goV ev l f (stepV wk day ev x s)
def runV (ev : Nat → M × Nat) (l : List In) (s : St) : St := goV wk day ev l (l.length - s.k) s
def evV (cs : List Cd) : Nat → Nat → M × Nat
  | 0, _ => (noM, 0)
  | d + 1, r => ((runV wk day (evV cs d) (cs.getD r cd0).ins ⟨0, [], 0⟩).S.getD 0 noM, (runV wk day (evV cs d) (cs.getD r cd0).ins ⟨0, [], 0⟩).n)
end
structure SInv (cs : List Cd) (l : List In) (s : St) : Prop where
  le : s.k ≤ l.length
  hi : (s.S.length : Int) = hAt l s.k
  st : (s.n : Int) ≤ stS cs l s.k
  on : s.k = 0 ∨ 1 ≤ s.n
variable {wk : Int → Bool} {day : Int} {ev : Nat → M × Nat} {cs : List Cd} {l : List In}
theorem SInv.nil : SInv cs l ⟨0, [], 0⟩ := ⟨Nat.zero_le _, by simp [hAt], by simp [stS], .inl rfl⟩
theorem stS_mono (h0 : ∀ i, 0 ≤ (cs.getD i cd0).steps) {j k : Nat} (h : j ≤ k) : stS cs l j ≤ stS cs l k := by
  obtain ⟨d, rfl⟩ := Nat.exists_eq_add_of_le h
  clear h
  induction d with
  | zero => exact Int.le_refl _
  | succ d ih =>
    refine Int.le_trans ih ?_
    show stS cs l (j + d) ≤ stS cs l ((j + d) + 1)
    simp only [stS]
    have := h0 (l.getD (j + d) in0).a.toNat
    split <;> omega
theorem ins_kinds {x : In} {k n r : Nat} (h : insE x k n r = 0) : x.op = 1 ∨ x.op = 2 ∨ x.op = 3 ∨ x.op = 4 ∨ x.op = 5 ∨ x.op = 8 ∨ isG x := by
  unfold insE at h
  unfold isG
  split at h
  · omega
  split at h
  · omega
  split at h
  · omega
  split at h
  · omega
  split at h
  · omega
  split at h
  · omega
  · simp at h
theorem SInv.step {s : St} {x : In} {r : Nat} (hs : SInv cs l s) (hw : WellV l) (hx : l[s.k]? = some x) (hi : insE x s.k l.length r = 0) (h0 : ∀ i, 0 ≤ (cs.getD i cd0).steps)
    (hev : x.op = 8 → ((ev x.a.toNat).2 : Int) ≤ (cs.getD x.a.toNat cd0).steps) : SInv cs l (stepV wk day ev x s) ∧ s.k < (stepV wk day ev x s).k := by
  have hk := (List.getElem?_eq_some_iff.1 hx).1
  have htk := hw.tk _ _ hx
  have hst := stS_step (cs := cs) hx
  have hht := hAt_step hx
  have a1 := hs.hi
  have a2 := hs.st
  rcases ins_kinds hi with ho | ho | ho | ho | ho | ho | ho
  · have e : stepV wk day ev x s = ⟨s.k + 1, s.S ++ [spM x.sp], s.n + 1⟩ := by simp [stepV, ho]
    rw [e]
    have : eff x = 1 := by simp [eff, ho]
    rw [if_neg (by omega)] at hst
    refine ⟨⟨by dsimp only; omega, ?_, ?_, .inr (by dsimp only; omega)⟩, by dsimp only; omega⟩
    · dsimp only; rw [List.length_append]; simp; omega
    · dsimp only; omega
  · have e : stepV wk day ev x s = ⟨s.k + 1, pop2 unM s.S, s.n + 1⟩ := by simp [stepV, ho]
    rw [e]
    have h1 : eff x = -1 := by simp [eff, ho]
    have h2 : tk x = 2 := by simp [tk, ho]
    obtain ⟨T, f, g, hS⟩ := last2 (S := s.S) (by omega)
    rw [if_neg (by omega)] at hst
    rw [hS] at a1
    simp at a1
    refine ⟨⟨by dsimp only; omega, ?_, ?_, .inr (by dsimp only; omega)⟩, by dsimp only; omega⟩
    · dsimp only; rw [hS, pop2_eq]; simp; omega
    · dsimp only; omega
  · have e : stepV wk day ev x s = ⟨s.k + 1, pop2 dfM s.S, s.n + 1⟩ := by simp [stepV, ho]
    rw [e]
    have h1 : eff x = -1 := by simp [eff, ho]
    have h2 : tk x = 2 := by simp [tk, ho]
    obtain ⟨T, f, g, hS⟩ := last2 (S := s.S) (by omega)
    rw [if_neg (by omega)] at hst
    rw [hS] at a1
    simp at a1
    refine ⟨⟨by dsimp only; omega, ?_, ?_, .inr (by dsimp only; omega)⟩, by dsimp only; omega⟩
    · dsimp only; rw [hS, pop2_eq]; simp; omega
    · dsimp only; omega
  · have e : stepV wk day ev x s = ⟨s.k + 1, pop2 boM s.S, s.n + 1⟩ := by simp [stepV, ho]
    rw [e]
    have h1 : eff x = -1 := by simp [eff, ho]
    have h2 : tk x = 2 := by simp [tk, ho]
    obtain ⟨T, f, g, hS⟩ := last2 (S := s.S) (by omega)
    rw [if_neg (by omega)] at hst
    rw [hS] at a1
    simp at a1
    refine ⟨⟨by dsimp only; omega, ?_, ?_, .inr (by dsimp only; omega)⟩, by dsimp only; omega⟩
    · dsimp only; rw [hS, pop2_eq]; simp; omega
    · dsimp only; omega
  · have e : stepV wk day ev x s = ⟨s.k + 1, pop1 (fun f => shM f x.a) s.S, s.n + 1⟩ := by simp [stepV, ho]
    rw [e]
    have h1 : eff x = 0 := by simp [eff, ho]
    have h2 : tk x = 1 := by simp [tk, ho]
    obtain ⟨T, g, hS⟩ := last1 (S := s.S) (by omega)
    rw [if_neg (by omega)] at hst
    rw [hS] at a1
    simp at a1
    refine ⟨⟨by dsimp only; omega, ?_, ?_, .inr (by dsimp only; omega)⟩, by dsimp only; omega⟩
    · dsimp only; rw [hS, pop1_eq]; simp; omega
    · dsimp only; omega
  · have e : stepV wk day ev x s = ⟨s.k + 1, s.S ++ [(ev x.a.toNat).1], s.n + 1 + (ev x.a.toNat).2⟩ := by simp [stepV, ho]
    rw [e]
    have h1 : eff x = 1 := by simp [eff, ho]
    have h3 := hev ho
    rw [if_pos ho] at hst
    refine ⟨⟨by dsimp only; omega, ?_, ?_, .inr (by dsimp only; omega)⟩, by dsimp only; omega⟩
    · dsimp only; rw [List.length_append]; simp; omega
    · dsimp only; omega
  · have hto := ins_to hi ho
    have hgt := hw.to _ _ hx ho
    have hs8 : ¬ x.op = 8 := by unfold isG at ho; omega
    rw [if_neg hs8] at hst
    have he : eff x = 0 := by
      unfold eff
      unfold isG at ho
      rw [if_neg (by omega), if_neg (by omega)]
    by_cases hd : onD wk day x = true
    · have e : stepV wk day ev x s = ⟨s.k + 1, s.S, s.n + 1⟩ := by
        unfold isG at ho
        unfold stepV
        rw [if_neg (by omega), if_neg (by omega), if_neg (by omega), if_neg (by omega), if_neg (by omega), if_neg (by omega), if_pos hd]
      rw [e]
      refine ⟨⟨by dsimp only; omega, ?_, ?_, .inr (by dsimp only; omega)⟩, by dsimp only; omega⟩
      · dsimp only; omega
      · dsimp only; omega
    · have e : stepV wk day ev x s = ⟨x.to.toNat, s.S ++ [noM], s.n + 1⟩ := by
        unfold isG at ho
        unfold stepV
        rw [if_neg (by omega), if_neg (by omega), if_neg (by omega), if_neg (by omega), if_neg (by omega), if_neg (by omega), if_neg hd]
      rw [e]
      have := stS_mono (l := l) h0 (show s.k + 1 ≤ x.to.toNat by omega)
      refine ⟨⟨by dsimp only; omega, ?_, ?_, .inr (by dsimp only; omega)⟩, by dsimp only; omega⟩
      · dsimp only; rw [List.length_append]; simp; omega
      · dsimp only; omega
theorem runV_end {s : St} (h : s.k = l.length) : runV wk day ev l s = s := by
  unfold runV
  rw [show l.length - s.k = 0 by omega]
  rfl
def Up (wk : Int → Bool) (day : Int) (ev : Nat → M × Nat) (l : List In) : Prop := ∀ s x, l[s.k]? = some x → s.k < (stepV wk day ev x s).k
theorem goV_more (hu : Up wk day ev l) : ∀ (f : Nat) (s : St), l.length - s.k ≤ f → goV wk day ev l f s = goV wk day ev l (l.length - s.k) s
  | 0, s, h => by rw [show l.length - s.k = 0 by omega]
  | f + 1, s, h => by
    cases hx : l[s.k]? with
    | none =>
      have : l.length ≤ s.k := List.getElem?_eq_none_iff.1 hx
      rw [show l.length - s.k = 0 by omega]
      simp [goV, hx]
    | some x =>
      have hk := (List.getElem?_eq_some_iff.1 hx).1
      obtain ⟨m, hm⟩ : ∃ m, l.length - s.k = m + 1 := ⟨l.length - s.k - 1, by omega⟩
      have hu1 := hu s x hx
      rw [hm]
      simp only [goV, hx]
      rw [goV_more hu f _ (by omega), goV_more hu m _ (by omega)]
theorem runV_step (hu : Up wk day ev l) {s : St} {x : In} (hx : l[s.k]? = some x) : runV wk day ev l s = runV wk day ev l (stepV wk day ev x s) := by
  have hk := (List.getElem?_eq_some_iff.1 hx).1
  obtain ⟨m, hm⟩ : ∃ m, l.length - s.k = m + 1 := ⟨l.length - s.k - 1, by omega⟩
  have hu1 := hu s x hx
  unfold runV
  rw [hm]
  simp only [goV, hx]
  rw [goV_more hu m _ (by omega)]
theorem up_of {r : Nat} (hi : ∀ (j : Nat) (x : In), l[j]? = some x → insE x j l.length r = 0) : Up wk day ev l := fun s x hx => by
  rcases ins_kinds (hi _ _ hx) with ho | ho | ho | ho | ho | ho | ho
  · simp [stepV, ho]
  · simp [stepV, ho]
  · simp [stepV, ho]
  · simp [stepV, ho]
  · simp [stepV, ho]
  · simp [stepV, ho]
  · have hto := ins_to (hi _ _ hx) ho
    unfold isG at ho
    unfold stepV
    rw [if_neg (by omega), if_neg (by omega), if_neg (by omega), if_neg (by omega), if_neg (by omega), if_neg (by omega)]
    split
    · dsimp only; omega
    · dsimp only; omega
theorem SInv.run {r : Nat} (hw : WellV l) (hi : ∀ (j : Nat) (x : In), l[j]? = some x → insE x j l.length r = 0) (h0 : ∀ i, 0 ≤ (cs.getD i cd0).steps)
    (hev : ∀ (j : Nat) (x : In), l[j]? = some x → x.op = 8 → ((ev x.a.toNat).2 : Int) ≤ (cs.getD x.a.toNat cd0).steps) : ∀ (f : Nat) (s : St), l.length - s.k ≤ f → SInv cs l s → SInv cs l (runV wk day ev l s) ∧ (runV wk day ev l s).k = l.length
  | f, s, hf, hs => by
    have hu : Up wk day ev l := up_of hi
    cases hx : l[s.k]? with
    | none =>
      have h1 : l.length ≤ s.k := List.getElem?_eq_none_iff.1 hx
      have h2 := hs.le
      rw [runV_end (by omega)]
      exact ⟨hs, by omega⟩
    | some x =>
      have hk := (List.getElem?_eq_some_iff.1 hx).1
      obtain ⟨h1, h2⟩ := hs.step (wk := wk) (day := day) (ev := ev) hw hx (hi _ _ hx) h0 (hev _ _ hx)
      rw [runV_step hu hx]
      cases f with
      | zero => omega
      | succ f => exact SInv.run hw hi h0 hev f _ (by omega) h1
theorem Right.steps0 (h : Right cs) (i : Nat) : 0 ≤ (cs.getD i cd0).steps := by
  cases hi : cs[i]? with
  | none => simp [List.getD, hi, cd0]
  | some c =>
    rw [cd_at hi]
    have := (alone_ins (h.alone i c hi)).2.1
    omega
theorem Right.call (h : Right cs) {i : Nat} {c : Cd} (hc : cs[i]? = some c) {j : Nat} {x : In} (hx : c.ins[j]? = some x) (ho : x.op = 8) : x.a.toNat < cs.length ∧ (x.a.toNat : Int) = x.a ∧ rk (callE cs) cs.length x.a.toNat < rk (callE cs) cs.length i := by
  have h1 := ins_call ((alone_ins (h.alone i c hc)).2.2 j x hx) ho
  have h2 : x.a.toNat < cs.length := by omega
  refine ⟨h2, by omega, rk_less h2 ?_ (h.cyc _ h2)⟩
  unfold callE
  rw [cd_at hc, List.any_eq_true]
  exact ⟨x, List.mem_of_getElem? hx, by simp [ho]; omega⟩
theorem Right.run (h : Right cs) : ∀ (d i : Nat) (c : Cd), cs[i]? = some c → rk (callE cs) cs.length i < d →
    1 ≤ (evV wk day cs d i).2 ∧ ((evV wk day cs d i).2 : Int) ≤ c.steps ∧ SInv cs c.ins (runV wk day (evV wk day cs (d - 1)) c.ins ⟨0, [], 0⟩) ∧ (runV wk day (evV wk day cs (d - 1)) c.ins ⟨0, [], 0⟩).k = c.ins.length ∧ (runV wk day (evV wk day cs (d - 1)) c.ins ⟨0, [], 0⟩).S = [(evV wk day cs d i).1] ∧ (runV wk day (evV wk day cs (d - 1)) c.ins ⟨0, [], 0⟩).n = (evV wk day cs d i).2
  | 0, _, _, _, hd => by omega
  | d + 1, i, c, hc, hd => by
    have ha := alone_ins (h.alone i c hc)
    have hf := h.fit i c hc
    have hrun := SInv.run (wk := wk) (day := day) (ev := evV wk day cs d) (cs := cs) hf.well ha.2.2 h.steps0 (fun j x hx ho => by
      obtain ⟨h1, _, h3⟩ := h.call hc hx ho
      have hg : cs[x.a.toNat]? = some cs[x.a.toNat] := List.getElem?_eq_getElem h1
      rw [cd_at hg]
      exact (h.run d _ _ hg (by omega)).2.1) c.ins.length ⟨0, [], 0⟩ (by simp) SInv.nil
    rw [Nat.add_sub_cancel]
    have e2 : evV wk day cs (d + 1) i = ((runV wk day (evV wk day cs d) c.ins ⟨0, [], 0⟩).S.getD 0 noM, (runV wk day (evV wk day cs d) c.ins ⟨0, [], 0⟩).n) := by
      rw [evV, cd_at hc]
    rw [e2]
    dsimp only
    generalize runV wk day (evV wk day cs d) c.ins ⟨0, [], 0⟩ = R at *
    obtain ⟨hI, hk⟩ := hrun
    have h1 := hI.hi
    have h2 := hI.st
    rw [hk] at h1 h2
    rw [hf.well.fin] at h1
    rw [hf.steps] at h2
    have h3 := hI.on
    refine ⟨by omega, h2, hI, hk, ?_, rfl⟩
    obtain ⟨T, g, hS⟩ := last1 (S := R.S) (by omega)
    rw [hS] at h1 ⊢
    have hT : T = [] := by
      apply List.eq_nil_of_length_eq_zero
      simp at h1
      omega
    subst hT
    simp
end Vx

/- What is wrong with an instruction: vm.instruction, and what it calls. -/
namespace Go.Proofs.YtpmobjgnmidolaaGreatDoor
open Go.RowKit Msk Vx
theorem hidv {p : Prop} (h : p) : Hid p := h
def RowV (w : World) (v : Value) (l : List (Int × Int)) : Prop := (l = [] ∧ ∃ p c, v = .slice p 0 c) ∨ Row w v l
theorem RowV.later {w w' : World} {v : Value} {l : List (Int × Int)} (h : RowV w v l) (hb : Below w.heap.size w w') : RowV w' v l := by
  rcases h with h | h
  · exact .inl h
  · exact .inr (h.later hb)
theorem RowV.form {w : World} {v : Value} {l : List (Int × Int)} (h : RowV w v l) : ∃ p c, v = .slice p l.length c ∧ l.length < 9223372036854775808 ∧ ∀ (j : Nat) (s : Int × Int), l[j]? = some s → ∃ g o : Nat, p = some ⟨g, o, none⟩ ∧ w.cell? ⟨g, o + j * 2, none⟩ = some (.int .i64 s.1) ∧ w.cell? ⟨g, o + j * 2 + 1, none⟩ = some (.int .i64 s.2) := by
  rcases h with ⟨rfl, p, c, rfl⟩ | ⟨c, rfl, rfl⟩ | ⟨g, o, c, rfl, hl, hc⟩
  · exact ⟨p, c, rfl, by decide, fun j s hj => by simp at hj⟩
  · exact ⟨none, c, rfl, by decide, fun j s hj => by simp at hj⟩
  · refine ⟨_, c, rfl, hl, fun j s hj => ⟨g, o, rfl, ?_⟩⟩
    have h1 := (List.getElem?_eq_some_iff.1 hj).1
    have := hc j h1
    have e : l.getD j (0, 0) = s := by simp [List.getD, hj]
    rw [e] at this
    exact this
end Go.Proofs.YtpmobjgnmidolaaGreatDoor

/- What is wrong with an instruction. Written by genvmb.py. -/
namespace Go.Proofs.YtpmobjgnmidolaaGreatDoor
open Go.RowKit Msk Vx
end Go.Proofs.YtpmobjgnmidolaaGreatDoor

/- Code in memory; what is wrong with a rule's code by itself. Written by genvmc.py. -/
namespace Go.Proofs.YtpmobjgnmidolaaGreatDoor
open Go.RowKit Msk Vx
def InsRow (w : World) (v : Value) (xs : List (In × Value)) : Prop := ∃ p c, v = .slice p xs.length c ∧ xs.length < 9223372036854775808 ∧ ∀ (j : Nat) (x : In × Value), xs[j]? = some x → RowV w x.2 x.1.sp ∧ ∃ g o : Nat, p = some ⟨g, o, none⟩ ∧
  w.cell? ⟨g, o + j * 5, none⟩ = some (.int .i64 x.1.op) ∧ w.cell? ⟨g, o + j * 5 + 1, none⟩ = some (.int .i64 x.1.a) ∧ w.cell? ⟨g, o + j * 5 + 2, none⟩ = some (.int .i64 x.1.b) ∧ w.cell? ⟨g, o + j * 5 + 3, none⟩ = some (.int .i64 x.1.to) ∧ w.cell? ⟨g, o + j * 5 + 4, none⟩ = some x.2
theorem InsRow.below {w w' : World} {v : Value} {xs : List (In × Value)} (h : InsRow w v xs) (hb : Below w.heap.size w w') : InsRow w' v xs := by
  obtain ⟨p, c, h1, h2, h3⟩ := h
  refine ⟨p, c, h1, h2, fun j x hj => ?_⟩
  obtain ⟨r, g, o, e, c0, c1, c2, c3, c4⟩ := h3 j x hj
  exact ⟨r.later hb, g, o, e, (hb.cell (block_lt_of_cell c0)).trans c0, (hb.cell (block_lt_of_cell c1)).trans c1, (hb.cell (block_lt_of_cell c2)).trans c2, (hb.cell (block_lt_of_cell c3)).trans c3, (hb.cell (block_lt_of_cell c4)).trans c4⟩
def InsOf (w : World) (v : Value) (l : List In) : Prop := ∃ xs : List (In × Value), InsRow w v xs ∧ xs.map (fun x => x.1) = l
theorem InsOf.below {w w' : World} {v : Value} {l : List In} (h : InsOf w v l) (hb : Below w.heap.size w w') : InsOf w' v l := by
  obtain ⟨xs, h1, h2⟩ := h
  exact ⟨xs, h1.below hb, h2⟩
theorem InsOf.form {w : World} {v : Value} {l : List In} (h : InsOf w v l) : ∃ p c, v = .slice p l.length c ∧ l.length < 9223372036854775808 ∧ ∀ (j : Nat) (x : In), l[j]? = some x → ∃ sv : Value, RowV w sv x.sp ∧ ∃ g o : Nat, p = some ⟨g, o, none⟩ ∧
    w.cell? ⟨g, o + j * 5, none⟩ = some (.int .i64 x.op) ∧ w.cell? ⟨g, o + j * 5 + 1, none⟩ = some (.int .i64 x.a) ∧ w.cell? ⟨g, o + j * 5 + 2, none⟩ = some (.int .i64 x.b) ∧ w.cell? ⟨g, o + j * 5 + 3, none⟩ = some (.int .i64 x.to) ∧ w.cell? ⟨g, o + j * 5 + 4, none⟩ = some sv := by
  obtain ⟨xs, ⟨p, c, h1, h2, h3⟩, rfl⟩ := h
  rw [List.length_map]
  refine ⟨p, c, h1, h2, fun j x hj => ?_⟩
  rw [List.getElem?_map] at hj
  obtain ⟨y, hy, rfl⟩ := Option.map_eq_some_iff.1 hj
  obtain ⟨r, g, o, e, hc⟩ := h3 j y hy
  exact ⟨y.2, r, g, o, e, hc⟩
def InC (w : World) (v : Value) (us : List (Cd × Value)) : Prop := ∃ p c, v = .slice p us.length c ∧ us.length < 9223372036854775808 ∧ ∀ (j : Nat) (u : Cd × Value), us[j]? = some u → InsOf w u.2 u.1.ins ∧ ∃ g o : Nat, p = some ⟨g, o, none⟩ ∧
  w.cell? ⟨g, o + j * 3, none⟩ = some u.2 ∧ w.cell? ⟨g, o + j * 3 + 1, none⟩ = some (.int .i64 u.1.high) ∧ w.cell? ⟨g, o + j * 3 + 2, none⟩ = some (.int .i64 u.1.steps)
theorem InC.below {w w' : World} {v : Value} {us : List (Cd × Value)} (h : InC w v us) (hb : Below w.heap.size w w') : InC w' v us := by
  obtain ⟨p, c, h1, h2, h3⟩ := h
  refine ⟨p, c, h1, h2, fun j u hj => ?_⟩
  obtain ⟨r, g, o, e, c0, c1, c2⟩ := h3 j u hj
  exact ⟨r.below hb, g, o, e, (hb.cell (block_lt_of_cell c0)).trans c0, (hb.cell (block_lt_of_cell c1)).trans c1, (hb.cell (block_lt_of_cell c2)).trans c2⟩
def InV (w : World) (v : Value) (cs : List Cd) : Prop := ∃ us : List (Cd × Value), InC w v us ∧ us.map (fun u => u.1) = cs
theorem InV.below {w w' : World} {v : Value} {cs : List Cd} (h : InV w v cs) (hb : Below w.heap.size w w') : InV w' v cs := by
  obtain ⟨xs, h1, h2⟩ := h
  exact ⟨xs, h1.below hb, h2⟩
theorem InV.form {w : World} {v : Value} {cs : List Cd} (h : InV w v cs) : ∃ p c, v = .slice p cs.length c ∧ cs.length < 9223372036854775808 ∧ ∀ (j : Nat) (u : Cd), cs[j]? = some u → ∃ sv : Value, InsOf w sv u.ins ∧ ∃ g o : Nat, p = some ⟨g, o, none⟩ ∧
    w.cell? ⟨g, o + j * 3, none⟩ = some sv ∧ w.cell? ⟨g, o + j * 3 + 1, none⟩ = some (.int .i64 u.high) ∧ w.cell? ⟨g, o + j * 3 + 2, none⟩ = some (.int .i64 u.steps) := by
  obtain ⟨xs, ⟨p, c, h1, h2, h3⟩, rfl⟩ := h
  rw [List.length_map]
  refine ⟨p, c, h1, h2, fun j x hj => ?_⟩
  rw [List.getElem?_map] at hj
  obtain ⟨y, hy, rfl⟩ := Option.map_eq_some_iff.1 hj
  obtain ⟨r, g, o, e, hc⟩ := h3 j y hy
  exact ⟨y.2, r, g, o, e, hc⟩
end Go.Proofs.YtpmobjgnmidolaaGreatDoor

/- vm.has, vm.exchange; rows of bits in memory. -/
namespace Go.Proofs.YtpmobjgnmidolaaGreatDoor
open Go.RowKit Msk Vx
end Go.Proofs.YtpmobjgnmidolaaGreatDoor

/- vm.reached: who calls whom, bit by bit. Written by genvme.py. -/
namespace Go.Proofs.YtpmobjgnmidolaaGreatDoor
open Go.RowKit Msk Vx
def cE (cs : List Cd) (i j : Nat) : Nat → Nat → Bool := fun r k => if r < i then callE cs r k else if r = i then (((cs.getD i cd0).ins.take j).any fun x => decide (x.op = 8) && decide (x.a = (k : Int))) else false
def wE (E : Nat → Nat → Bool) (m i : Nat) : Nat → Nat → Bool := fun r k => if r < i then wars E (m + 1) r k else wars E m r k
end Go.Proofs.YtpmobjgnmidolaaGreatDoor

/- How great heights and steps can be, plainly. -/
namespace Vx
variable {cs : List Cd} {l : List In}
theorem eff_bd (x : In) : -1 ≤ eff x ∧ eff x ≤ 1 := by
  unfold eff
  split
  · omega
  · split <;> omega
theorem hAt_bd : ∀ j : Nat, -(j : Int) ≤ hAt l j ∧ hAt l j ≤ j
  | 0 => by simp [hAt]
  | j + 1 => by
    have h1 := hAt_bd j
    have h2 := eff_bd (l.getD j in0)
    simp only [hAt]
    omega
theorem mxH_bd (hh : ∀ i, (cs.getD i cd0).high ≤ 100) : ∀ j : Nat, 0 ≤ mxH cs l j ∧ mxH cs l j ≤ j + 100
  | 0 => by simp [mxH]
  | j + 1 => by
    have h1 := mxH_bd hh j
    have h2 := hAt_bd (l := l) j
    have h3 := hAt_bd (l := l) (j + 1)
    have h4 := hh (l.getD j in0).a.toNat
    simp only [mxH]
    split <;> omega
theorem stS_bd (h0 : ∀ i, 0 ≤ (cs.getD i cd0).steps ∧ (cs.getD i cd0).steps ≤ 20000) : ∀ j : Nat, (j : Int) ≤ stS cs l j ∧ stS cs l j ≤ j * 20001
  | 0 => by simp [stS]
  | j + 1 => by
    have h1 := stS_bd h0 j
    have h4 := h0 (l.getD j in0).a.toNat
    simp only [stS]
    split <;> omega
end Vx

/- A map from numbers to numbers; vm.measured's own question. -/
namespace Go.Proofs.YtpmobjgnmidolaaGreatDoor
open Go.RowKit Msk Vx
end Go.Proofs.YtpmobjgnmidolaaGreatDoor

/- vm.measured, vm.fits: how a rule's code uses its stack. Written by genvmg.py. -/
namespace Go.Proofs.YtpmobjgnmidolaaGreatDoor
open Go.RowKit Msk Vx
end Go.Proofs.YtpmobjgnmidolaaGreatDoor

/- vm.Wrong: what is wrong with code. -/
namespace Go.Proofs.YtpmobjgnmidolaaGreatDoor
open Go.RowKit Msk Vx
end Go.Proofs.YtpmobjgnmidolaaGreatDoor

/- A region that draws its order, whose values and world are told by sayings that hang on what has been done; the last operation waits for all. It speaks of no program. -/
namespace Go.Proofs.YtpmobjgnmidolaaGreatDoor
open Go Go.RowKit
section
variable {P : Program} {ops : Array Oper} {Q : Exit → Act → World → Prop} {id : Nat} {a0 : Act} {w : World}
def StepR (P : Program) (ops : Array Oper) (Q : Exit → Act → World → Prop) (sl : List Nat) (a0 : Act) (J : (Nat → Bool) → World → Prop) (sp : (Nat → Bool) → Nat → Value → World → Prop) : Prop :=
  ∀ (i s : Nat) (o : Oper) (L : Nat → Bool) (A : Act) (W : World), ops[i]? = some o → sl[i]? = some s → L i = false → (∀ e ∈ o.after, Region.binds .any e = true → L e.on = true) → ClosL ops L → J L W →
    (∀ s, notDst ops s = true → A.tmps.getD s undef = a0.tmps.getD s undef) → (∀ (j s : Nat), sl[j]? = some s → L j = true → sp L j (A.tmps.getD s undef) W) →
    wpOp P ops Q i (fun a' W' => ∃ v, a' = A.put (some s) v ∧ sp (fun k => decide (i = k) || L k) i v W' ∧ J (fun k => decide (i = k) || L k) W' ∧ ∀ j u, j ≠ i → j < sl.length → L j = true → sp L j u W → sp (fun k => decide (i = k) || L k) j u W') A W
theorem wp_region_lastR (J : (Nat → Bool) → World → Prop) (sp : (Nat → Bool) → Nat → Value → World → Prop) (hJ0 : ∀ L : Nat → Bool, (∀ i, i < ops.size → L i = false) → J L w.drew) (hm : P.follows .mixedOrders = true) (hback : backB ops = true) (hdst : dstB ops = true) (hin : inB ops a0.tmps.size = true) (n : Nat) (hn : ops.size = n + 1) (huse : useB ops = true) (sl : List Nat)
    (hds : (ops.toList.take n).map (fun o => o.dst) = sl.map some) (hnd : decide (((ops.toList.take n).map (fun o => o.dst)).Nodup) = true)
    (hstep : StepR P ops Q sl a0 J sp) (hlast : ∀ (o : Oper) (L : Nat → Bool) (W : World) (A : Act), ops[n]? = some o → (∀ i, i < n → L i = true) → J L W → (∀ (j s : Nat), sl[j]? = some s → sp L j (A.tmps.getD s undef) W) → (∀ s, notDst ops s = true → A.tmps.getD s undef = a0.tmps.getD s undef) →
      (∀ ds : List (Nat × Value), ds.map (fun p => p.1) = sl → (∀ (j s : Nat) (v : Value), ds[j]? = some (s, v) → A.tmps.getD s undef = v) → A = putAll ds a0) →
      wpOp P ops Q n (fun a' W' => (∃ v, a' = A.put o.dst v) ∧ Q .normal a' W') A W) : (Code.region id ops true).wp P Q a0 w := by
  have hnd' : (sl.map some).Nodup := by rw [← hds]; exact of_decide_eq_true hnd
  have hl : sl.length = n := by
    have h := congrArg List.length hds
    simp only [List.length_map, List.length_take, Array.length_toList] at h
    omega
  have atD : ∀ {j : Nat} {p : Oper}, j < n → ops[j]? = some p → ∃ s, sl[j]? = some s ∧ p.dst = some s := fun {j p} hj hp => by
    have h1 : ((ops.toList.take n).map (fun o => o.dst))[j]? = some p.dst := by
      rw [List.getElem?_map, List.getElem?_take_of_lt hj, Array.getElem?_toList, hp]
      rfl
    rw [hds, List.getElem?_map] at h1
    cases hs : sl[j]? with
    | none => rw [hs] at h1; cases h1
    | some s =>
      rw [hs] at h1
      exact ⟨s, rfl, (Option.some.inj h1).symm⟩
  have slNe : ∀ {j k s t : Nat}, sl[j]? = some s → sl[k]? = some t → j ≠ k → s ≠ t := fun {j k s t} hj hk hne e => by
    subst e
    have hj' := (List.getElem?_eq_some_iff.1 hj).1
    have h1 : (sl.map some)[j]? = (sl.map some)[k]? := by rw [List.getElem?_map, List.getElem?_map, hj, hk]
    exact hne ((List.getElem?_inj (by simpa using hj') hnd').1 h1)
  refine wp_region_flow hm hback hdst hin (fun L A W => ClosL ops L ∧ (L n = false → J L W ∧ A.tmps.size = a0.tmps.size ∧ ∀ (j s : Nat), sl[j]? = some s → L j = true → sp L j (A.tmps.getD s undef) W) ∧ (L n = true → Q .normal A W)) (fun _ _ _ => True) ?_ ?_ ?_
  · intro L h
    refine ⟨fun j p hp hj => ?_, fun _ => ⟨hJ0 L h, rfl, fun j s hj hL => ?_⟩, fun h' => ?_⟩
    · have := h j (Array.getElem?_eq_some_iff.1 hp).1
      rw [this] at hj; cases hj
    · have := h j (by have := (List.getElem?_eq_some_iff.1 hj).1; omega)
      rw [this] at hL; cases hL
    · rw [h n (by omega)] at h'; cases h'
  · intro i o L A W ho hLi hdep hJ hdef hkept hhas
    clear hhas
    obtain ⟨hc, hbel, hdone⟩ := hJ
    have hi : i < ops.size := (Array.getElem?_eq_some_iff.1 ho).1
    have hLn : L n = false := by
      cases h : L n with
      | false => rfl
      | true =>
        have := use_all huse hn hc h n i (by omega) (by omega)
        rw [this] at hLi; cases hLi
    obtain ⟨hbw, hsz, hread⟩ := hbel hLn
    have hc' : ClosL ops (fun k => decide (i = k) || L k) := by
      intro j p hp hj e he hb
      show (decide (i = e.on) || L e.on) = true
      by_cases hij : i = j
      · subst hij
        rw [ho] at hp
        cases hp
        rw [hdep e he hb]; simp
      · rw [hc j p hp (by simpa [hij] using hj) e he hb]; simp
    by_cases hin' : i = n
    · subst hin'
      have hall : ∀ j, j < i → L j = true := fun j hj => by
        have := use_all huse hn hc' (L := fun k => decide (i = k) || L k) (by simp) i j (by omega) (by omega)
        simpa [show i ≠ j by omega] using this
      refine wpOp_mono ?_ (hlast o L W A ho hall hbw (fun j s hj => hread j s hj (hall j (by have := (List.getElem?_eq_some_iff.1 hj).1; omega))) (fun s h => hkept s fun j p hp _ => nd h j p hp) fun ds hd hv => ?_)
      · rintro a' W' ⟨⟨v, hv⟩, hq⟩
        exact ⟨v, hv, fun _ => trivial, fun _ _ _ _ => trivial, hc', fun h => by simp at h, fun _ => hq⟩
      · refine act_is ds hdef hsz (by rw [show ds.map (fun p => some p.1) = (ds.map (fun p => p.1)).map some by rw [List.map_map]; rfl, hd]; exact hnd') (fun s h => hkept s fun j p hp hj e => ?_) (fun j s v hj => hv j s v hj)
        have hjn : j < i := by
          have h1 := (Array.getElem?_eq_some_iff.1 hp).1
          have h2 : j ≠ i := fun e' => by rw [e', hLn] at hj; cases hj
          omega
        obtain ⟨s', hs', hd'⟩ := atD hjn hp
        rw [hd'] at e
        cases e
        rw [← hd, List.getElem?_map] at hs'
        cases hq : ds[j]? with
        | none => rw [hq] at hs'; cases hs'
        | some q =>
          rw [hq] at hs'
          exact h q (List.mem_of_getElem? hq) (Option.some.inj hs')
    · obtain ⟨s, hs, hd⟩ := atD (show i < n by omega) ho
      have hsl : s < A.tmps.size := by
        have q1 := List.all_eq_true.1 hin i (by simpa using hi)
        rw [ho] at q1
        simp only [Option.bind_some, hd] at q1
        rw [hsz]
        simpa using q1
      refine wpOp_mono ?_ (hstep i s o L A W ho hs hLi hdep hc hbw (fun s' h => hkept s' fun j p hp _ => nd h j p hp) hread)
      rintro a' W' ⟨v, rfl, hv, hJ', hmono⟩
      refine ⟨v, by rw [hd], fun _ => trivial, fun _ _ _ _ => trivial, hc', fun _ => ⟨hJ', by simpa [Act.put] using hsz, fun j t hj hL => ?_⟩, fun h => ?_⟩
      · by_cases hij : i = j
        · subst hij
          rw [hs] at hj
          cases hj
          rw [show (A.put (some s) v).tmps.getD s undef = v from getD_set_same _ _ _ hsl]
          exact hv
        · have hLj : L j = true := by simpa [hij] using hL
          rw [show (A.put (some s) v).tmps.getD t undef = A.tmps.getD t undef from getD_set_other _ _ _ _ (slNe hs hj hij)]
          exact hmono j _ (fun e => hij e.symm) (List.getElem?_eq_some_iff.1 hj).1 hLj (hread j t hj hLj)
      · simp [hin', hLn] at h
  · intro L A W hL hJ hdef hsize hkept hhas
    exact hJ.2.2 (hL n (by omega))
end
end Go.Proofs.YtpmobjgnmidolaaGreatDoor

/- A row of one mask is made. -/
namespace Go.Proofs.YtpmobjgnmidolaaGreatDoor
open Go.RowKit Msk
end Go.Proofs.YtpmobjgnmidolaaGreatDoor

/- The machine in memory; put and take. Written by genvmi.py. -/
namespace Go.Proofs.YtpmobjgnmidolaaGreatDoor
open Go.RowKit Msk Vx
theorem mvl_len (f : M) : (mv f).toList.length = 23 := by rw [Array.length_toList]; exact mv_size f
theorem own_below {w w' : World} {base : Nat} {e : TypeId} {size n : Nat} {v : Value} {xs : List Value} (h : w.ownsRow base e size v n xs) (hb : Below w.heap.size w w') : w'.ownsRow base e size v n xs := by
  refine h.kept (row := none) ⟨hb.os, hb.tape, hb.output, hb.size, fun k hk _ => hb.block k hk⟩ ?_
  cases hv : v.ownBlock with
  | none => exact .inl rfl
  | some g => exact .inr (by simp)
theorem grown_below {W1 W W' : World} {row : Option Nat} (h : W1.grownBy W row) (hb : Below W.heap.size W W') : W1.grownBy W' row :=
  ⟨hb.os.trans h.os, hb.tape.trans h.tape, hb.output.trans h.output, Nat.le_trans h.size hb.size, fun k hk hr => (hb.block k (Nat.lt_of_lt_of_le hk h.size)).trans (h.block k hk hr)⟩
theorem grown_trans {W1 W W' : World} {row : Option Nat} (h : W1.grownBy W row) (hb : W.grownBy W' row) : W1.grownBy W' row :=
  ⟨hb.os.trans h.os, hb.tape.trans h.tape, hb.output.trans h.output, Nat.le_trans h.size hb.size, fun k hk hr => (hb.block k (Nat.lt_of_lt_of_le hk h.size) hr).trans (h.block k hk hr)⟩
theorem in_add9 (g o n : Nat) : (⟨g, o, none⟩ : Addr).add n = ⟨g, o + n, none⟩ := by
  by_cases h : n = 0
  · subst h; simp [Addr.add]
  · simp [Addr.add, h]
theorem wpList_loadM {ops : Array Oper} {rest : List Oper} {op : Oper} {a : Act} {w : World} {Q : Exit → Act → World → Prop} (hgd : op.guard = none) (x : Operand) (ho : op.op = .load 41 x) (b o : Nat) (hx : a.eval x = .pointer (some ⟨b, o, none⟩)) (f : Nat → Bool) (hc : w.rangeAt b o (mv f).toList)
    (h : wpList Tryz.prog ops Q rest (a.put op.dst (.agg (mv f))) w) : wpList Tryz.prog ops Q (op :: rest) a w := by
  refine wpList_load_mid hgd 41 x ho b o hx (mv f).toList _ hc maskType rfl (by rw [mvl_len]; kernel_rfl) ?_
  simpa using h
end Go.Proofs.YtpmobjgnmidolaaGreatDoor
