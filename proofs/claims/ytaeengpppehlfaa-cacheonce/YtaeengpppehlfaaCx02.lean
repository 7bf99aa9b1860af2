/- How the machine runs, plainly. -/
import Derived.Test.YtaeengpppehlfaaCx01
import Derived.Test.YtaeengpppehlfaaRows
import Derived.WalkKit
import Derived.WalkSpells
import Derived.WalkLawsBesides
import Derived.Deep.QuietTactic
import Derived.BigQuiet
import Derived.Laws.Bits64b
import Derived.Laws.Rows
import Derived.Laws.Tables
import Derived.Deep.WholeRow
import Derived.Lib.TrailingZeros
namespace Vx

abbrev M := Nat → Bool
def spM (l : List (Int × Int)) : M := fun i => l.any fun s => decide (s.1 ≤ (i : Int)) && decide ((i : Int) < s.2) && decide (i < 1440)
def unM (f g : M) : M := fun i => (f i || g i) && decide (i < 1440)
def dfM (f g : M) : M := fun i => (f i && !g i) && decide (i < 1440)
def boM (f g : M) : M := fun i => (f i && g i) && decide (i < 1440)
def shM (f : M) (x : Int) : M := fun t => decide (t < 1440) && (decide (x ≤ (t : Int)) && (decide ((t : Int) - x < 1440) && f ((t : Int) - x).toNat))
def noM : M := fun _ => false
def pop1 (F : M → M) (S : List M) : List M := match S.reverse with
  | g :: T => T.reverse ++ [F g]
  | [] => []
def pop2 (F : M → M → M) (S : List M) : List M := match S.reverse with
  | g :: f :: T => T.reverse ++ [F f g]
  | _ => []
theorem pop1_eq (F : M → M) (T : List M) (g : M) : pop1 F (T ++ [g]) = T ++ [F g] := by simp [pop1]
theorem pop2_eq (F : M → M → M) (T : List M) (f g : M) : pop2 F (T ++ [f, g]) = T ++ [F f g] := by simp [pop2]
theorem last1 {S : List M} (h : 1 ≤ S.length) : ∃ T g, S = T ++ [g] := by
  rcases List.eq_nil_or_concat S with rfl | ⟨T, g, rfl⟩
  · simp at h
  · exact ⟨T, g, by simp⟩
theorem last2 {S : List M} (h : 2 ≤ S.length) : ∃ T f g, S = T ++ [f, g] := by
  obtain ⟨T, g, rfl⟩ := last1 (S := S) (by omega)
  obtain ⟨U, f, rfl⟩ := last1 (S := T) (by simp at h; omega)
  exact ⟨U, f, g, by simp⟩
/-- Where the machine is, what lies on its stack of this rule, how many steps it took. -/
structure St where
  k : Nat
  S : List M
  n : Nat
section
variable (wk : Int → Bool) (day : Int)
def onD (x : In) : Bool := if x.op = 6 then wk x.a else decide (x.a ≤ day) && decide (day ≤ x.b)
def stepV (ev : Nat → M × Nat) (x : In) (s : St) : St :=
  if x.op = 1 then ⟨s.k + 1, s.S ++ [spM x.sp], s.n + 1⟩
  else if x.op = 2 then ⟨s.k + 1, pop2 unM s.S, s.n + 1⟩
  else if x.op = 3 then ⟨s.k + 1, pop2 dfM s.S, s.n + 1⟩
  else if x.op = 4 then ⟨s.k + 1, pop2 boM s.S, s.n + 1⟩
  else if x.op = 5 then ⟨s.k + 1, pop1 (fun f => shM f x.a) s.S, s.n + 1⟩
  else if x.op = 8 then ⟨s.k + 1, s.S ++ [(ev x.a.toNat).1], s.n + 1 + (ev x.a.toNat).2⟩
  else if onD wk day x = true then ⟨s.k + 1, s.S, s.n + 1⟩
  else ⟨x.to.toNat, s.S ++ [noM], s.n + 1⟩
def goV (ev : Nat → M × Nat) (l : List In) : Nat → St → St
  | 0, s => s
  | f + 1, s => match l[s.k]? with
    | none => s
    | some x => goV ev l f (stepV wk day ev x s)
def runV (ev : Nat → M × Nat) (l : List In) (s : St) : St := goV wk day ev l (l.length - s.k) s
def evV (cs : List Cd) : Nat → Nat → M × Nat
  | 0, _ => (noM, 0)
  | d + 1, r => ((runV wk day (evV cs d) (cs.getD r cd0).ins ⟨0, [], 0⟩).S.getD 0 noM, (runV wk day (evV cs d) (cs.getD r cd0).ins ⟨0, [], 0⟩).n)
end
/-- What is so at each place of a rule's code. -/
structure SInv (cs : List Cd) (l : List In) (s : St) : Prop where
  le : s.k ≤ l.length
  hi : (s.S.length : Int) = hAt l s.k
  st : (s.n : Int) ≤ stS cs l s.k
  on : s.k = 0 ∨ 1 ≤ s.n
variable {wk : Int → Bool} {day : Int} {ev : Nat → M × Nat} {cs : List Cd} {l : List In}
theorem SInv.nil : SInv cs l ⟨0, [], 0⟩ := ⟨Nat.zero_le _, by simp [hAt], by simp [stS], .inl rfl⟩
theorem stS_mono (h0 : ∀ i, 0 ≤ (cs.getD i cd0).steps) {j k : Nat} (h : j ≤ k) : stS cs l j ≤ stS cs l k := by
  obtain ⟨d, rfl⟩ := Nat.exists_eq_add_of_le h
  clear h
  induction d with
  | zero => exact Int.le_refl _
  | succ d ih =>
    refine Int.le_trans ih ?_
    show stS cs l (j + d) ≤ stS cs l ((j + d) + 1)
    simp only [stS]
    have := h0 (l.getD (j + d) in0).a.toNat
    split <;> omega
/-- The kinds that there are. -/
theorem ins_kinds {x : In} {k n r : Nat} (h : insE x k n r = 0) : x.op = 1 ∨ x.op = 2 ∨ x.op = 3 ∨ x.op = 4 ∨ x.op = 5 ∨ x.op = 8 ∨ isG x := by
  unfold insE at h
  unfold isG
  split at h
  · omega
  split at h
  · omega
  split at h
  · omega
  split at h
  · omega
  split at h
  · omega
  split at h
  · omega
  · simp at h
theorem SInv.step {s : St} {x : In} {r : Nat} (hs : SInv cs l s) (hw : WellV l) (hx : l[s.k]? = some x) (hi : insE x s.k l.length r = 0) (h0 : ∀ i, 0 ≤ (cs.getD i cd0).steps)
    (hev : x.op = 8 → ((ev x.a.toNat).2 : Int) ≤ (cs.getD x.a.toNat cd0).steps) : SInv cs l (stepV wk day ev x s) ∧ s.k < (stepV wk day ev x s).k := by
  have hk := (List.getElem?_eq_some_iff.1 hx).1
  have htk := hw.tk _ _ hx
  have hst := stS_step (cs := cs) hx
  have hht := hAt_step hx
  have a1 := hs.hi
  have a2 := hs.st
  rcases ins_kinds hi with ho | ho | ho | ho | ho | ho | ho
  · have e : stepV wk day ev x s = ⟨s.k + 1, s.S ++ [spM x.sp], s.n + 1⟩ := by simp [stepV, ho]
    rw [e]
    have : eff x = 1 := by simp [eff, ho]
    rw [if_neg (by omega)] at hst
    refine ⟨⟨by dsimp only; omega, ?_, ?_, .inr (by dsimp only; omega)⟩, by dsimp only; omega⟩
    · dsimp only; rw [List.length_append]; simp; omega
    · dsimp only; omega
  · have e : stepV wk day ev x s = ⟨s.k + 1, pop2 unM s.S, s.n + 1⟩ := by simp [stepV, ho]
    rw [e]
    have h1 : eff x = -1 := by simp [eff, ho]
    have h2 : tk x = 2 := by simp [tk, ho]
    obtain ⟨T, f, g, hS⟩ := last2 (S := s.S) (by omega)
    rw [if_neg (by omega)] at hst
    rw [hS] at a1
    simp at a1
    refine ⟨⟨by dsimp only; omega, ?_, ?_, .inr (by dsimp only; omega)⟩, by dsimp only; omega⟩
    · dsimp only; rw [hS, pop2_eq]; simp; omega
    · dsimp only; omega
  · have e : stepV wk day ev x s = ⟨s.k + 1, pop2 dfM s.S, s.n + 1⟩ := by simp [stepV, ho]
    rw [e]
    have h1 : eff x = -1 := by simp [eff, ho]
    have h2 : tk x = 2 := by simp [tk, ho]
    obtain ⟨T, f, g, hS⟩ := last2 (S := s.S) (by omega)
    rw [if_neg (by omega)] at hst
    rw [hS] at a1
    simp at a1
    refine ⟨⟨by dsimp only; omega, ?_, ?_, .inr (by dsimp only; omega)⟩, by dsimp only; omega⟩
    · dsimp only; rw [hS, pop2_eq]; simp; omega
    · dsimp only; omega
  · have e : stepV wk day ev x s = ⟨s.k + 1, pop2 boM s.S, s.n + 1⟩ := by simp [stepV, ho]
    rw [e]
    have h1 : eff x = -1 := by simp [eff, ho]
    have h2 : tk x = 2 := by simp [tk, ho]
    obtain ⟨T, f, g, hS⟩ := last2 (S := s.S) (by omega)
    rw [if_neg (by omega)] at hst
    rw [hS] at a1
    simp at a1
    refine ⟨⟨by dsimp only; omega, ?_, ?_, .inr (by dsimp only; omega)⟩, by dsimp only; omega⟩
    · dsimp only; rw [hS, pop2_eq]; simp; omega
    · dsimp only; omega
  · have e : stepV wk day ev x s = ⟨s.k + 1, pop1 (fun f => shM f x.a) s.S, s.n + 1⟩ := by simp [stepV, ho]
    rw [e]
    have h1 : eff x = 0 := by simp [eff, ho]
    have h2 : tk x = 1 := by simp [tk, ho]
    obtain ⟨T, g, hS⟩ := last1 (S := s.S) (by omega)
    rw [if_neg (by omega)] at hst
    rw [hS] at a1
    simp at a1
    refine ⟨⟨by dsimp only; omega, ?_, ?_, .inr (by dsimp only; omega)⟩, by dsimp only; omega⟩
    · dsimp only; rw [hS, pop1_eq]; simp; omega
    · dsimp only; omega
  · have e : stepV wk day ev x s = ⟨s.k + 1, s.S ++ [(ev x.a.toNat).1], s.n + 1 + (ev x.a.toNat).2⟩ := by simp [stepV, ho]
    rw [e]
    have h1 : eff x = 1 := by simp [eff, ho]
    have h3 := hev ho
    rw [if_pos ho] at hst
    refine ⟨⟨by dsimp only; omega, ?_, ?_, .inr (by dsimp only; omega)⟩, by dsimp only; omega⟩
    · dsimp only; rw [List.length_append]; simp; omega
    · dsimp only; omega
  · have hto := ins_to hi ho
    have hgt := hw.to _ _ hx ho
    have hs8 : ¬ x.op = 8 := by unfold isG at ho; omega
    rw [if_neg hs8] at hst
    have he : eff x = 0 := by
      unfold eff
      unfold isG at ho
      rw [if_neg (by omega), if_neg (by omega)]
    by_cases hd : onD wk day x = true
    · have e : stepV wk day ev x s = ⟨s.k + 1, s.S, s.n + 1⟩ := by
        unfold isG at ho
        unfold stepV
        rw [if_neg (by omega), if_neg (by omega), if_neg (by omega), if_neg (by omega), if_neg (by omega), if_neg (by omega), if_pos hd]
      rw [e]
      refine ⟨⟨by dsimp only; omega, ?_, ?_, .inr (by dsimp only; omega)⟩, by dsimp only; omega⟩
      · dsimp only; omega
      · dsimp only; omega
    · have e : stepV wk day ev x s = ⟨x.to.toNat, s.S ++ [noM], s.n + 1⟩ := by
        unfold isG at ho
        unfold stepV
        rw [if_neg (by omega), if_neg (by omega), if_neg (by omega), if_neg (by omega), if_neg (by omega), if_neg (by omega), if_neg hd]
      rw [e]
      have := stS_mono (l := l) h0 (show s.k + 1 ≤ x.to.toNat by omega)
      refine ⟨⟨by dsimp only; omega, ?_, ?_, .inr (by dsimp only; omega)⟩, by dsimp only; omega⟩
      · dsimp only; rw [List.length_append]; simp; omega
      · dsimp only; omega
theorem runV_end {s : St} (h : s.k = l.length) : runV wk day ev l s = s := by
  unfold runV
  rw [show l.length - s.k = 0 by omega]
  rfl
/-- Places only rise. -/
def Up (wk : Int → Bool) (day : Int) (ev : Nat → M × Nat) (l : List In) : Prop := ∀ s x, l[s.k]? = some x → s.k < (stepV wk day ev x s).k
theorem goV_more (hu : Up wk day ev l) : ∀ (f : Nat) (s : St), l.length - s.k ≤ f → goV wk day ev l f s = goV wk day ev l (l.length - s.k) s
  | 0, s, h => by rw [show l.length - s.k = 0 by omega]
  | f + 1, s, h => by
    cases hx : l[s.k]? with
    | none =>
      have : l.length ≤ s.k := List.getElem?_eq_none_iff.1 hx
      rw [show l.length - s.k = 0 by omega]
      simp [goV, hx]
    | some x =>
      have hk := (List.getElem?_eq_some_iff.1 hx).1
      obtain ⟨m, hm⟩ : ∃ m, l.length - s.k = m + 1 := ⟨l.length - s.k - 1, by omega⟩
      have hu1 := hu s x hx
      rw [hm]
      simp only [goV, hx]
      rw [goV_more hu f _ (by omega), goV_more hu m _ (by omega)]
theorem runV_step (hu : Up wk day ev l) {s : St} {x : In} (hx : l[s.k]? = some x) : runV wk day ev l s = runV wk day ev l (stepV wk day ev x s) := by
  have hk := (List.getElem?_eq_some_iff.1 hx).1
  obtain ⟨m, hm⟩ : ∃ m, l.length - s.k = m + 1 := ⟨l.length - s.k - 1, by omega⟩
  have hu1 := hu s x hx
  unfold runV
  rw [hm]
  simp only [goV, hx]
  rw [goV_more hu m _ (by omega)]
theorem up_of {r : Nat} (hi : ∀ (j : Nat) (x : In), l[j]? = some x → insE x j l.length r = 0) : Up wk day ev l := fun s x hx => by
  rcases ins_kinds (hi _ _ hx) with ho | ho | ho | ho | ho | ho | ho
  · simp [stepV, ho]
  · simp [stepV, ho]
  · simp [stepV, ho]
  · simp [stepV, ho]
  · simp [stepV, ho]
  · simp [stepV, ho]
  · have hto := ins_to (hi _ _ hx) ho
    unfold isG at ho
    unfold stepV
    rw [if_neg (by omega), if_neg (by omega), if_neg (by omega), if_neg (by omega), if_neg (by omega), if_neg (by omega)]
    split
    · dsimp only; omega
    · dsimp only; omega
/-- To the end. -/
theorem SInv.run {r : Nat} (hw : WellV l) (hi : ∀ (j : Nat) (x : In), l[j]? = some x → insE x j l.length r = 0) (h0 : ∀ i, 0 ≤ (cs.getD i cd0).steps)
    (hev : ∀ (j : Nat) (x : In), l[j]? = some x → x.op = 8 → ((ev x.a.toNat).2 : Int) ≤ (cs.getD x.a.toNat cd0).steps) : ∀ (f : Nat) (s : St), l.length - s.k ≤ f → SInv cs l s → SInv cs l (runV wk day ev l s) ∧ (runV wk day ev l s).k = l.length
  | f, s, hf, hs => by
    have hu : Up wk day ev l := up_of hi
    cases hx : l[s.k]? with
    | none =>
      have h1 : l.length ≤ s.k := List.getElem?_eq_none_iff.1 hx
      have h2 := hs.le
      rw [runV_end (by omega)]
      exact ⟨hs, by omega⟩
    | some x =>
      have hk := (List.getElem?_eq_some_iff.1 hx).1
      obtain ⟨h1, h2⟩ := hs.step (wk := wk) (day := day) (ev := ev) hw hx (hi _ _ hx) h0 (hev _ _ hx)
      rw [runV_step hu hx]
      cases f with
      | zero => omega
      | succ f => exact SInv.run hw hi h0 hev f _ (by omega) h1
theorem Right.steps0 (h : Right cs) (i : Nat) : 0 ≤ (cs.getD i cd0).steps := by
  cases hi : cs[i]? with
  | none => simp [List.getD, hi, cd0]
  | some c =>
    rw [cd_at hi]
    have := (alone_ins (h.alone i c hi)).2.1
    omega
theorem Right.call (h : Right cs) {i : Nat} {c : Cd} (hc : cs[i]? = some c) {j : Nat} {x : In} (hx : c.ins[j]? = some x) (ho : x.op = 8) : x.a.toNat < cs.length ∧ (x.a.toNat : Int) = x.a ∧ rk (callE cs) cs.length x.a.toNat < rk (callE cs) cs.length i := by
  have h1 := ins_call ((alone_ins (h.alone i c hc)).2.2 j x hx) ho
  have h2 : x.a.toNat < cs.length := by omega
  refine ⟨h2, by omega, rk_less h2 ?_ (h.cyc _ h2)⟩
  unfold callE
  rw [cd_at hc, List.any_eq_true]
  exact ⟨x, List.mem_of_getElem? hx, by simp [ho]; omega⟩
/-- Each rule's code leaves one mask, in one step at least, and no more than it says. -/
theorem Right.run (h : Right cs) : ∀ (d i : Nat) (c : Cd), cs[i]? = some c → rk (callE cs) cs.length i < d →
    1 ≤ (evV wk day cs d i).2 ∧ ((evV wk day cs d i).2 : Int) ≤ c.steps ∧ SInv cs c.ins (runV wk day (evV wk day cs (d - 1)) c.ins ⟨0, [], 0⟩) ∧ (runV wk day (evV wk day cs (d - 1)) c.ins ⟨0, [], 0⟩).k = c.ins.length ∧ (runV wk day (evV wk day cs (d - 1)) c.ins ⟨0, [], 0⟩).S = [(evV wk day cs d i).1] ∧ (runV wk day (evV wk day cs (d - 1)) c.ins ⟨0, [], 0⟩).n = (evV wk day cs d i).2
  | 0, _, _, _, hd => by omega
  | d + 1, i, c, hc, hd => by
    have ha := alone_ins (h.alone i c hc)
    have hf := h.fit i c hc
    have hrun := SInv.run (wk := wk) (day := day) (ev := evV wk day cs d) (cs := cs) hf.well ha.2.2 h.steps0 (fun j x hx ho => by
      obtain ⟨h1, _, h3⟩ := h.call hc hx ho
      have hg : cs[x.a.toNat]? = some cs[x.a.toNat] := List.getElem?_eq_getElem h1
      rw [cd_at hg]
      exact (h.run d _ _ hg (by omega)).2.1) c.ins.length ⟨0, [], 0⟩ (by simp) SInv.nil
    rw [Nat.add_sub_cancel]
    have e2 : evV wk day cs (d + 1) i = ((runV wk day (evV wk day cs d) c.ins ⟨0, [], 0⟩).S.getD 0 noM, (runV wk day (evV wk day cs d) c.ins ⟨0, [], 0⟩).n) := by
      rw [evV, cd_at hc]
    rw [e2]
    dsimp only
    generalize runV wk day (evV wk day cs d) c.ins ⟨0, [], 0⟩ = R at *
    obtain ⟨hI, hk⟩ := hrun
    have h1 := hI.hi
    have h2 := hI.st
    rw [hk] at h1 h2
    rw [hf.well.fin] at h1
    rw [hf.steps] at h2
    have h3 := hI.on
    refine ⟨by omega, h2, hI, hk, ?_, rfl⟩
    obtain ⟨T, g, hS⟩ := last1 (S := R.S) (by omega)
    rw [hS] at h1 ⊢
    have hT : T = [] := by
      apply List.eq_nil_of_length_eq_zero
      simp at h1
      omega
    subst hT
    simp
end Vx

/- What a cache keeps, plainly. -/
namespace Vx

/-- What is kept: a rule, a day, a version, a mask. -/
structure Kp where
  r : Int
  d : Int
  v : Int
  m : M
def k0 : Kp := ⟨0, 0, 0, noM⟩
/-- Where a rule's day is kept first; -1: nowhere. -/
def idxK (r d : Int) : List Kp → Nat → Int
  | [], _ => -1
  | k :: l, j => if k.r = r ∧ k.d = d then (j : Int) else idxK r d l (j + 1)
theorem idxK_step {r d : Int} {l : List Kp} {j : Nat} {k : Kp} (h : l[j]? = some k) (i : Nat) : idxK r d (l.drop j) i = if k.r = r ∧ k.d = d then (i : Int) else idxK r d (l.drop (j + 1)) (i + 1) := by
  have hj := (List.getElem?_eq_some_iff.1 h).1
  have e : l.drop j = k :: l.drop (j + 1) := by
    rw [List.drop_eq_getElem_cons hj]
    congr 1
    exact (List.getElem?_eq_some_iff.1 h).2
  rw [e]
  rfl
theorem idxK_ge (r d : Int) : ∀ (l : List Kp) (j : Nat), idxK r d l j = -1 ∨ ((j : Int) ≤ idxK r d l j ∧ idxK r d l j < (j : Int) + l.length)
  | [], _ => .inl rfl
  | k :: l, j => by
    unfold idxK
    by_cases h : k.r = r ∧ k.d = d
    · rw [if_pos h]
      refine .inr ⟨Int.le_refl _, ?_⟩
      rw [List.length_cons]
      omega
    · rw [if_neg h]
      rcases idxK_ge r d l (j + 1) with h1 | ⟨h1, h2⟩
      · exact .inl h1
      · refine .inr ⟨by omega, ?_⟩
        rw [List.length_cons]
        omega
/-- A list without what stands at a place, if it is one. -/
def dropAt (l : List Kp) (i : Int) : List Kp := if 0 ≤ i then l.take i.toNat ++ l.drop (i.toNat + 1) else l
def lastN (l : List Kp) : List Kp := l.drop (l.length - 64)
/-- Is this version's kept? -/
def hitK (l : List Kp) (v r d : Int) : Bool := decide (0 ≤ idxK r d l 0) && decide ((l.getD (idxK r d l 0).toNat k0).v = v)
theorem dropAt_len {l : List Kp} {i : Int} (h : i < l.length) : (dropAt l i).length ≤ l.length := by
  unfold dropAt
  split
  · simp; omega
  · exact Nat.le_refl _
theorem dropAt_len1 {l : List Kp} {i : Int} (h0 : 0 ≤ i) (h : i < l.length) : (dropAt l i).length + 1 = l.length := by
  unfold dropAt
  rw [if_pos h0]
  simp
  omega
end Vx

/- How great heights and steps can be, plainly. -/
namespace Vx
variable {cs : List Cd} {l : List In}
theorem eff_bd (x : In) : -1 ≤ eff x ∧ eff x ≤ 1 := by
  unfold eff
  split
  · omega
  · split <;> omega
theorem tk_bd (x : In) : 0 ≤ tk x ∧ tk x ≤ 2 := by
  unfold tk
  split
  · omega
  · split <;> omega
theorem hAt_bd : ∀ j : Nat, -(j : Int) ≤ hAt l j ∧ hAt l j ≤ j
  | 0 => by simp [hAt]
  | j + 1 => by
    have h1 := hAt_bd j
    have h2 := eff_bd (l.getD j in0)
    simp only [hAt]
    omega
theorem mxH_bd (hh : ∀ i, (cs.getD i cd0).high ≤ 100) : ∀ j : Nat, 0 ≤ mxH cs l j ∧ mxH cs l j ≤ j + 100
  | 0 => by simp [mxH]
  | j + 1 => by
    have h1 := mxH_bd hh j
    have h2 := hAt_bd (l := l) j
    have h3 := hAt_bd (l := l) (j + 1)
    have h4 := hh (l.getD j in0).a.toNat
    simp only [mxH]
    split <;> omega
theorem stS_bd (h0 : ∀ i, 0 ≤ (cs.getD i cd0).steps ∧ (cs.getD i cd0).steps ≤ 20000) : ∀ j : Nat, (j : Int) ≤ stS cs l j ∧ stS cs l j ≤ j * 20001
  | 0 => by simp [stS]
  | j + 1 => by
    have h1 := stS_bd h0 j
    have h4 := h0 (l.getD j in0).a.toNat
    simp only [stS]
    split <;> omega
theorem high_of (h : ∀ (i : Nat) (c : Cd), cs[i]? = some c → aloneE c cs.length = 0) (i : Nat) : (cs.getD i cd0).high ≤ 100 := by
  cases hi : cs[i]? with
  | none => simp [List.getD, hi, cd0]
  | some c =>
    rw [cd_at hi]
    have := (alone_ins (h i c hi)).2.1
    omega
theorem steps_of (h : ∀ (i : Nat) (c : Cd), cs[i]? = some c → aloneE c cs.length = 0) (i : Nat) : 0 ≤ (cs.getD i cd0).steps ∧ (cs.getD i cd0).steps ≤ 20000 := by
  cases hi : cs[i]? with
  | none => simp [List.getD, hi, cd0]
  | some c =>
    rw [cd_at hi]
    have := (alone_ins (h i c hi)).2.1
    omega
theorem tos_of {c : Cd} {r : Nat} (h : aloneE c r = 0) : Tos c.ins := fun j x hx hg => ins_to ((alone_ins h).2.2 j x hx) hg
/-- Does a height go with what is known of a place? -/
def agB (L : List (Int × Int)) (p h : Int) : Bool := match lk L p with
  | none => true
  | some v => decide (v = h)
theorem agB_true {L : List (Int × Int)} {p h : Int} (e : agB L p h = true) : ∀ v, lk L p = some v → v = h := fun v hv => by
  unfold agB at e
  rw [hv] at e
  simpa using e
theorem agB_false {L : List (Int × Int)} {p h : Int} (e : agB L p h = false) : ∃ v, lk L p = some v ∧ v ≠ h := by
  unfold agB at e
  cases hl : lk L p with
  | none => rw [hl] at e; cases e
  | some v => rw [hl] at e; exact ⟨v, rfl, by simpa using e⟩
theorem agB_iff {L : List (Int × Int)} {p h : Int} : agB L p h = true ↔ ∀ v, lk L p = some v → v = h := by
  constructor
  · exact agB_true
  · intro hh
    cases e : agB L p h with
    | true => rfl
    | false =>
      obtain ⟨v, h1, h2⟩ := agB_false e
      exact absurd (hh v h1) h2
end Vx

/- Codes that are asked first, plainly. -/
namespace Vx
def al8 : List Cd := [⟨[⟨1, 0, 0, 0, [(5, 9)]⟩, ⟨1, 0, 0, 0, [(7, 12)]⟩, ⟨2, 0, 0, 0, []⟩], 2, 3⟩]
def al9 : List Cd := [⟨[⟨1, 0, 0, 0, [(5, 9)]⟩], 1, 1⟩]
theorem al8_fit : FitV al8 (al8.getD 0 cd0) := by
  refine ⟨⟨fun j x hx => ?_, fun j x hx hg => ?_, by decide⟩, by decide, by decide⟩
  · match j, hx with
    | 0, hx => cases Option.some.inj hx; decide
    | 1, hx => cases Option.some.inj hx; decide
    | 2, hx => cases Option.some.inj hx; decide
    | j + 3, hx => simp [al8] at hx
  · unfold isG at hg
    match j, hx with
    | 0, hx => cases Option.some.inj hx; exact absurd hg (by decide)
    | 1, hx => cases Option.some.inj hx; exact absurd hg (by decide)
    | 2, hx => cases Option.some.inj hx; exact absurd hg (by decide)
    | j + 3, hx => simp [al8] at hx
theorem al9_fit : FitV al9 (al9.getD 0 cd0) := by
  refine ⟨⟨fun j x hx => ?_, fun j x hx hg => ?_, by decide⟩, by decide, by decide⟩
  · match j, hx with
    | 0, hx => cases Option.some.inj hx; decide
    | j + 1, hx => simp [al9] at hx
  · unfold isG at hg
    match j, hx with
    | 0, hx => cases Option.some.inj hx; exact absurd hg (by decide)
    | j + 1, hx => simp [al9] at hx
theorem al8_late : lateE al8 0 = 0 := by
  unfold lateE
  rw [if_neg (by decide), if_pos (fitB_iff.2 al8_fit)]
theorem al9_late : lateE al9 0 = 0 := by
  unfold lateE
  rw [if_neg (by decide), if_pos (fitB_iff.2 al9_fit)]
theorem al8_wrong : wrongV al8 = (0, 0) := by
  unfold wrongV
  rw [if_neg (by decide), if_neg (by decide)]
  show firstF (lateE al8) 1 0 = (0, 0)
  simp [firstF, al8_late]
theorem al9_wrong : wrongV al9 = (0, 0) := by
  unfold wrongV
  rw [if_neg (by decide), if_neg (by decide)]
  show firstF (lateE al9) 1 0 = (0, 0)
  simp [firstF, al9_late]
theorem al8_ev (wk : Int → Bool) (day : Int) : evV wk day al8 2 0 = (unM (spM [(5, 9)]) (spM [(7, 12)]), 3) := rfl
theorem al9_ev (wk : Int → Bool) (day : Int) : evV wk day al9 2 0 = (spM [(5, 9)], 1) := rfl
theorem al8_cnt : Msk.cnt (unM (spM [(5, 9)]) (spM [(7, 12)])) 1440 = 7 := by decide +kernel
theorem al9_cnt : Msk.cnt (spM [(5, 9)]) 1440 = 4 := by decide +kernel
/-- What a run leaves is minutes of the day. -/
def dayM (f : M) : Prop := ∀ i, 1440 ≤ i → f i = false
theorem dayM_step {wk : Int → Bool} {day : Int} {ev : Nat → M × Nat} (hev : ∀ r, dayM (ev r).1) {x : In} {s : St} (h : ∀ f ∈ s.S, dayM f) : ∀ f ∈ (stepV wk day ev x s).S, dayM f := by
  have h2 : ∀ F : M → M → M, (∀ f g, dayM (F f g)) → ∀ f ∈ pop2 F s.S, dayM f := fun F hF f hf => by
    unfold pop2 at hf
    split at hf
    · rename_i g f' T hr
      rw [List.mem_append, List.mem_singleton] at hf
      rcases hf with hf | rfl
      · have : f ∈ s.S := by
          have : f ∈ s.S.reverse := by rw [hr]; simp at hf; simp [hf]
          simpa using this
        exact h f this
      · exact hF _ _
    · simp at hf
  have h1 : ∀ F : M → M, (∀ f, dayM (F f)) → ∀ f ∈ pop1 F s.S, dayM f := fun F hF f hf => by
    unfold pop1 at hf
    split at hf
    · rename_i g T hr
      rw [List.mem_append, List.mem_singleton] at hf
      rcases hf with hf | rfl
      · have : f ∈ s.S := by
          have : f ∈ s.S.reverse := by rw [hr]; simp at hf; simp [hf]
          simpa using this
        exact h f this
      · exact hF _
    · simp at hf
  have ha : ∀ g, dayM g → ∀ f ∈ s.S ++ [g], dayM f := fun g hg f hf => by
    rw [List.mem_append, List.mem_singleton] at hf
    rcases hf with hf | rfl
    · exact h f hf
    · exact hg
  unfold stepV
  split
  · exact ha _ fun i hi => by
      unfold spM
      rw [List.any_eq_false]
      intro s _
      simp
      omega
  split
  · exact h2 _ fun f g i hi => by simp [unM]; omega
  split
  · exact h2 _ fun f g i hi => by simp [dfM]; omega
  split
  · exact h2 _ fun f g i hi => by simp [boM]; omega
  split
  · exact h1 _ fun f i hi => by simp [shM]; omega
  split
  · exact ha _ (hev _)
  split
  · exact h
  · exact ha _ fun i _ => rfl
theorem dayM_go {wk : Int → Bool} {day : Int} {ev : Nat → M × Nat} (hev : ∀ r, dayM (ev r).1) {l : List In} : ∀ (f : Nat) (s : St), (∀ g ∈ s.S, dayM g) → ∀ g ∈ (goV wk day ev l f s).S, dayM g
  | 0, _, h => h
  | f + 1, s, h => by
    unfold goV
    split
    · exact h
    · exact dayM_go hev f _ (dayM_step hev h)
theorem dayM_ev {wk : Int → Bool} {day : Int} {cs : List Cd} : ∀ (d r : Nat), dayM (evV wk day cs d r).1
  | 0, _ => fun _ _ => rfl
  | d + 1, r => by
    have h := dayM_go (wk := wk) (day := day) (ev := evV wk day cs d) (dayM_ev d) (l := (cs.getD r cd0).ins) ((cs.getD r cd0).ins.length - 0) ⟨0, [], 0⟩ (fun g hg => by simp at hg)
    show dayM ((runV wk day (evV wk day cs d) (cs.getD r cd0).ins ⟨0, [], 0⟩).S.getD 0 noM)
    unfold runV
    generalize (goV wk day (evV wk day cs d) (cs.getD r cd0).ins ((cs.getD r cd0).ins.length - 0) ⟨0, [], 0⟩).S = L at *
    cases L with
    | nil => intro i _; rfl
    | cons f T => exact h f (by simp)
end Vx

/- A machine with frames, plainly. -/
namespace Vx
variable {wk : Int → Bool} {day : Int} {cs : List Cd} {l : List In}
theorem stepV_congr {ev ev' : Nat → M × Nat} {x : In} (h : x.op = 8 → ev x.a.toNat = ev' x.a.toNat) (s : St) : stepV wk day ev x s = stepV wk day ev' x s := by
  by_cases ho : x.op = 8
  · simp only [stepV, ho]
    rw [h ho]
  · simp only [stepV, ho, if_false]
theorem goV_congr {ev ev' : Nat → M × Nat} (h : ∀ (j : Nat) (x : In), l[j]? = some x → x.op = 8 → ev x.a.toNat = ev' x.a.toNat) : ∀ (f : Nat) (s : St), goV wk day ev l f s = goV wk day ev' l f s
  | 0, _ => rfl
  | f + 1, s => by
    unfold goV
    cases hx : l[s.k]? with
    | none => rfl
    | some x =>
      dsimp only
      rw [stepV_congr (h _ _ hx) s, goV_congr h f]
theorem runV_congr {ev ev' : Nat → M × Nat} (h : ∀ (j : Nat) (x : In), l[j]? = some x → x.op = 8 → ev x.a.toNat = ev' x.a.toNat) (s : St) : runV wk day ev l s = runV wk day ev' l s := goV_congr h _ s
/-- How deep one looks does not matter. -/
theorem ev_indep (hR : Right cs) : ∀ (d d' i : Nat), i < cs.length → rk (callE cs) cs.length i < d → rk (callE cs) cs.length i < d' → evV wk day cs d i = evV wk day cs d' i
  | 0, _, _, _, h, _ => by omega
  | _ + 1, 0, _, _, _, h => by omega
  | d + 1, d' + 1, i, hi, h1, h2 => by
    have hu : cs[i]? = some cs[i] := List.getElem?_eq_getElem hi
    have e : ∀ s, runV wk day (evV wk day cs d) (cs.getD i cd0).ins s = runV wk day (evV wk day cs d') (cs.getD i cd0).ins s := fun s => by
      refine runV_congr (fun j x hx ho => ?_) s
      rw [cd_at hu] at hx
      obtain ⟨q1, _, q3⟩ := hR.call hu hx ho
      exact ev_indep hR d d' _ q1 (by omega) (by omega)
    rw [evV, evV, e]
/-- Steps that were taken ahead are counted besides. -/
theorem stepV_shift {ev : Nat → M × Nat} {x : In} (k : Nat) (S : List M) (n m : Nat) : stepV wk day ev x ⟨k, S, n + m⟩ = ⟨(stepV wk day ev x ⟨k, S, n⟩).k, (stepV wk day ev x ⟨k, S, n⟩).S, (stepV wk day ev x ⟨k, S, n⟩).n + m⟩ := by
  unfold stepV
  dsimp only
  split
  · simp; omega
  split
  · simp; omega
  split
  · simp; omega
  split
  · simp; omega
  split
  · simp; omega
  split
  · simp; omega
  split
  · simp; omega
  · simp; omega
theorem goV_shift {ev : Nat → M × Nat} : ∀ (f k : Nat) (S : List M) (n m : Nat), goV wk day ev l f ⟨k, S, n + m⟩ = ⟨(goV wk day ev l f ⟨k, S, n⟩).k, (goV wk day ev l f ⟨k, S, n⟩).S, (goV wk day ev l f ⟨k, S, n⟩).n + m⟩
  | 0, _, _, _, _ => rfl
  | f + 1, k, S, n, m => by
    unfold goV
    dsimp only
    cases hx : l[k]? with
    | none => rfl
    | some x =>
      dsimp only
      rw [stepV_shift]
      obtain ⟨k', S', n'⟩ := stepV wk day ev x ⟨k, S, n⟩
      exact goV_shift f k' S' n' m
theorem runV_shift {ev : Nat → M × Nat} (k : Nat) (S : List M) (n m : Nat) : runV wk day ev l ⟨k, S, n + m⟩ = ⟨(runV wk day ev l ⟨k, S, n⟩).k, (runV wk day ev l ⟨k, S, n⟩).S, (runV wk day ev l ⟨k, S, n⟩).n + m⟩ := goV_shift _ k S n m
/-- A rule that is come to, with what is its own on the stack. -/
structure Fr where
  r : Nat
  k : Nat
  S : List M
section
variable (wk : Int → Bool) (day : Int) (cs : List Cd)
def evD : Nat → M × Nat := evV wk day cs (cs.length + 1)
def runF (r : Nat) (s : St) : St := runV wk day (evD wk day cs) (cs.getD r cd0).ins s
def contV : List Fr → M → Nat → M × Nat
  | [], m, n => (m, n)
  | f :: F, m, n => contV F ((runF wk day cs f.r ⟨f.k, f.S ++ [m], n⟩).S.getD 0 noM) (runF wk day cs f.r ⟨f.k, f.S ++ [m], n⟩).n
/-- What comes of frames, the last one first. -/
def topV : List Fr → Nat → M × Nat
  | [], n => (noM, n)
  | f :: F, n => contV wk day cs F ((runF wk day cs f.r ⟨f.k, f.S, n⟩).S.getD 0 noM) (runF wk day cs f.r ⟨f.k, f.S, n⟩).n
end
/-- The whole of a rule's code. -/
theorem runF_whole (hR : Right cs) {r : Nat} (hr : r < cs.length) (n : Nat) : runF wk day cs r ⟨0, [], n⟩ = ⟨(cs.getD r cd0).ins.length, [(evD wk day cs r).1], n + (evD wk day cs r).2⟩ := by
  have hu : cs[r]? = some cs[r] := List.getElem?_eq_getElem hr
  have hk := rk_le (callE cs) cs.length r
  obtain ⟨_, _, h3, h4, h5, h6⟩ := hR.run (wk := wk) (day := day) (cs.length + 1) r _ hu (by omega)
  rw [Nat.add_sub_cancel] at h3 h4 h5 h6
  have e : runF wk day cs r ⟨0, [], 0⟩ = runV wk day (evV wk day cs cs.length) cs[r].ins ⟨0, [], 0⟩ := by
    unfold runF evD
    rw [cd_at hu]
    refine runV_congr (fun j x hx ho => ?_) _
    obtain ⟨q1, _, q3⟩ := hR.call hu hx ho
    exact ev_indep hR _ _ _ q1 (by omega) (by omega)
  have e2 : runF wk day cs r ⟨0, [], n⟩ = ⟨(runF wk day cs r ⟨0, [], 0⟩).k, (runF wk day cs r ⟨0, [], 0⟩).S, (runF wk day cs r ⟨0, [], 0⟩).n + n⟩ := by
    have := runV_shift (wk := wk) (day := day) (l := (cs.getD r cd0).ins) (ev := evD wk day cs) 0 [] 0 n
    rw [Nat.zero_add] at this
    exact this
  rw [e2, e, h4, h5, h6, cd_at hu]
  unfold evD
  rw [Nat.add_comm _ n]
end Vx

/- What is so of frames, plainly, round by round. -/
namespace Vx
variable {wk : Int → Bool} {day : Int} {cs : List Cd} {l : List In}
theorem stepV_kS {ev : Nat → M × Nat} {x : In} (k : Nat) (S : List M) (n m : Nat) : (stepV wk day ev x ⟨k, S, n⟩).k = (stepV wk day ev x ⟨k, S, m⟩).k ∧ (stepV wk day ev x ⟨k, S, n⟩).S = (stepV wk day ev x ⟨k, S, m⟩).S := by
  unfold stepV
  dsimp only
  split
  · exact ⟨rfl, rfl⟩
  split
  · exact ⟨rfl, rfl⟩
  split
  · exact ⟨rfl, rfl⟩
  split
  · exact ⟨rfl, rfl⟩
  split
  · exact ⟨rfl, rfl⟩
  split
  · exact ⟨rfl, rfl⟩
  split
  · exact ⟨rfl, rfl⟩
  · exact ⟨rfl, rfl⟩
theorem stepV_ge {ev : Nat → M × Nat} {x : In} (s : St) : s.n + 1 ≤ (stepV wk day ev x s).n := by
  unfold stepV
  split
  · exact Nat.le_refl _
  split
  · exact Nat.le_refl _
  split
  · exact Nat.le_refl _
  split
  · exact Nat.le_refl _
  split
  · exact Nat.le_refl _
  split
  · exact Nat.le_add_right _ _
  split
  · exact Nat.le_refl _
  · exact Nat.le_refl _
theorem goV_ge {ev : Nat → M × Nat} : ∀ (f : Nat) (s : St), s.n ≤ (goV wk day ev l f s).n
  | 0, _ => Nat.le_refl _
  | f + 1, s => by
    unfold goV
    split
    · exact Nat.le_refl _
    · have h1 := stepV_ge (wk := wk) (day := day) (ev := ev) (x := by assumption) s
      exact Nat.le_trans (by omega) (goV_ge f _)
theorem runF_ge (r : Nat) (s : St) : s.n ≤ (runF wk day cs r s).n := goV_ge _ _
theorem contV_ge : ∀ (F : List Fr) (m : M) (n : Nat), n ≤ (contV wk day cs F m n).2
  | [], _, _ => Nat.le_refl _
  | f :: F, m, n => Nat.le_trans (runF_ge (wk := wk) (day := day) (cs := cs) f.r ⟨f.k, f.S ++ [m], n⟩) (contV_ge F _ _)
theorem topV_ge (F : List Fr) (n : Nat) : n ≤ (topV wk day cs F n).2 := by
  cases F with
  | nil => exact Nat.le_refl _
  | cons f F => exact Nat.le_trans (runF_ge (wk := wk) (day := day) (cs := cs) f.r ⟨f.k, f.S, n⟩) (contV_ge F _ _)
/-- Code of a rule. -/
abbrev insR (cs : List Cd) (r : Nat) : List In := (cs.getD r cd0).ins
/-- A frame at which a rule is on. -/
structure FrOK (cs : List Cd) (f : Fr) (d : Int) : Prop where
  r : f.r < cs.length
  k : f.k ≤ (insR cs f.r).length
  S : (f.S.length : Int) + d = hAt (insR cs f.r) f.k
/-- Frames, the last one first. -/
structure FInv (wk : Int → Bool) (day : Int) (cs : List Cd) (m : M) (N : Nat) (f : Fr) (G : List Fr) (n : Nat) : Prop where
  top : FrOK cs f 0
  rest : ∀ g ∈ G, FrOK cs g 1
  val : topV wk day cs (f :: G) n = (m, N)
  len : G.length ≤ n
theorem FInv.le {m : M} {N : Nat} {f : Fr} {G : List Fr} {n : Nat} (h : FInv wk day cs m N f G n) : n ≤ N := by
  have := topV_ge (wk := wk) (day := day) (cs := cs) (f :: G) n
  rw [h.val] at this
  exact this
theorem Right.at (hR : Right cs) {r : Nat} (hr : r < cs.length) : ∃ c, cs[r]? = some c ∧ insR cs r = c.ins ∧ WellV c.ins ∧ (∀ (j : Nat) (x : In), c.ins[j]? = some x → insE x j c.ins.length cs.length = 0) ∧ c.ins.length ≤ 2000 := by
  have hu : cs[r]? = some cs[r] := List.getElem?_eq_getElem hr
  have ha := alone_ins (hR.alone r _ hu)
  exact ⟨cs[r], hu, by unfold insR; rw [cd_at hu], (hR.fit r _ hu).well, ha.2.2, ha.1.2⟩
/-- An instruction that calls none. -/
theorem FInv.step (hR : Right cs) {m : M} {N : Nat} {f : Fr} {G : List Fr} {n : Nat} (h : FInv wk day cs m N f G n) {x : In} (hx : (insR cs f.r)[f.k]? = some x) (ho : x.op ≠ 8) :
    FInv wk day cs m N ⟨f.r, (stepV wk day (evD wk day cs) x ⟨f.k, f.S, n⟩).k, (stepV wk day (evD wk day cs) x ⟨f.k, f.S, n⟩).S⟩ G (n + 1) ∧ (stepV wk day (evD wk day cs) x ⟨f.k, f.S, n⟩).n = n + 1 := by
  obtain ⟨c, hc, hci, hw, hie, _⟩ := hR.at h.top.r
  have hsn : (stepV wk day (evD wk day cs) x ⟨f.k, f.S, n⟩).n = n + 1 := by
    unfold stepV
    split
    · rfl
    split
    · rfl
    split
    · rfl
    split
    · rfl
    split
    · rfl
    split
    · rfl
    · rfl
  have hx' : c.ins[f.k]? = some x := by rw [← hci]; exact hx
  have hst0 := stS_bd (l := c.ins) (steps_of hR.alone) f.k
  have hI : SInv cs c.ins ⟨f.k, f.S, (stS cs c.ins f.k).toNat⟩ := by
    refine ⟨by have := h.top.k; rw [hci] at this; exact this, by have := h.top.S; rw [hci] at this; dsimp only; omega, by dsimp only; omega, ?_⟩
    dsimp only
    omega
  obtain ⟨hI2, _⟩ := hI.step (wk := wk) (day := day) (ev := evD wk day cs) hw hx' (hie _ _ hx') hR.steps0 (fun e => absurd e ho)
  obtain ⟨e1, e2⟩ := stepV_kS (wk := wk) (day := day) (ev := evD wk day cs) (x := x) f.k f.S (stS cs c.ins f.k).toNat n
  have hup : Up wk day (evD wk day cs) (insR cs f.r) := by rw [hci]; exact up_of hie
  refine ⟨⟨⟨h.top.r, ?_, ?_⟩, h.rest, ?_, by have := h.len; omega⟩, hsn⟩
  · dsimp only
    rw [hci, ← e1]
    exact hI2.le
  · dsimp only
    rw [hci, ← e1, ← e2]
    have := hI2.hi
    omega
  · rw [← h.val]
    show contV wk day cs G _ _ = contV wk day cs G _ _
    have hrun : runF wk day cs f.r ⟨f.k, f.S, n⟩ = runF wk day cs f.r ⟨(stepV wk day (evD wk day cs) x ⟨f.k, f.S, n⟩).k, (stepV wk day (evD wk day cs) x ⟨f.k, f.S, n⟩).S, n + 1⟩ := by
      unfold runF
      rw [runV_step hup hx]
      congr 1
      rw [← hsn]
    dsimp only
    rw [hrun]
/-- A call. -/
theorem FInv.call (hR : Right cs) {m : M} {N : Nat} {f : Fr} {G : List Fr} {n : Nat} (h : FInv wk day cs m N f G n) {x : In} (hx : (insR cs f.r)[f.k]? = some x) (ho : x.op = 8) :
    FInv wk day cs m N ⟨x.a.toNat, 0, []⟩ (⟨f.r, f.k + 1, f.S⟩ :: G) (n + 1) ∧ x.a.toNat < cs.length ∧ (x.a.toNat : Int) = x.a := by
  obtain ⟨c, hc, hci, hw, hie, _⟩ := hR.at h.top.r
  have hx' : c.ins[f.k]? = some x := by rw [← hci]; exact hx
  obtain ⟨q1, q2, _⟩ := hR.call hc hx' ho
  have hup : Up wk day (evD wk day cs) (insR cs f.r) := by rw [hci]; exact up_of hie
  have hk := (List.getElem?_eq_some_iff.1 hx').1
  have hh := hAt_step hx'
  have he : eff x = 1 := by simp [eff, ho]
  refine ⟨⟨⟨q1, Nat.zero_le _, by simp [hAt]⟩, fun g hg => ?_, ?_, by have := h.len; simp; omega⟩, q1, q2⟩
  · rw [List.mem_cons] at hg
    rcases hg with rfl | hg
    · refine ⟨h.top.r, by dsimp only; rw [hci]; omega, ?_⟩
      have := h.top.S
      dsimp only
      rw [hci] at this ⊢
      omega
    · exact h.rest g hg
  · rw [← h.val]
    have e1 : stepV wk day (evD wk day cs) x ⟨f.k, f.S, n⟩ = ⟨f.k + 1, f.S ++ [(evD wk day cs x.a.toNat).1], n + 1 + (evD wk day cs x.a.toNat).2⟩ := by simp [stepV, ho]
    show contV wk day cs (⟨f.r, f.k + 1, f.S⟩ :: G) _ _ = contV wk day cs G _ _
    dsimp only
    rw [runF_whole hR q1 (n + 1)]
    show contV wk day cs G ((runF wk day cs f.r ⟨f.k + 1, f.S ++ [(evD wk day cs x.a.toNat).1], n + 1 + (evD wk day cs x.a.toNat).2⟩).S.getD 0 noM) (runF wk day cs f.r ⟨f.k + 1, f.S ++ [(evD wk day cs x.a.toNat).1], n + 1 + (evD wk day cs x.a.toNat).2⟩).n = _
    have hrun : runF wk day cs f.r ⟨f.k, f.S, n⟩ = runF wk day cs f.r ⟨f.k + 1, f.S ++ [(evD wk day cs x.a.toNat).1], n + 1 + (evD wk day cs x.a.toNat).2⟩ := by
      unfold runF
      rw [runV_step hup hx, e1]
    rw [hrun]
/-- A rule's end. -/
theorem FInv.one (hR : Right cs) {m : M} {N : Nat} {f : Fr} {G : List Fr} {n : Nat} (h : FInv wk day cs m N f G n) (hk : f.k = (insR cs f.r).length) : ∃ g, f.S = [g] := by
  obtain ⟨c, hc, hci, hw, hie, _⟩ := hR.at h.top.r
  have h1 := h.top.S
  rw [hk, hci, hw.fin] at h1
  obtain ⟨T, g, hS⟩ := last1 (S := f.S) (by omega)
  rw [hS] at h1 ⊢
  have hT : T = [] := by
    apply List.eq_nil_of_length_eq_zero
    simp at h1
    omega
  exact ⟨g, by rw [hT]; rfl⟩
theorem runF_end {f : Fr} (hk : f.k = (insR cs f.r).length) (n : Nat) : runF wk day cs f.r ⟨f.k, f.S, n⟩ = ⟨f.k, f.S, n⟩ := runV_end hk
theorem FInv.last {m : M} {N : Nat} {f : Fr} {n : Nat} {g : M} (h : FInv wk day cs m N f [] n) (hk : f.k = (insR cs f.r).length) (hS : f.S = [g]) : g = m ∧ n = N := by
  have := h.val
  simp only [topV, contV] at this
  rw [runF_end hk, hS] at this
  exact ⟨congrArg Prod.fst this, congrArg Prod.snd this⟩
theorem FInv.pop {m : M} {N : Nat} {f f' : Fr} {G : List Fr} {n : Nat} {g : M} (h : FInv wk day cs m N f (f' :: G) n) (hk : f.k = (insR cs f.r).length) (hS : f.S = [g]) : FInv wk day cs m N ⟨f'.r, f'.k, f'.S ++ [g]⟩ G n := by
  have h1 := h.rest f' (by simp)
  refine ⟨⟨h1.r, h1.k, ?_⟩, fun q hq => h.rest q (List.mem_cons_of_mem _ hq), ?_, by have := h.len; simp at this; omega⟩
  · have := h1.S
    dsimp only
    rw [List.length_append]
    simp
    omega
  · have := h.val
    simp only [topV, contV] at this ⊢
    rw [runF_end hk, hS] at this
    exact this
/-- What lies on the stack. -/
def stk : List Fr → List M
  | [] => []
  | f :: F => stk F ++ f.S
theorem FInv.start (hR : Right cs) {r : Nat} (hr : r < cs.length) : FInv wk day cs (evD wk day cs r).1 (evD wk day cs r).2 ⟨r, 0, []⟩ [] 0 := by
  refine ⟨⟨hr, Nat.zero_le _, by simp [hAt]⟩, fun g hg => (by cases hg), ?_, Nat.le_refl _⟩
  simp only [topV, contV]
  rw [runF_whole hR hr 0]
  simp
end Vx

/- A mask as the program holds it: an array of words; what its cells are, and what the bits' operations make of words. -/
namespace Go.Proofs.Ytaeengpppehlfaa
open Go.RowKit Msk

/-- The cells of a mask whose bits are f's. -/
def mv (f : Nat → Bool) : Array Value := Array.ofFn (n := 23) fun k => Value.int .u64 (wd f k.val : Int)

theorem mv_size (f : Nat → Bool) : (mv f).size = 23 := by simp [mv]
theorem mv_get (f : Nat → Bool) (k : Nat) (hk : k < 23) : (mv f)[k]? = some (.int .u64 (wd f k : Int)) := by
  simp [mv, hk]
theorem mv_all (f : Nat → Bool) : (mv f).all (·.oneCell') = true := by
  rw [Array.all_eq_true]
  intro i hi
  simp [mv, Value.oneCell']
theorem mv_ext {f g : Nat → Bool} (h : ∀ i, i < 1472 → f i = g i) : mv f = mv g := by
  unfold mv
  congr 1
  funext k
  have hk := k.isLt
  rw [wd_ext (f := f) (g := g) fun j hj => h _ (by omega)]
theorem mv_set (f g : Nat → Bool) (k : Nat) (hk : k < 23) : (mv f).setIfInBounds k (.int .u64 (wd g k : Int)) = mv (fun i => if i / 64 = k then g i else f i) := by
  apply Array.ext_getElem?
  intro i
  rw [Array.getElem?_setIfInBounds]
  by_cases hi : k = i
  · subst hi
    rw [if_pos rfl, if_pos (by rw [mv_size]; exact hk), mv_get _ k hk]
    rw [wd_ext (f := g) (g := fun i => if i / 64 = k then g i else f i) fun j hj => by rw [if_pos (by omega)]]
  · rw [if_neg hi]
    by_cases hlt : i < 23
    · rw [mv_get _ i hlt, mv_get _ i hlt]
      rw [wd_ext (f := f) (g := fun i => if i / 64 = k then g i else f i) fun j hj => by rw [if_neg (by omega)]]
    · rw [Array.getElem?_eq_none (by rw [mv_size]; omega), Array.getElem?_eq_none (by rw [mv_size]; omega)]
theorem mv_zero : mv (fun _ => false) = Array.replicate 23 (.int .u64 0) := by
  apply Array.ext_getElem?
  intro i
  by_cases hlt : i < 23
  · rw [mv_get _ i hlt, wd_zero]; simp [hlt]
  · rw [Array.getElem?_eq_none (by rw [mv_size]; omega)]; simp [hlt]
theorem mv_lit : (#[.int .u64 0, .int .u64 0, .int .u64 0, .int .u64 0, .int .u64 0, .int .u64 0, .int .u64 0, .int .u64 0, .int .u64 0, .int .u64 0, .int .u64 0, .int .u64 0, .int .u64 0, .int .u64 0, .int .u64 0, .int .u64 0, .int .u64 0, .int .u64 0, .int .u64 0, .int .u64 0, .int .u64 0, .int .u64 0, .int .u64 0] : Array Value) = mv (fun _ => false) := by rw [mv_zero]; rfl
/-- The cells of a mask that came in. -/
theorem mv_of (m : Nat → Nat) (h : ∀ k, k < 23 → m k < 18446744073709551616) : (Array.ofFn (n := 23) fun k => Value.int .u64 (m k.val : Int)) = mv (fun i => (m (i / 64)).testBit (i % 64)) := by
  unfold mv
  congr 1
  funext k
  rw [← wd_of m h k.val k.isLt]

theorem andNot_nat (a b : Nat) (ha : a < 18446744073709551616) (hb : b < 18446744073709551616) :
    bits .andNot .u64 (a : Int) (b : Int) = ((a &&& (18446744073709551616 - (b + 1)) : Nat) : Int) := by
  have h1 : (BitVec.ofInt 64 (a : Int)).toNat = a := by
    rw [BitVec.ofInt_natCast, BitVec.toNat_ofNat]; exact Nat.mod_eq_of_lt (by omega)
  have h2 : (BitVec.ofInt 64 (b : Int)).toNat = b := by
    rw [BitVec.ofInt_natCast, BitVec.toNat_ofNat]; exact Nat.mod_eq_of_lt (by omega)
  have hx : a &&& (18446744073709551616 - (b + 1)) ≤ a := Nat.and_le_left
  show IntKind.u64.wrap ((BitVec.ofInt 64 (a : Int) &&& ~~~ BitVec.ofInt 64 (b : Int)).toNat : Int) = _
  have e : (2 : Nat) ^ 64 - 1 - b = 18446744073709551616 - (b + 1) := by omega
  rw [BitVec.toNat_and, BitVec.toNat_not, h1, h2, IntKind.wrap_u64, e]
  omega

theorem last_word : (4294967295 : Nat) = wd (fun i => decide (i < 1440)) 22 := by
  refine wd_eq _ 22 _ (by omega) fun j hj => ?_
  have e : (4294967295 : Nat) = 2 ^ 32 - 1 := by decide
  rw [e, ones_bit]
  have : (j < 32) = (64 * 22 + j < 1440) := by apply propext; omega
  simp only [this]
/-- What is cut off behind the last minute. -/
theorem mv_trim (f : Nat → Bool) : (mv f).setIfInBounds 22 (.int .u64 (bits .and .u64 (wd f 22 : Int) 4294967295)) = mv fun i => f i && decide (i < 1440) := by
  have e : bits .and .u64 (wd f 22 : Int) 4294967295 = ((wd (fun i => f i && decide (i < 1440)) 22 : Nat) : Int) := by
    have := bits_and_u64_nat (wd f 22) 4294967295 (wd_lt f 22) (by omega)
    rw [← wd_and f (fun i => decide (i < 1440)) 22, ← last_word]
    exact this
  rw [e, mv_set _ _ 22 (by omega)]
  refine mv_ext fun i hi => ?_
  by_cases h : i / 64 = 22
  · rw [if_pos h]
  · rw [if_neg h]
    have : i < 1440 := by omega
    simp [this]

/-- A cell of a mask that lies in a block. -/
theorem cell_mv {w : World} {g : Nat} {f : Nat → Bool} {t : TypeId} (hg : w.heap[g]? = some (.cells (mv f) t (0, 0))) (k : Nat) (hk : k < 23) : w.cell? ⟨g, k, none⟩ = some (.int .u64 (wd f k : Int)) := by
  rw [cell_of_row w g k _ t (0, 0) hg, mv_get f k hk]
/-- A cell of another block than the one that was written. -/
theorem cell_set_far (w : World) (a : Addr) (v : Value) (p : Addr) (h : p.block ≠ a.block) : (w.setCell a v).drew.cell? p = w.cell? p :=
  World.cell?_of_block (w := w) (Below.heap_setCell w a v p.block h)
/-- A loop that fills a mask word by word. -/
theorem mv_start (h : Nat → Bool) : mv (fun _ => false) = mv (fun i => decide (i < 64 * 0) && h i) := mv_ext fun i _ => by simp
theorem mv_step (k : Nat) (hk : k < 23) (h : Nat → Bool) : (mv fun i => decide (i < 64 * k) && h i).setIfInBounds k (.int .u64 (wd h k : Int)) = mv fun i => decide (i < 64 * (k + 1)) && h i := by
  rw [mv_set _ _ k hk]
  refine mv_ext fun i hi => ?_
  by_cases h : i / 64 = k
  · have : i < 64 * (k + 1) := by omega
    simp [h, this]
  · have : (i < 64 * k) = (i < 64 * (k + 1)) := by apply propext; omega
    simp only [h, if_false, this]
theorem mv_full (h : Nat → Bool) : (mv fun i => decide (i < 64 * 23) && h i) = mv h := mv_ext fun i hi => by
  have : i < 64 * 23 := by omega
  simp [this]
/-- Cells in a block, said otherwise. -/
theorem blk_eq {w : World} {g : Nat} {c c' : Array Value} {t : TypeId} (hg : w.heap[g]? = some (.cells c t (0, 0))) (e : c = c') : w.heap[g]? = some (.cells c' t (0, 0)) := by rw [hg, e]
theorem size_alloc (w : World) (o : Obj) : (w.alloc o).heap.size = w.heap.size + 1 := by show (w.heap.push o).size = _; simp
theorem blk_new (w : World) (o : Obj) (k : Nat) (h : k = w.heap.size) : (w.alloc o).heap[k]? = some o := by subst h; exact heap_alloc_new w o
theorem blk_old (w : World) (o : Obj) (k : Nat) (h : k < w.heap.size) {x : Obj} (hx : w.heap[k]? = some x) : (w.alloc o).heap[k]? = some x := (Below.heap_alloc w o k h).trans hx
theorem hpush (w : World) (o : Obj) : (w.alloc o).heap = w.heap.push o := rfl

/-- The type of masks, its size and its zero value. -/
theorem maskSize (f : Nat → Bool) : (Try.prog.info? 25).map (·.size) = some (mv f).size := by rw [mv_size]; kernel_rfl
theorem maskType : Try.prog.underlying 25 = some (.array 23 23) := by kernel_rfl

end Go.Proofs.Ytaeengpppehlfaa

/- What the small functions on numbers come to: ones, wordEnd, and the library's OnesCount64 and TrailingZeros64. -/
namespace Go.Proofs.Ytaeengpppehlfaa
open Go.RowKit Msk

theorem ret_val {v v' : Value} (h : v = v') : Ending.returned v = .returned v' := by rw [h]
theorem int_eq {k : IntKind} {a b : Int} (h : a = b) : Value.int k a = .int k b := by rw [h]

theorem ones_num (n : Nat) (hn : n ≤ 64) : IntKind.u64.wrap (IntKind.u64.wrap (2 ^ n) - 1) = ((2 ^ n - 1 : Nat) : Int) := by
  rw [IntKind.wrap_u64, IntKind.wrap_u64]
  have hp : (1 : Nat) ≤ 2 ^ n := Nat.two_pow_pos n
  have hc : ((2 : Int) ^ n) = ((2 ^ n : Nat) : Int) := by simp
  rw [hc]
  by_cases h : n = 64
  · subst h; decide
  · have hl : 2 ^ n ≤ 2 ^ 63 := Nat.pow_le_pow_right (by omega) (by omega)
    generalize 2 ^ n = p at *
    omega
theorem ones_any (n : Nat) (hn : n ≤ 64) (w : World) : Calls Try.prog 83 #[.int .i64 n] w fun e w' => e = .returned (.int .u64 ((2 ^ n - 1 : Nat) : Int)) ∧ w' = w := by
  go_enter Try.func83, Try.ntmps83
  go_wp2
  go_ret
  exact ⟨ret_val (int_eq (ones_num n hn)), rfl⟩
theorem ones_at (d : Int) (h0 : 0 ≤ d) (h1 : d ≤ 64) (w : World) : Calls Try.prog 83 #[.int .i64 d] w fun e w' => e = .returned (.int .u64 ((2 ^ d.toNat - 1 : Nat) : Int)) ∧ w' = w := by
  have := ones_any d.toNat (by omega) w
  rw [Int.toNat_of_nonneg h0] at this
  exact this
theorem wordEnd_any (n : Nat) (hn : n ≤ 1440) (w : World) : Calls Try.prog 82 #[.int .i64 n] w fun e w' => e = .returned (.int .i64 ((64 * (n / 64) + 64 : Nat) : Int)) ∧ w' = w := by
  go_enter Try.func82, Try.ntmps82
  go_wp2
  go_ret
  exact ⟨ret_val (int_eq (by omega)), rfl⟩

theorem bits_and_i64_nat (a b : Nat) (ha : a < 9223372036854775808) (hb : b < 9223372036854775808) :
    bits .and .i64 (a : Int) (b : Int) = ((a &&& b : Nat) : Int) := by
  have hx : a &&& b < 2 ^ 63 := Nat.and_lt_two_pow _ (by omega)
  have h1 : (BitVec.ofInt 64 (a : Int)).toNat = a := by
    rw [BitVec.ofInt_natCast, BitVec.toNat_ofNat]; exact Nat.mod_eq_of_lt (by omega)
  have h2 : (BitVec.ofInt 64 (b : Int)).toNat = b := by
    rw [BitVec.ofInt_natCast, BitVec.toNat_ofNat]; exact Nat.mod_eq_of_lt (by omega)
  show IntKind.i64.wrap ((BitVec.ofInt 64 (a : Int) &&& BitVec.ofInt 64 (b : Int)).toNat : Int) = _
  rw [BitVec.toNat_and, h1, h2, IntKind.wrap_i64]
  omega

/-- The library's rounds, one by one, as the walk writes them. -/
theorem pop_chain (x : Nat) (hx : x < 18446744073709551616) : ∃ y z d a b c : Nat, c < 9223372036854775808 ∧
    IntKind.u64.wrap (bits .and .u64 ((x : Int) / 2) 6148914691236517205 + bits .and .u64 (x : Int) 6148914691236517205) = (y : Int) ∧
    IntKind.u64.wrap (bits .and .u64 ((y : Int) / 4) 3689348814741910323 + bits .and .u64 (y : Int) 3689348814741910323) = (z : Int) ∧
    bits .and .u64 (IntKind.u64.wrap ((z : Int) / 16 + (z : Int))) 1085102592571150095 = (d : Int) ∧
    IntKind.u64.wrap ((d : Int) + (d : Int) / 256) = (a : Int) ∧ IntKind.u64.wrap ((a : Int) + (a : Int) / 65536) = (b : Int) ∧
    IntKind.u64.wrap ((b : Int) + (b : Int) / 4294967296) = (c : Int) ∧ bits .and .i64 (c : Int) 127 = ((cnt (fun j => x.testBit j) 64 : Nat) : Int) := by
  obtain ⟨e1, h1, t1, r1⟩ := pop_one x hx
  obtain ⟨e2, h2, t2, r2⟩ := pop_two e1 h1
  obtain ⟨e3, h3, t3, l3, r3⟩ := pop_three e2 h2
  obtain ⟨a, b, c, ha, la, hb, lb, hc, lc, hs⟩ := pop_last e3 h3
  have ly : dig e1 2 32 < 2 ^ (2 * 32) := dig_lt e1 2 32 fun i _ => by have := h1 i; omega
  simp only [Nat.reduceMul, Nat.reducePow] at ly
  rw [t3, t2, t1] at hs
  clear t1 t2 t3 h1 h2 h3
  generalize dig e1 2 32 = y at *
  generalize dig e2 4 16 = z at *
  generalize dig e3 8 8 = d at *
  have lz : z < 18446744073709551616 := by omega
  have q1 := bits_and_u64_nat (x / 2) 6148914691236517205 (by omega) (by omega)
  have q2 := bits_and_u64_nat x 6148914691236517205 hx (by omega)
  have q3 := bits_and_u64_nat (y / 4) 3689348814741910323 (by omega) (by omega)
  have q4 := bits_and_u64_nat y 3689348814741910323 ly (by omega)
  have q5 := bits_and_u64_nat (z / 16 + z) 1085102592571150095 l3 (by omega)
  have q6 := bits_and_i64_nat c 127 lc (by omega)
  have q7 : c &&& 127 = c % 128 := Nat.and_two_pow_sub_one_eq_mod c 7
  refine ⟨y, z, d, a, b, c, lc, ?_, ?_, ?_, ?_, ?_, ?_, ?_⟩
  · have e : ((x / 2 : Nat) : Int) = (x : Int) / 2 := by omega
    have e' : ((6148914691236517205 : Nat) : Int) = 6148914691236517205 := rfl
    rw [e, e'] at q1; rw [e'] at q2
    rw [q1, q2, IntKind.wrap_u64]
    omega
  · have e : ((y / 4 : Nat) : Int) = (y : Int) / 4 := by omega
    have e' : ((3689348814741910323 : Nat) : Int) = 3689348814741910323 := rfl
    rw [e, e'] at q3; rw [e'] at q4
    rw [q3, q4, IntKind.wrap_u64]
    omega
  · have e : IntKind.u64.wrap ((z : Int) / 16 + (z : Int)) = ((z / 16 + z : Nat) : Int) := by rw [IntKind.wrap_u64]; omega
    have e' : ((1085102592571150095 : Nat) : Int) = 1085102592571150095 := rfl
    rw [e'] at q5
    rw [e, q5, r3]
  · rw [IntKind.wrap_u64]; omega
  · rw [IntKind.wrap_u64]; omega
  · rw [IntKind.wrap_u64]; omega
  · have e' : ((127 : Nat) : Int) = 127 := rfl
    rw [e'] at q6
    rw [q6, q7, hs]

theorem pop_any (x : Nat) (hx : x < 18446744073709551616) (w : World) : Calls Try.prog 61 #[.int .u64 x] w fun e w' => e = .returned (.int .i64 ((cnt (fun j => x.testBit j) 64 : Nat) : Int)) ∧ w' = w := by
  obtain ⟨y, z, d, a, b, c, lc, s1, s2, s3, s4, s5, s6, s7⟩ := pop_chain x hx
  generalize cnt (fun j => x.testBit j) 64 = n at *
  go_enter Try.func61, Try.ntmps61
  go_wp2
  go_ret
  exact ⟨rfl, rfl⟩

theorem tz_key (x a : Nat) (hx : x < 18446744073709551616) (hx0 : x ≠ 0) (hlow : x &&& (18446744073709551616 - x) = a) :
    IntKind.u64.wrap (bits BinOp.and IntKind.u64 (x : Int) (IntKind.u64.wrap (-(x : Int))) * 285870213051353865) / 288230376151711744 = ((a * 285870213051353865 % 18446744073709551616 / 288230376151711744 : Nat) : Int) := by
  have e1 : IntKind.u64.wrap (-(x : Int)) = ((18446744073709551616 - x : Nat) : Int) := by rw [IntKind.wrap_u64]; omega
  rw [e1, bits_and_u64_nat x _ hx (by omega), hlow, IntKind.wrap_u64]
  omega
end Go.Proofs.Ytaeengpppehlfaa
