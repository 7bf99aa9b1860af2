/- What the laws' own question of check comes to: true. -/
import Derived.Test.YtllcpoibnmhghaaGreatDoorTb33
import Derived.Test.YtllcpoibnmhghaaGreatDoorTb06
import Derived.Laws.AppendOwnNone
import Derived.Test.YtllcpoibnmhghaaGreatDoorTb35
import Derived.Test.YtllcpoibnmhghaaGreatDoorTb28
import Derived.Test.YtllcpoibnmhghaaGreatDoorTb32
import Derived.Laws.OwnMore
namespace Go.Proofs.YtllcpoibnmhghaaGreatDoor
open Go.RowKit Lx
end Go.Proofs.YtllcpoibnmhghaaGreatDoor

/- An operation whose guard is met, as one without a guard; rows appended to a row. It speaks of no program. -/
namespace Go.Proofs.YtllcpoibnmhghaaGreatDoor
open Go.RowKit

theorem wpList_free {P : Program} {w : World} {ops : Array Oper} {rest : List Oper} {o : Oper} {a : Act} {Q : Exit → Act → World → Prop} (hw : Region.wanted o (yielded ops a.tmps) = true) (h : wpList P ops Q ({ o with guard := none } :: rest) a w) : wpList P ops Q (o :: rest) a w := by
  have e : ({ o with guard := none } : Oper).wp P a w (wpList P ops Q rest) Q = o.wp P a w (wpList P ops Q rest) Q := by cases o; rfl
  have e2 : ({ o with guard := none } : Oper).asks P a w = o.asks P a w := by cases o; rfl
  rw [wpList] at h ⊢
  rw [if_pos hw]
  rw [if_pos (by rfl), e, e2] at h
  exact h
/-- A row appended to a row of the call's own, under a guard that is met. -/
theorem wpList_append_rows_g {P : Program} {w : World} {ops : Array Oper} {rest : List Oper} {o : Oper} {a : Act} {Q : Exit → Act → World → Prop} (hw : Region.wanted o (yielded ops a.tmps) = true) (s x : Operand) (t : TypeId)
    (ho : o.op = .call { callee := .builtin .append, args := #[s, x], argTypes := #[t, t] })
    (base base' : Nat) (e : TypeId) (i : TypeInfo) (z : Value) (size bytes : Nat) (ht : P.underlying t = some (.slice e)) (hi : P.info? e = some i) (hz : i.zero = some z)
    (hsize : i.size = size) (hby : i.bytes = bytes) (hzs : z.cells.size = size) (hsz : 0 < size)
    (v : Value) (n : Nat) (xs : List Value) (hs : a.eval s = v) (hown : w.ownsRow base e size v n xs)
    (vx : Value) (m : Nat) (news : List Value) (hx : a.eval x = vx) (hox : w.ownsRow base' e size vx m news) (h1 : ∀ u ∈ news, u.oneCell' = true)
    (h63 : n + m ≤ maxLen) (hbytes : (n + m) * bytes ≤ 140737488355328) (hbase : base ≤ w.heap.size)
    (h : ∀ v' w', w'.ownsRow base e size v' (n + m) (xs ++ news) → w.grownBy w' v.ownBlock → wpList P ops Q rest (a.put o.dst v') w') : wpList P ops Q (o :: rest) a w := by
  refine wpList_free hw ?_
  have hox' := hox
  obtain ⟨hl, h2⟩ := hox
  rcases h2 with ⟨rfl, rfl⟩ | ⟨g, cap, cur, rfl, hb, hh, r1, r2, r3, r4⟩
  · have e0 : news = [] := List.length_eq_zero_iff.1 (by omega)
    subst e0
    refine wpList_append_own_none rfl s x t ho base e i size ht hi v n xs hs hown hx (h v w (by rw [List.append_nil]; exact hown) ⟨rfl, rfl, rfl, Nat.le_refl _, fun _ _ _ => rfl⟩)
  · refine wpList_append_own w rfl s x t ho base e i z size bytes ht hi hz hsize hby hzs hsz v n xs hs hown ⟨g, 0, none⟩ m cap news hx hl (hox'.cells rfl) h1 h63 hbytes hbase fun v' w' h2 h3 _ => h v' w' h2 h3
end Go.Proofs.YtllcpoibnmhghaaGreatDoor

/- Rules that came in, appended to a row of the call's own. -/
namespace Go.Proofs.YtllcpoibnmhghaaGreatDoor
open Go.RowKit Lx
theorem flatR_len : ∀ us : List (Ru × Value), (flatR us).length = us.length * 6
  | [] => rfl
  | p :: us => by simp [flatR, flatR_len us]; omega
theorem flatR_oneC (us : List (Ru × Value)) (hf : ∀ p ∈ us, ∃ q n c, p.2 = .slice q n c) : ∀ u ∈ flatR us, u.oneCell' = true := by
  induction us with
  | nil => intro u hu; simp [flatR] at hu
  | cons p us ih =>
    intro u hu
    obtain ⟨q, n, c, e⟩ := hf p List.mem_cons_self
    simp only [flatR, e, List.mem_cons] at hu
    rcases hu with rfl | rfl | rfl | rfl | rfl | rfl | hu
    · rfl
    · rfl
    · rfl
    · rfl
    · rfl
    · rfl
    · exact ih (fun p hp => hf p (List.mem_cons_of_mem _ hp)) u hu
theorem flatR_cells {w : World} {g : Nat} : ∀ (us : List (Ru × Value)) (o : Nat), (∀ (j : Nat) (p : Ru × Value), us[j]? = some p → w.cell? ⟨g, o + j * 6, none⟩ = some (.string ⟨p.1.1.toArray⟩) ∧ w.cell? ⟨g, o + j * 6 + 1, none⟩ = some (.int .i64 p.1.2.kind) ∧ w.cell? ⟨g, o + j * 6 + 2, none⟩ = some (.int .i64 p.1.2.a) ∧ w.cell? ⟨g, o + j * 6 + 3, none⟩ = some (.int .i64 p.1.2.b) ∧
      w.cell? ⟨g, o + j * 6 + 4, none⟩ = some (.string ⟨p.1.2.name.toArray⟩) ∧ w.cell? ⟨g, o + j * 6 + 5, none⟩ = some p.2) → ∀ (j : Nat) (u : Value), (flatR us)[j]? = some u → w.cell? ⟨g, o + j, none⟩ = some u
  | [], _, _, j, u, h => by simp [flatR] at h
  | p :: us, o, hc, j, u, h => by
    obtain ⟨h0, h1, h2, h3, h4, h5⟩ := hc 0 p rfl
    simp only [Nat.zero_mul, Nat.add_zero] at h0 h1 h2 h3 h4 h5
    match j, h with
    | 0, h => cases h; exact h0
    | 1, h => cases h; exact h1
    | 2, h => cases h; exact h2
    | 3, h => cases h; exact h3
    | 4, h => cases h; exact h4
    | 5, h => cases h; exact h5
    | j + 6, h =>
      have := flatR_cells us (o + 6) (fun q p' hq => by
        have := hc (q + 1) p' (by simpa using hq)
        rw [show o + (q + 1) * 6 = o + 6 + q * 6 by omega] at this
        exact this) j u (by simpa [flatR] using h)
      rw [show o + (j + 6) = o + 6 + j by omega]
      exact this
theorem wpList_append_in {w : World} {ops : Array Oper} {rest : List Oper} {o : Oper} {a : Act} {Q : Exit → Act → World → Prop} (hgd : o.guard = none) (s x : Operand)
    (ho : o.op = .call { callee := .builtin .append, args := #[s, x], argTypes := #[22, 22] }) (base : Nat) (i : TypeInfo) (hi : Tryz.prog.info? 38 = some i) (hz : i.zero = some (.agg #[.string ⟨#[]⟩, .int .i64 0, .int .i64 0, .int .i64 0, .string ⟨#[]⟩, .slice none 0 0])) (hsize : i.size = 6) (hby : i.bytes = 80)
    (v : Value) (n : Nat) (xs : List Value) (hs : a.eval s = v) (hown : w.ownsRow base 38 6 v n xs) (us : List (Ru × Value)) (pv : Option Addr) (cv : Nat) (hx : a.eval x = .slice pv us.length cv) (hin : InR w (.slice pv us.length cv) us) (hp : pv = none → cv = 0)
    (h63 : n + us.length ≤ maxLen) (hbytes : (n + us.length) * 80 ≤ 140737488355328) (hbase : base ≤ w.heap.size)
    (h : ∀ v' w', w'.ownsRow base 38 6 v' (n + us.length) (xs ++ flatR us) → w.grownBy w' v.ownBlock → wpList Tryz.prog ops Q rest (a.put o.dst v') w') : wpList Tryz.prog ops Q (o :: rest) a w := by
  have hf := flatR_oneC us fun p hp => by
    obtain ⟨_, _, d, hd⟩ := hin.all p hp
    obtain ⟨q, c, e⟩ := hd.form
    exact ⟨q, _, c, e⟩
  have hc := hin.cells
  cases pv with
  | none =>
    have e0 : us = [] := by
      cases us with
      | nil => rfl
      | cons p us =>
        obtain ⟨_, _, e, _⟩ := hc 0 p rfl
        cases e
    subst e0
    rw [hp rfl] at hx
    exact wpList_append_own_none hgd s x 22 ho base 38 i 6 rulesType hi v n xs hs hown hx (h v w (by rw [flatR, List.append_nil]; exact hown) ⟨rfl, rfl, rfl, Nat.le_refl _, fun _ _ _ => rfl⟩)
  | some ad =>
    refine wpList_append_own w hgd s x 22 ho base 38 i _ 6 80 rulesType hi hz hsize hby rfl (by decide) v n xs hs hown ad us.length cv (flatR us) hx (flatR_len us) (fun j u hj => ?_) hf h63 hbytes hbase fun v' w' h2 h3 _ => h v' w' h2 h3
    cases us with
    | nil => simp [flatR] at hj
    | cons p0 us =>
      obtain ⟨g, o', e, _⟩ := hc 0 p0 rfl
      obtain rfl := Option.some.inj e
      have t := flatR_cells (p0 :: us) o' (fun q p hq => by
        obtain ⟨g', o'', e', hh⟩ := hc q p hq
        cases e'
        exact hh) j u hj
      by_cases hj0 : j = 0
      · subst hj0
        simpa [Addr.add] using t
      · simpa [Addr.add, hj0] using t
end Go.Proofs.YtllcpoibnmhghaaGreatDoor

/- A region that draws its order, whose values are known beforehand; what is said of the world hangs on what has been done. It speaks of no program. -/
namespace Go.Proofs.YtllcpoibnmhghaaGreatDoor
open Go Go.RowKit
section
variable {P : Program} {ops : Array Oper} {Q : Exit → Act → World → Prop} {id : Nat} {a0 : Act} {w : World}
/-- What has been done was ready. -/
def ClosL (ops : Array Oper) (L : Nat → Bool) : Prop := ∀ (j : Nat) (p : Oper), ops[j]? = some p → L j = true → ∀ e ∈ p.after, Region.binds .any e = true → L e.on = true
/-- What an operation of the region comes to. -/
def StepL (P : Program) (ops : Array Oper) (Q : Exit → Act → World → Prop) (ds : List (Option Nat × Value)) (a0 : Act) (J : (Nat → Bool) → World → Prop) : Prop :=
  ∀ (i : Nat) (d : Option Nat) (v : Value) (o : Oper) (L : Nat → Bool) (A : Act) (W : World), ops[i]? = some o → ds[i]? = some (d, v) → L i = false → (∀ e ∈ o.after, Region.binds .any e = true → L e.on = true) → ClosL ops L → J L W →
    (∀ s, notDst ops s = true → A.tmps.getD s undef = a0.tmps.getD s undef) → (∀ (j s : Nat) (u : Value), ds[j]? = some (some s, u) → L j = true → A.tmps.getD s undef = u) → wpOp P ops Q i (fun a' W' => a' = A.put d v ∧ J (fun k => decide (i = k) || L k) W') A W
theorem clos_lt {m : Nat} (hu : useB (ops.extract 0 (m + 1)) = true) (hm : m < ops.size) {L : Nat → Bool} (hc : ClosL ops L) {i : Nat} (hi : i < m) (hL : L i = false) : L m = false := by
  cases h : L m with
  | false => rfl
  | true =>
    have hs : (ops.extract 0 (m + 1)).size = m + 1 := by simp; omega
    have hex : ∀ (j : Nat) (p : Oper), (ops.extract 0 (m + 1))[j]? = some p → ops[j]? = some p := fun j p hp => by
      rw [Array.getElem?_extract] at hp
      split at hp
      · simpa using hp
      · cases hp
    have := use_all hu hs (L := L) (fun j p hp hj => hc j p (hex j p hp) hj) h m i (by omega) (by omega)
    rw [this] at hL; cases hL
theorem wp_region_JL (J : (Nat → Bool) → World → Prop) (hJ0 : ∀ L : Nat → Bool, (∀ i, i < ops.size → L i = false) → J L w.drew) (hm : P.follows .mixedOrders = true) (hback : backB ops = true) (hdst : dstB ops = true) (hin : inB ops a0.tmps.size = true) (ds : List (Option Nat × Value)) (es : List (Nat × Value))
    (hds : ops.toList.map (fun o => o.dst) = ds.map (fun p => p.1)) (hes : ds.filterMap (fun p => p.1.map fun s => (s, p.2)) = es) (hnd : decide ((es.map (fun p => p.1)).Nodup) = true)
    (hstep : StepL P ops Q ds a0 J) (hend : ∀ (L : Nat → Bool) (W : World), (∀ i, i < ops.size → L i = true) → J L W → Q .normal (putAll es a0) W) : (Code.region id ops true).wp P Q a0 w := by
  have hl : ds.length = ops.size := by
    have h := congrArg List.length hds
    simpa using h.symm
  have atD : ∀ {j : Nat} {p : Oper}, ops[j]? = some p → ∃ v, ds[j]? = some (p.dst, v) := fun {j p} hp => by
    have h1 : (ops.toList.map (fun o => o.dst))[j]? = some p.dst := by
      rw [List.getElem?_map, Array.getElem?_toList, hp]
      rfl
    rw [hds, List.getElem?_map] at h1
    cases hs : ds[j]? with
    | none => rw [hs] at h1; cases h1
    | some q =>
      rw [hs] at h1
      exact ⟨q.2, by rw [← Option.some.inj h1]⟩
  have atO : ∀ {j : Nat} {d : Option Nat} {v : Value}, ds[j]? = some (d, v) → ∃ p, ops[j]? = some p ∧ p.dst = d := fun {j d v} hj => by
    have hj' := (List.getElem?_eq_some_iff.1 hj).1
    obtain ⟨p, hp⟩ : ∃ p, ops[j]? = some p := ⟨ops[j]'(by omega), Array.getElem?_eq_getElem _⟩
    obtain ⟨v', hv'⟩ := atD hp
    rw [hj] at hv'
    exact ⟨p, hp, (congrArg Prod.fst (Option.some.inj hv')).symm⟩
  refine wp_region_flow hm hback hdst hin (fun L _ W => ClosL ops L ∧ J L W) (fun j x _ => ∀ d v, ds[j]? = some (d, v) → x = v) ?_ ?_ ?_
  · intro L h
    refine ⟨fun j p hp hj => ?_, hJ0 L h⟩
    have := h j (Array.getElem?_eq_some_iff.1 hp).1
    rw [this] at hj; cases hj
  · intro i o L A W ho hLi hdep hJ hdef hkept hhas
    obtain ⟨hc, hJ⟩ := hJ
    have hc' : ClosL ops (fun k => decide (i = k) || L k) := by
      intro j p hp hj e he hb
      show (decide (i = e.on) || L e.on) = true
      by_cases hij : i = j
      · subst hij
        rw [ho] at hp
        cases hp
        rw [hdep e he hb]; simp
      · rw [hc j p hp (by simpa [hij] using hj) e he hb]; simp
    obtain ⟨v, hv⟩ := atD ho
    refine wpOp_mono ?_ (hstep i o.dst v o L A W ho hv hLi hdep hc hJ (fun s' h => hkept s' fun j p hp _ => nd h j p hp) fun j s u hj hL => ?_)
    · rintro a' W' ⟨rfl, hJ'⟩
      exact ⟨v, rfl, fun _ d' v' h => by rw [hv] at h; exact congrArg Prod.snd (Option.some.inj h), fun _ _ _ h => h, hc', hJ'⟩
    · obtain ⟨p, hp, hd⟩ := atO hj
      exact hhas j p hp hL s hd _ _ hj
  · intro L A W hL hJ hdef hsize hkept hhas
    have e : A = putAll es a0 := by
      refine act_is es hdef hsize (by
        have := of_decide_eq_true hnd
        rw [show es.map (fun p => some p.1) = (es.map (fun p => p.1)).map some by rw [List.map_map]; rfl]
        rw [List.nodup_iff_pairwise_ne] at this ⊢
        rw [List.pairwise_map]
        exact this.imp fun hab e => hab (Option.some.inj e)) (fun s h => hkept s fun j p hp e => ?_) (fun j s v hj => ?_)
      · obtain ⟨v, hv⟩ := atD hp
        refine h (s, v) ?_ rfl
        rw [← hes, List.mem_filterMap]
        exact ⟨_, List.mem_of_getElem? hv, by rw [e]; rfl⟩
      · have hm' := List.mem_of_getElem? hj
        rw [← hes, List.mem_filterMap] at hm'
        obtain ⟨q, hq, hqe⟩ := hm'
        obtain ⟨k, hk⟩ := List.getElem?_of_mem hq
        obtain ⟨d, v'⟩ := q
        cases d with
        | none => cases hqe
        | some t =>
          have h2 := Option.some.inj hqe
          have h3 : t = s := congrArg Prod.fst h2
          have h4 : v' = v := congrArg Prod.snd h2
          subst h3 h4
          obtain ⟨p, hp, hd⟩ := atO hk
          exact hhas k p hp t hd _ _ hk
    rw [e]
    exact hend L W hL hJ.2
/-- Ahead of an operation this is said of the world, and behind it that. -/
def JJ (m : Nat) (Pre Post : World → Prop) (L : Nat → Bool) (W : World) : Prop := (L m = false → Pre W) ∧ (L m = true → Post W)
variable {m : Nat} {Pre Post : World → Prop} {L : Nat → Bool} {W W' : World} {i : Nat}
theorem JJ.start (hm : m < ops.size) (h : Pre W) (hL : ∀ i, i < ops.size → L i = false) : JJ m Pre Post L W := ⟨fun _ => h, fun e => by rw [hL m hm] at e; cases e⟩
theorem JJ.keep (h : JJ m Pre Post L W) (hi : i ≠ m) : JJ m Pre Post (fun k => decide (i = k) || L k) W := ⟨fun e => h.1 (by simpa [hi] using e), fun e => h.2 (by simpa [hi] using e)⟩
theorem JJ.low (hi : i ≠ m) (hL : L m = false) (h : Pre W') : JJ m Pre Post (fun k => decide (i = k) || L k) W' := ⟨fun _ => h, fun e => by simp [hi, hL] at e⟩
theorem JJ.both {R : Prop} (h : JJ m Pre Post L W) (h1 : Pre W → R) (h2 : Post W → R) : R := by
  cases hL : L m with
  | false => exact h1 (h.1 hL)
  | true => exact h2 (h.2 hL)
theorem JJ.done (h : Post W') : JJ m Pre Post (fun k => decide (m = k) || L k) W' := ⟨fun e => by simp at e, fun _ => h⟩
end
end Go.Proofs.YtllcpoibnmhghaaGreatDoor

/- A region that draws its order, whose values are told by sayings that hang on what has been done; the last operation waits for all. It speaks of no program. -/
namespace Go.Proofs.YtllcpoibnmhghaaGreatDoor
open Go Go.RowKit
section
variable {P : Program} {ops : Array Oper} {Q : Exit → Act → World → Prop} {id : Nat} {a0 : Act} {w : World}
/-- What an operation of the region comes to, in whatever world of which that is said. -/
def StepQ (P : Program) (ops : Array Oper) (Q : Exit → Act → World → Prop) (sl : List Nat) (a0 : Act) (J : World → Prop) (sp : (Nat → Bool) → Nat → Value → World → Prop) : Prop :=
  ∀ (i s : Nat) (o : Oper) (L : Nat → Bool) (A : Act) (W : World), ops[i]? = some o → sl[i]? = some s → L i = false → (∀ e ∈ o.after, Region.binds .any e = true → L e.on = true) → ClosL ops L → J W →
    (∀ s, notDst ops s = true → A.tmps.getD s undef = a0.tmps.getD s undef) → (∀ (j s : Nat), sl[j]? = some s → L j = true → sp L j (A.tmps.getD s undef) W) →
    wpOp P ops Q i (fun a' W' => ∃ v, a' = A.put (some s) v ∧ sp (fun k => decide (i = k) || L k) i v W' ∧ J W' ∧ ∀ j u, j ≠ i → j < sl.length → L j = true → sp L j u W → sp (fun k => decide (i = k) || L k) j u W') A W
theorem wp_region_lastQ (J : World → Prop) (sp : (Nat → Bool) → Nat → Value → World → Prop) (hJ0 : J w.drew) (hm : P.follows .mixedOrders = true) (hback : backB ops = true) (hdst : dstB ops = true) (hin : inB ops a0.tmps.size = true) (n : Nat) (hn : ops.size = n + 1) (huse : useB ops = true) (sl : List Nat)
    (hds : (ops.toList.take n).map (fun o => o.dst) = sl.map some) (hnd : decide (((ops.toList.take n).map (fun o => o.dst)).Nodup) = true)
    (hstep : StepQ P ops Q sl a0 J sp) (hlast : ∀ (o : Oper) (L : Nat → Bool) (W : World) (A : Act), ops[n]? = some o → (∀ i, i < n → L i = true) → J W → (∀ (j s : Nat), sl[j]? = some s → sp L j (A.tmps.getD s undef) W) → (∀ s, notDst ops s = true → A.tmps.getD s undef = a0.tmps.getD s undef) →
      (∀ ds : List (Nat × Value), ds.map (fun p => p.1) = sl → (∀ (j s : Nat) (v : Value), ds[j]? = some (s, v) → A.tmps.getD s undef = v) → A = putAll ds a0) →
      wpOp P ops Q n (fun a' W' => (∃ v, a' = A.put o.dst v) ∧ Q .normal a' W') A W) : (Code.region id ops true).wp P Q a0 w := by
  have hnd' : (sl.map some).Nodup := by rw [← hds]; exact of_decide_eq_true hnd
  have hl : sl.length = n := by
    have h := congrArg List.length hds
    simp only [List.length_map, List.length_take, Array.length_toList] at h
    omega
  have atD : ∀ {j : Nat} {p : Oper}, j < n → ops[j]? = some p → ∃ s, sl[j]? = some s ∧ p.dst = some s := fun {j p} hj hp => by
    have h1 : ((ops.toList.take n).map (fun o => o.dst))[j]? = some p.dst := by
      rw [List.getElem?_map, List.getElem?_take_of_lt hj, Array.getElem?_toList, hp]
      rfl
    rw [hds, List.getElem?_map] at h1
    cases hs : sl[j]? with
    | none => rw [hs] at h1; cases h1
    | some s =>
      rw [hs] at h1
      exact ⟨s, rfl, (Option.some.inj h1).symm⟩
  have slNe : ∀ {j k s t : Nat}, sl[j]? = some s → sl[k]? = some t → j ≠ k → s ≠ t := fun {j k s t} hj hk hne e => by
    subst e
    have hj' := (List.getElem?_eq_some_iff.1 hj).1
    have h1 : (sl.map some)[j]? = (sl.map some)[k]? := by rw [List.getElem?_map, List.getElem?_map, hj, hk]
    exact hne ((List.getElem?_inj (by simpa using hj') hnd').1 h1)
  refine wp_region_flow hm hback hdst hin (fun L A W => ClosL ops L ∧ (L n = false → J W ∧ A.tmps.size = a0.tmps.size ∧ ∀ (j s : Nat), sl[j]? = some s → L j = true → sp L j (A.tmps.getD s undef) W) ∧ (L n = true → Q .normal A W)) (fun _ _ _ => True) ?_ ?_ ?_
  · intro L h
    refine ⟨fun j p hp hj => ?_, fun _ => ⟨hJ0, rfl, fun j s hj hL => ?_⟩, fun h' => ?_⟩
    · have := h j (Array.getElem?_eq_some_iff.1 hp).1
      rw [this] at hj; cases hj
    · have := h j (by have := (List.getElem?_eq_some_iff.1 hj).1; omega)
      rw [this] at hL; cases hL
    · rw [h n (by omega)] at h'; cases h'
  · intro i o L A W ho hLi hdep hJ hdef hkept hhas
    clear hhas
    obtain ⟨hc, hbel, hdone⟩ := hJ
    have hi : i < ops.size := (Array.getElem?_eq_some_iff.1 ho).1
    have hLn : L n = false := by
      cases h : L n with
      | false => rfl
      | true =>
        have := use_all huse hn hc h n i (by omega) (by omega)
        rw [this] at hLi; cases hLi
    obtain ⟨hbw, hsz, hread⟩ := hbel hLn
    have hc' : ClosL ops (fun k => decide (i = k) || L k) := by
      intro j p hp hj e he hb
      show (decide (i = e.on) || L e.on) = true
      by_cases hij : i = j
      · subst hij
        rw [ho] at hp
        cases hp
        rw [hdep e he hb]; simp
      · rw [hc j p hp (by simpa [hij] using hj) e he hb]; simp
    by_cases hin' : i = n
    · subst hin'
      have hall : ∀ j, j < i → L j = true := fun j hj => by
        have := use_all huse hn hc' (L := fun k => decide (i = k) || L k) (by simp) i j (by omega) (by omega)
        simpa [show i ≠ j by omega] using this
      refine wpOp_mono ?_ (hlast o L W A ho hall hbw (fun j s hj => hread j s hj (hall j (by have := (List.getElem?_eq_some_iff.1 hj).1; omega))) (fun s h => hkept s fun j p hp _ => nd h j p hp) fun ds hd hv => ?_)
      · rintro a' W' ⟨⟨v, hv⟩, hq⟩
        exact ⟨v, hv, fun _ => trivial, fun _ _ _ _ => trivial, hc', fun h => by simp at h, fun _ => hq⟩
      · refine act_is ds hdef hsz (by rw [show ds.map (fun p => some p.1) = (ds.map (fun p => p.1)).map some by rw [List.map_map]; rfl, hd]; exact hnd') (fun s h => hkept s fun j p hp hj e => ?_) (fun j s v hj => hv j s v hj)
        have hjn : j < i := by
          have h1 := (Array.getElem?_eq_some_iff.1 hp).1
          have h2 : j ≠ i := fun e' => by rw [e', hLn] at hj; cases hj
          omega
        obtain ⟨s', hs', hd'⟩ := atD hjn hp
        rw [hd'] at e
        cases e
        rw [← hd, List.getElem?_map] at hs'
        cases hq : ds[j]? with
        | none => rw [hq] at hs'; cases hs'
        | some q =>
          rw [hq] at hs'
          exact h q (List.mem_of_getElem? hq) (Option.some.inj hs')
    · obtain ⟨s, hs, hd⟩ := atD (show i < n by omega) ho
      have hsl : s < A.tmps.size := by
        have q1 := List.all_eq_true.1 hin i (by simpa using hi)
        rw [ho] at q1
        simp only [Option.bind_some, hd] at q1
        rw [hsz]
        simpa using q1
      refine wpOp_mono ?_ (hstep i s o L A W ho hs hLi hdep hc hbw (fun s' h => hkept s' fun j p hp _ => nd h j p hp) hread)
      rintro a' W' ⟨v, rfl, hv, hJ', hmono⟩
      refine ⟨v, by rw [hd], fun _ => trivial, fun _ _ _ _ => trivial, hc', fun _ => ⟨hJ', by simpa [Act.put] using hsz, fun j t hj hL => ?_⟩, fun h => ?_⟩
      · by_cases hij : i = j
        · subst hij
          rw [hs] at hj
          cases hj
          rw [show (A.put (some s) v).tmps.getD s undef = v from getD_set_same _ _ _ hsl]
          exact hv
        · have hLj : L j = true := by simpa [hij] using hL
          rw [show (A.put (some s) v).tmps.getD t undef = A.tmps.getD t undef from getD_set_other _ _ _ _ (slNe hs hj hij)]
          exact hmono j _ (fun e => hij e.symm) (List.getElem?_eq_some_iff.1 hj).1 hLj (hread j t hj hLj)
      · simp [hin', hLn] at h
  · intro L A W hL hJ hdef hsize hkept hhas
    exact hJ.2.2 (hL n (by omega))
end
end Go.Proofs.YtllcpoibnmhghaaGreatDoor

/- Rules that came in, appended: an operation of a region that draws its order; and a rule put behind rules: what is said while it goes on. Written by genmm.py. -/
namespace Go.Proofs.YtllcpoibnmhghaaGreatDoor
open Go.RowKit Lx
theorem wp_append_in {w : World} {o : Oper} {a : Act} {K : Act → World → Prop} {Q : Exit → Act → World → Prop} (s x : Operand)
    (ho : o.op = .call { callee := .builtin .append, args := #[s, x], argTypes := #[22, 22] }) (base : Nat) (i : TypeInfo) (hi : Tryz.prog.info? 38 = some i) (hz : i.zero = some (.agg #[.string ⟨#[]⟩, .int .i64 0, .int .i64 0, .int .i64 0, .string ⟨#[]⟩, .slice none 0 0])) (hsize : i.size = 6) (hby : i.bytes = 80)
    (v : Value) (n : Nat) (xs : List Value) (hs : a.eval s = v) (hown : w.ownsRow base 38 6 v n xs) (us : List (Ru × Value)) (pv : Option Addr) (cv : Nat) (hx : a.eval x = .slice pv us.length cv) (hin : InR w (.slice pv us.length cv) us) (hp : pv = none → cv = 0)
    (h63 : n + us.length ≤ maxLen) (hbytes : (n + us.length) * 80 ≤ 140737488355328) (hbase : base ≤ w.heap.size)
    (h : ∀ v' w', w'.ownsRow base 38 6 v' (n + us.length) (xs ++ flatR us) → w.grownBy w' v.ownBlock → K (a.put o.dst v') w') : o.wp Tryz.prog a w K Q := by
  have hf := flatR_oneC us fun p hp => by
    obtain ⟨_, _, d, hd⟩ := hin.all p hp
    obtain ⟨q, c, e⟩ := hd.form
    exact ⟨q, _, c, e⟩
  have hc := hin.cells
  cases pv with
  | none =>
    have e0 : us = [] := by
      cases us with
      | nil => rfl
      | cons p us =>
        obtain ⟨_, _, e, _⟩ := hc 0 p rfl
        cases e
    subst e0
    rw [hp rfl] at hx
    have hx' : a.eval x = .slice none 0 0 := hx
    have hrun := run_append_owned_none (P := Tryz.prog) (w := w) base 22 o.type 38 i 6 rulesType hi v n xs hown
    unfold Oper.wp
    simp [execOp, ho, resolve, invoke, builtin, hs, hx', hrun, Result.andThen]
    exact h v w (by rw [flatR, List.append_nil]; exact hown) ⟨rfl, rfl, rfl, Nat.le_refl _, fun _ _ _ => rfl⟩
  | some ad =>
    refine wp_append_own w s x 22 ho base 38 i _ 6 80 rulesType hi hz hsize hby rfl (by decide) v n xs hs hown ad us.length cv (flatR us) hx (flatR_len us) (fun j u hj => ?_) hf h63 hbytes hbase fun v' w' h2 h3 _ => h v' w' h2 h3
    cases us with
    | nil => simp [flatR] at hj
    | cons p0 us =>
      obtain ⟨g, o', e, _⟩ := hc 0 p0 rfl
      obtain rfl := Option.some.inj e
      have t := flatR_cells (p0 :: us) o' (fun q p hq => by
        obtain ⟨g', o'', e', hh⟩ := hc q p hq
        cases e'
        exact hh) j u hj
      by_cases hj0 : j = 0
      · subst hj0
        simpa [Addr.add] using t
      · simpa [Addr.add, hj0] using t
end Go.Proofs.YtllcpoibnmhghaaGreatDoor

/- A rule put behind rules: what is said while it goes on. Written by genmm.py. -/
namespace Go.Proofs.YtllcpoibnmhghaaGreatDoor
open Go.RowKit Lx
section
variable {B : Nat} {us us2 : List (Ru × Value)} {LV : Value} {day : Int} {nm : List UInt8} {exr rowu : Array Value} {er at0 : Int} {fs : List (Nat → Bool)} {L L' : Nat → Bool} {W W' : World}
theorem RowM.later {w w' : World} {v : Value} {fs : List (Nat → Bool)} (h : RowM w v fs) (hb : Below w.heap.size w w') : RowM w' v fs := by
  obtain ⟨p, c, h1, h2, h3⟩ := h
  refine ⟨p, c, h1, h2, fun i f hi => ?_⟩
  obtain ⟨g, o, e, hr⟩ := h3 i f hi
  exact ⟨g, o, e, range_later hr hb⟩
/-- What each operation yields, where so much has been done. -/
def msq (B : Nat) (us us2 : List (Ru × Value)) (LV : Value) (day : Int) (nm : List UInt8) (exr rowu : Array Value) (er at0 : Int) (fs : List (Nat → Bool)) (L : Nat → Bool) (i : Nat) (v : Value) (W : World) : Prop := match i with
  | 0 => L 2 = false → ∃ g : Nat, v = .slice (some ⟨g, 0, none⟩) 0 0 ∧ W.heap[g]? = some (.cells #[] 38 (0, 0)) ∧ B ≤ g
  | 1 => v = LV
  | 2 => L 7 = false → W.ownsRow B 38 6 v us.length (flatR us)
  | 3 => v = .string ⟨nm.toArray⟩
  | 4 => v = .agg exr
  | 5 => v = .agg rowu
  | 6 => L 7 = false → ∃ g : Nat, v = .slice (some ⟨g, 0, none⟩) 1 1 ∧ W.heap[g]? = some (.cells rowu 38 (0, 0))
  | 7 => W.ownsRow B 38 6 v us2.length (flatR us2)
  | 8 => v = .int .i64 day
  | 9 => ∃ vm, v = .tuple #[vm, .agg #[.int .i64 er, .int .i64 at0]] ∧ RowM W vm fs
  | 10 => ∃ vm, v = .tuple #[vm, .agg #[.int .i64 er, .int .i64 at0]] ∧ RowM W vm fs
  | 12 => v = .agg #[.int .i64 er, .int .i64 at0]
  | 13 => ∃ g : Nat, v = .pointer (some ⟨g, 0, none⟩) ∧ B ≤ g ∧ W.heap[g]? = some (.cells #[.int .i64 0, .int .i64 0] 43 (0, 0))
  | _ => RowM W v fs
theorem msq_below (hL : ∀ k, L' k = false → L k = false) (hb : Below W.heap.size W W') (j : Nat) (u : Value) (h : msq B us us2 LV day nm exr rowu er at0 fs L j u W) : msq B us us2 LV day nm exr rowu er at0 fs L' j u W' := by
  unfold msq at *
  split at h
  · intro h2
    obtain ⟨g, e, hh, hB⟩ := h (hL _ h2)
    exact ⟨g, e, (hb.block _ (lt_of_block hh)).trans hh, hB⟩
  · exact h
  · intro h2
    exact owns_below (h (hL _ h2)) hb
  · exact h
  · exact h
  · exact h
  · intro h2
    obtain ⟨g, e, hh⟩ := h (hL _ h2)
    exact ⟨g, e, (hb.block _ (lt_of_block hh)).trans hh⟩
  · exact owns_below h hb
  · exact h
  · obtain ⟨vm, e, hr⟩ := h
    exact ⟨vm, e, hr.later hb⟩
  · obtain ⟨vm, e, hr⟩ := h
    exact ⟨vm, e, hr.later hb⟩
  · exact h
  · obtain ⟨g, e, hB, hh⟩ := h
    exact ⟨g, e, hB, (hb.block _ (lt_of_block hh)).trans hh⟩
  · exact h.later hb
/-- A row of rules grows: all but that row's is as it was. -/
theorem msq_grown {blk : Option Nat} (hg : W.grownBy W' blk) (hrule : ∀ q, blk = some q → ∃ cur, W.heap[q]? = some (.cells cur 38 (0, 0))) {j : Nat} (h0 : j = 0 → L' 2 = true) (h2 : j = 2 → L' 7 = true) (h6 : j = 6 → L' 7 = true ∨ (L' 7 = false → L 7 = false) ∧ ∀ q, blk = some q → W.heap[q]? ≠ some (.cells rowu 38 (0, 0)))
    (hj : j ≠ 7 ∧ j ≠ 9 ∧ j ≠ 10 ∧ j ≠ 11 ∧ j < 14) (u : Value) (h : msq B us us2 LV day nm exr rowu er at0 fs L j u W) : msq B us us2 LV day nm exr rowu er at0 fs L' j u W' := by
  obtain ⟨n7, n9, n10, n11, n14⟩ := hj
  have hkeep : ∀ (q : Nat) (o : Obj), W.heap[q]? = some o → (∀ cur, o ≠ .cells cur 38 (0, 0)) → W'.heap[q]? = some o := fun q o hq hne => by
    refine (hg.block q (lt_of_block hq) (fun e => ?_)).trans hq
    obtain ⟨cur, hc⟩ := hrule q e.symm
    rw [hq] at hc
    exact hne cur (Option.some.inj hc)
  match j, h0, h2, h6, n7, n9, n10, n11, n14, h with
  | 0, h0, _, _, _, _, _, _, _, _ => intro e; rw [h0 rfl] at e; cases e
  | 1, _, _, _, _, _, _, _, _, h => exact h
  | 2, _, h2, _, _, _, _, _, _, _ => intro e; rw [h2 rfl] at e; cases e
  | 3, _, _, _, _, _, _, _, _, h => exact h
  | 4, _, _, _, _, _, _, _, _, h => exact h
  | 5, _, _, _, _, _, _, _, _, h => exact h
  | 6, _, _, h6, _, _, _, _, _, h =>
    intro e
    rcases h6 rfl with h7 | ⟨h7, hne⟩
    · rw [h7] at e; cases e
    · obtain ⟨g, e1, hh⟩ := h (h7 e)
      exact ⟨g, e1, (hg.block g (lt_of_block hh) (fun e2 => hne g e2.symm hh)).trans hh⟩
  | 8, _, _, _, _, _, _, _, _, h => exact h
  | 12, _, _, _, _, _, _, _, _, h => exact h
  | 13, _, _, _, _, _, _, _, _, h =>
    obtain ⟨g, e, hB, hh⟩ := h
    refine ⟨g, e, hB, hkeep g _ hh fun cur e2 => ?_⟩
    injection e2 with _ e3
    exact absurd e3 (by decide)
  | 7, _, _, _, n, _, _, _, _, _ => exact absurd rfl n
  | 9, _, _, _, _, n, _, _, _, _ => exact absurd rfl n
  | 10, _, _, _, _, _, n, _, _, _ => exact absurd rfl n
  | 11, _, _, _, _, _, _, n, _, _ => exact absurd rfl n
  | j + 14, _, _, _, _, _, _, _, n, _ => omega
end
/-- Rules with one behind. -/
theorem inR_more {w W : World} {B : Nat} {us us2 : List (Ru × Value)} {p : Ru × Value} {lv v : Value} (hus : us ++ [p] = us2) (h : InR w lv us) (hp : RuleIn w p) (hb : Below w.heap.size w W) (ho : W.ownsRow B 38 6 v us2.length (flatR us2)) (hl : us2.length < 9223372036854775808) : InR W v us2 := by
  refine ⟨rrow_of_owns ho hl, hl, fun q hq => ?_⟩
  rw [← hus, List.mem_append, List.mem_singleton] at hq
  rcases hq with hq | rfl
  · exact (h.below hb).all q hq
  · exact hp.below hb
end Go.Proofs.YtllcpoibnmhghaaGreatDoor
