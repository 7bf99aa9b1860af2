/- A rule more that nobody speaks of, of a new name, that speaks of none: plain. -/
import Derived.Test.YtllcpoibnmhghaaGreatDoorTb24
import Derived.Test.YtllcpoibnmhghaaGreatDoorTb19
import Derived.Test.YtllcpoibnmhghaaGreatDoorTb27
import Derived.Test.YtllcpoibnmhghaaGreatDoorTb21
import Derived.Test.YtllcpoibnmhghaaGreatDoorTb32
import Derived.Test.YtllcpoibnmhghaaGreatDoorTb34
import Derived.Laws.StructEq
namespace Go.Proofs.YtllcpoibnmhghaaGreatDoor
open Go.RowKit Lx

/-- The rule that comes more. -/
def newR (nm : List UInt8) : Ru := (nm, ⟨1, 0, 0, [], []⟩)
theorem new_nms (nm : List UInt8) : nms (newR nm).2 = [] := by simp [newR, nms_eq, nmsL]
theorem atP5_new {l : List Ru} {nm : List UInt8} (hN : ∀ v ∈ l, v.1 ≠ nm) : atP5 l nm = -1 := by
  have hb := atP5_bd l nm
  by_cases h : 0 ≤ atP5 l nm
  · obtain ⟨u, hu, e⟩ := atP5_name (l := l) (x := nm) (k := (atP5 l nm).toNat) (by omega)
    exact absurd e (hN u (List.mem_of_getElem? hu))
  · omega
theorem atP5_more {l : List Ru} {nm x : List UInt8} (hx : x ≠ nm) : atP5 (l ++ [newR nm]) x = atP5 l x := by
  unfold atP5
  rw [atF_snoc]
  split
  · rfl
  · rename_i h
    rw [if_neg (fun e => hx e.symm)]
    have := atF_bd l 0 x
    omega
theorem atP5_self_new {l : List Ru} {nm : List UInt8} (hN : ∀ v ∈ l, v.1 ≠ nm) : atP5 (l ++ [newR nm]) nm = (l.length : Int) := by
  have := atP5_new hN
  unfold atP5 at *
  rw [atF_snoc, if_neg (by omega), if_pos (show (newR nm).1 = nm from rfl), Nat.zero_add]
theorem spoken_same {l l' : List Ru} : ∀ (xs : List (List UInt8)) (acc : List Int), (∀ x ∈ xs, atP5 l x = atP5 l' x) → spoken l acc xs = spoken l' acc xs := by
  intro xs
  induction xs with
  | nil => intro _ _; rfl
  | cons x xs ih =>
    intro acc h
    unfold spoken at ih ⊢
    rw [List.foldl_cons, List.foldl_cons, h x List.mem_cons_self]
    exact ih _ fun y hy => h y (List.mem_cons_of_mem _ hy)
/-- What is asked of the rule that comes more. -/
structure More (l : List Ru) (nm : List UInt8) : Prop where
  right : (wrongR (l ++ [newR nm])).1 = 0
  new : ∀ v ∈ l, v.1 ≠ nm
  unsaid : ∀ v ∈ l, spk v.2 nm = false
theorem More.spks {l : List Ru} {nm : List UInt8} (h : More l nm) {v : Ru} (hv : v ∈ l) : spkR (l ++ [newR nm]) v = spkR l v := by
  unfold spkR
  refine spoken_same _ _ fun x hx => atP5_more fun e => ?_
  subst e
  have hr := right_all h.right v (List.mem_append_left _ hv)
  rw [← spk_iff _ v.2 x (Nat.le_refl _) hr, h.unsaid v hv] at hx
  cases hx
theorem more_at {l : List Ru} {u : Ru} {i : Nat} (h : i < l.length) : (l ++ [u])[i]? = l[i]? := List.getElem?_append_left h
theorem More.lead {l : List Ru} {nm : List UInt8} (h : More l nm) : leadS (l ++ [newR nm]) = leadS l := by
  funext i
  by_cases hi : i < l.length
  · obtain ⟨v, hv⟩ : ∃ v, l[i]? = some v := ⟨l[i], List.getElem?_eq_getElem hi⟩
    rw [leadS_at hv, leadS_at ((more_at hi).trans hv), h.spks (List.mem_of_getElem? hv)]
  · have e : leadS l i = [] := by
      unfold leadS
      rw [List.getElem?_eq_none (by omega)]
    rw [e]
    by_cases hn : i = l.length
    · subst hn
      rw [leadS_at (u := newR nm) (by simp)]
      unfold spkR
      rw [new_nms]
      rfl
    · unfold leadS
      rw [List.getElem?_eq_none (by simp; omega)]
theorem wrongL_front {u : Ru} : ∀ (l : List Ru) (i : Nat), (wrongL (l ++ [u]) i).1 = 0 → (wrongL l i).1 = 0
  | [], _, _ => rfl
  | v :: l, i, h => by
    rw [List.cons_append, wrongL] at h
    rw [wrongL]
    split at h
    · rename_i hv; exact absurd h hv
    · rename_i hv
      rw [if_neg hv]
      exact wrongL_front l _ h
theorem More.wrong {l : List Ru} {nm : List UInt8} (h : More l nm) : (wrongR l).1 = 0 := by
  have hr := h.right
  unfold wrongR at hr ⊢
  split at hr
  · cases hr
  · rename_i h40
    rw [List.length_append] at h40
    rw [if_neg (by simp at h40; omega)]
    exact wrongL_front l 0 hr
theorem frF_snoc {p q : Nat → Bool} : ∀ (k i : Nat), p (i + k) = false → (∀ j, i ≤ j → j < i + k → p j = q j) → frF p i (k + 1) = frF q i k
  | 0, i, h, _ => by
    rw [frF, frF, if_neg (by rw [Nat.add_zero] at h; rw [h]; decide)]
    rfl
  | k + 1, i, h, hs => by
    have ih := frF_snoc (p := p) (q := q) k (i + 1) (by rw [show i + 1 + k = i + (k + 1) by omega]; exact h) fun j a b => hs j (by omega) (by omega)
    rw [frF, ih, hs i (Nat.le_refl _) (by omega)]
    rfl
theorem way_last {E : Nat → Nat → Bool} {i k : Nat} (h : Lx.Way E i k) : ∃ j, E j k = true := by
  cases h with
  | single h => exact ⟨_, h⟩
  | tail _ h => exact ⟨_, h⟩
theorem More.l1 {l : List Ru} {nm : List UInt8} (h : More l nm) {i : Nat} (hi : i < l.length) : lk1 (l ++ [newR nm]) i = lk1 l i := by
  obtain ⟨v, hv⟩ : ∃ v, l[i]? = some v := ⟨l[i], List.getElem?_eq_getElem hi⟩
  unfold lk1
  rw [(more_at hi).trans hv, hv]
  dsimp only
  rw [atP5_more (h.new v (List.mem_of_getElem? hv))]
theorem More.l1n {l : List Ru} {nm : List UInt8} (h : More l nm) : lk1 (l ++ [newR nm]) l.length = false := by
  unfold lk1
  rw [show (l ++ [newR nm])[l.length]? = some (newR nm) by simp]
  dsimp only
  rw [show (newR nm).1 = nm from rfl, atP5_self_new h.new]
  simp
theorem More.l2 {l : List Ru} {nm : List UInt8} (h : More l nm) {i : Nat} (hi : i < l.length) : lk2 (l ++ [newR nm]) i = lk2 l i := by
  obtain ⟨v, hv⟩ : ∃ v, l[i]? = some v := ⟨l[i], List.getElem?_eq_getElem hi⟩
  unfold lk2
  rw [(more_at hi).trans hv, hv]
  dsimp only
  rw [h.spks (List.mem_of_getElem? hv)]
theorem more_lk2n (l : List Ru) (nm : List UInt8) : lk2 (l ++ [newR nm]) l.length = false := by
  unfold lk2
  rw [show (l ++ [newR nm])[l.length]? = some (newR nm) by simp]
  dsimp only
  unfold spkR
  rw [new_nms]
  exact decide_eq_false (by simp [spoken])
theorem More.fols {l : List Ru} {nm : List UInt8} (h : More l nm) (hno : ∀ u ∈ l, -1 ∉ spkR l u) (i k : Nat) : fol (leadS (l ++ [newR nm])) ((l ++ [newR nm]).length + 1) (fun _ => false) i k = fol (leadS l) (l.length + 1) (fun _ => false) i k := by
  rw [h.lead]
  have h1 := fol_way (n := l.length) (f := (l ++ [newR nm]).length + 1) (r := i) (v := k) (leadS_lt hno) (by simp)
  have h2 := fol_way (n := l.length) (f := l.length + 1) (r := i) (v := k) (leadS_lt hno) (Nat.le_refl _)
  cases e1 : fol (leadS l) ((l ++ [newR nm]).length + 1) (fun _ => false) i k with
  | true => exact (h2.2 (h1.1 e1)).symm
  | false =>
    cases e2 : fol (leadS l) (l.length + 1) (fun _ => false) i k with
    | false => rfl
    | true => rw [h1.2 (h2.1 e2)] at e1; cases e1
theorem fol_out {l : List Ru} (hno : ∀ u ∈ l, -1 ∉ spkR l u) {i : Nat} (k : Nat) (hi : l.length ≤ i) : fol (leadS l) (l.length + 1) (fun _ => false) i k = false := by
  cases e : fol (leadS l) (l.length + 1) (fun _ => false) i k with
  | false => rfl
  | true =>
    have e0 : leadS l i = [] := by
      unfold leadS
      rw [List.getElem?_eq_none hi]
    have hw := (fol_way (leadS_lt hno) (Nat.le_refl _)).1 e
    rcases way_step.1 hw with h | ⟨j, h, _⟩
    · rw [e0] at h; cases h
    · rw [e0] at h; cases h
theorem fol_never {l : List Ru} (hno : ∀ u ∈ l, -1 ∉ spkR l u) {k : Nat} (i : Nat) (hk : l.length ≤ k) : fol (leadS l) (l.length + 1) (fun _ => false) i k = false := by
  cases e : fol (leadS l) (l.length + 1) (fun _ => false) i k with
  | false => rfl
  | true =>
    obtain ⟨j, hj⟩ := way_last ((fol_way (leadS_lt hno) (Nat.le_refl _)).1 e)
    have := leadS_lt hno j k (by simpa using hj)
    omega
theorem More.chk {l : List Ru} {nm : List UInt8} (h : More l nm) : chkW (l ++ [newR nm]) = chkW l := by
  have hlen : (l ++ [newR nm]).length = l.length + 1 := by simp
  unfold chkW
  rw [if_neg (by simpa using h.right), if_neg (by simpa using h.wrong), hlen, frF_snoc (q := lk1 l) l.length 0 (by rw [Nat.zero_add]; exact h.l1n) fun j _ hj => h.l1 (by omega)]
  cases frF (lk1 l) 0 l.length with
  | some i => rfl
  | none =>
    dsimp only
    rw [frF_snoc (q := lk2 l) l.length 0 (by rw [Nat.zero_add]; exact more_lk2n l nm) fun j _ hj => h.l2 (by omega)]
    cases h2 : frF (lk2 l) 0 l.length with
    | some i => rfl
    | none =>
      dsimp only
      have hno := lk2_no h2
      rw [frF_snoc (q := lk3 l) l.length 0 (by
        rw [Nat.zero_add]
        unfold lk3
        rw [h.fols hno]
        exact fol_out hno _ (Nat.le_refl _)) fun j _ hj => by
          unfold lk3
          exact h.fols hno j j]
theorem mkL_none {m : Nat → Bool} (h : ∀ k, m k = false) : ∀ n, mkL m n = []
  | 0 => rfl
  | n + 1 => by rw [mkL_succ, if_neg (by rw [h n]; decide), mkL_none h n]
theorem More.uses {l : List Ru} {nm : List UInt8} (h : More l nm) {i : Nat} (hi : i < l.length) : usesL (l ++ [newR nm]) (i : Int) = usesL l (i : Int) := by
  have hlen : (l ++ [newR nm]).length = l.length + 1 := by simp
  by_cases h0 : (chkW l).1 = 0
  · obtain ⟨_, hno⟩ := chk_lk2 h0
    have e1 : usesL l (i : Int) = mkL (fol (leadS l) (l.length + 1) (fun _ => false) i) l.length := by
      unfold usesL
      rw [if_neg (by omega)]
      rfl
    have e2 : usesL (l ++ [newR nm]) (i : Int) = mkL (fol (leadS (l ++ [newR nm])) ((l ++ [newR nm]).length + 1) (fun _ => false) i) (l ++ [newR nm]).length := by
      unfold usesL
      rw [h.chk, if_neg (by rw [hlen]; omega)]
      rfl
    have e3 : mkL (fol (leadS (l ++ [newR nm])) ((l ++ [newR nm]).length + 1) (fun _ => false) i) (l.length + 1) = mkL (fol (leadS (l ++ [newR nm])) ((l ++ [newR nm]).length + 1) (fun _ => false) i) l.length := by
      rw [mkL_succ, if_neg (by rw [h.fols hno, fol_never hno _ (Nat.le_refl _)]; decide)]
    rw [e1, e2]
    exact ((congrArg (mkL _) hlen).trans e3).trans (mkL_same fun k _ => h.fols hno i k)
  · have e1 : usesL l (i : Int) = [] := if_pos (.inr (.inr h0))
    have e2 : usesL (l ++ [newR nm]) (i : Int) = [] := if_pos (.inr (.inr (by rw [h.chk]; exact h0)))
    rw [e1, e2]
theorem More.none {l : List Ru} {nm : List UInt8} (h : More l nm) : usesL (l ++ [newR nm]) (l.length : Int) = [] := by
  by_cases h0 : (chkW l).1 = 0
  · obtain ⟨_, hno⟩ := chk_lk2 h0
    unfold usesL
    split
    · rfl
    · exact mkL_none (fun k => by
        rw [show ((l.length : Int)).toNat = l.length from rfl, h.fols hno]
        exact fol_out hno k (Nat.le_refl _)) _
  · exact if_pos (.inr (.inr (by rw [h.chk]; exact h0)))
end Go.Proofs.YtllcpoibnmhghaaGreatDoor

/- What rules mean beside other rules, and in other weeks: plain. -/
namespace Go.Proofs.YtllcpoibnmhghaaGreatDoor
open Go.RowKit Lx

section
variable {wk : Int → Bool} {day : Int}
/-- Rules that a rule does not refer to do not matter to it. -/
theorem mean_indep {L L' : List Ru} (hc : (chkW L).1 = 0) (hc' : (chkW L').1 = 0) {n : Nat} (hn : n < L.length) (hat : ∀ x, atP5 L x = atP5 L' x) (hsame : ∀ j, j ≠ n → L[j]? = L'[j]?) : ∀ (m j : Nat), j < L.length → muR L j < m → j ≠ n → (n : Int) ∉ usesL L (j : Int) → meanP L wk day j = meanP L' wk day j
  | 0, _, _, h, _, _ => by omega
  | m + 1, j, hj, hm, hne, hno => by
    obtain ⟨u, hu⟩ : ∃ u, L[j]? = some u := ⟨L[j], List.getElem?_eq_getElem hj⟩
    have hu' : L'[j]? = some u := by rw [← hsame j hne]; exact hu
    rw [meanP_eq hc hu, meanP_eq hc' hu']
    refine valE_congr _ _ (Nat.le_refl _) fun x hx => ?_
    have hk := lead_of_name hc hu hx
    have hlt := muR_lt hc hj hk
    obtain ⟨_, hall⟩ := chk_lk2 hc
    have hkl := leadS_lt hall j _ hk
    have hE : (leadS L j).contains (atP5 L x).toNat = true := by simpa using hk
    rw [← hat x]
    refine mean_indep hc hc' hn hat hsame m _ hkl (by omega) (fun e => hno ?_) (fun h => hno ?_)
    · rw [e] at hE
      exact (uses_mem hc hj).2 ⟨n, rfl, hn, way_step.2 (.inl hE)⟩
    · obtain ⟨k, e, hkn, hw⟩ := (uses_mem hc hkl).1 h
      have : k = n := by omega
      subst this
      exact (uses_mem hc hj).2 ⟨k, rfl, hn, way_step.2 (.inr ⟨_, hE, hw⟩)⟩
/-- What is part of a rule means the same in another one's place. -/
theorem val_indep {L L' : List Ru} (hc : (chkW L).1 = 0) (hc' : (chkW L').1 = 0) {n : Nat} {u : Ru} (hu : L[n]? = some u) (hat : ∀ x, atP5 L x = atP5 L' x) (hsame : ∀ j, j ≠ n → L[j]? = L'[j]?) {e : Ex} (he : ∀ x ∈ nms e, x ∈ nms u.2) :
    valE wk day (fun x => meanP L wk day (atP5 L x).toNat) e = valE wk day (fun x => meanP L' wk day (atP5 L' x).toNat) e := by
  have hn : n < L.length := (List.getElem?_eq_some_iff.1 hu).1
  refine valE_congr _ _ (Nat.le_refl _) fun x hx => ?_
  have hk := lead_of_name hc hu (he x hx)
  obtain ⟨_, hall⟩ := chk_lk2 hc
  have hkl := leadS_lt hall n _ hk
  have hE : (leadS L n).contains (atP5 L x).toNat = true := by simpa using hk
  have hself : (n : Int) ∉ usesL L (n : Int) := fun h => (uses_ok hc hn h).2.2 rfl
  rw [← hat x]
  refine mean_indep hc hc' hn hat hsame _ _ hkl (Nat.lt_succ_self _) (fun e' => hself ?_) (fun h => hself ?_)
  · rw [e'] at hE
    exact (uses_mem hc hn).2 ⟨n, rfl, hn, way_step.2 (.inl hE)⟩
  · obtain ⟨k, e', hkn, hw⟩ := (uses_mem hc hkl).1 h
    have : k = n := by omega
    subst this
    exact (uses_mem hc hn).2 ⟨k, rfl, hn, way_step.2 (.inr ⟨_, hE, hw⟩)⟩
theorem at_snoc {l : List Ru} {u : Ru} {x : List UInt8} (h : 0 ≤ atP5 l x) : atP5 (l ++ [u]) x = atP5 l x := by
  unfold atP5 at *
  rw [atF_snoc, if_pos h]
theorem at_names {l : List Ru} {nm : List UInt8} {a b : Ex} (x : List UInt8) : atP5 (l ++ [(nm, a)]) x = atP5 (l ++ [(nm, b)]) x := by
  unfold atP5
  rw [atF_snoc, atF_snoc]
/-- A rule more changes none. -/
theorem mean_more {l : List Ru} {u : Ru} (hc : (chkW l).1 = 0) (hc' : (chkW (l ++ [u])).1 = 0) : ∀ (m j : Nat), j < l.length → muR l j < m → meanP (l ++ [u]) wk day j = meanP l wk day j
  | 0, _, _, h => by omega
  | m + 1, j, hj, hm => by
    obtain ⟨v, hv⟩ : ∃ v, l[j]? = some v := ⟨l[j], List.getElem?_eq_getElem hj⟩
    have hv' : (l ++ [u])[j]? = some v := by rw [List.getElem?_append_left hj]; exact hv
    rw [meanP_eq hc hv, meanP_eq hc' hv']
    refine valE_congr _ _ (Nat.le_refl _) fun x hx => ?_
    have hk := lead_of_name hc hv hx
    have hlt := muR_lt hc hj hk
    obtain ⟨_, hall⟩ := chk_lk2 hc
    have hkl := leadS_lt hall j _ hk
    have hb := (atP5_bd l x).1
    have hn1 : atP5 l x ≠ -1 := fun e => hall v (List.mem_of_getElem? hv) (by
      unfold spkR
      exact (spoken_mem _ _).2 (.inr ⟨x, hx, e⟩))
    rw [at_snoc (by omega)]
    exact mean_more hc hc' m _ hkl (by omega)
end
/-- Does an expression speak of dates? -/
def dtd (e : Ex) : Bool := e.kind == 5 || (e.kids.attach.any fun k => dtd k.1)
  termination_by SizeOf.sizeOf e
  decreasing_by exact kid_lt k.2
def dtdL (ks : List Ex) : Bool := ks.any dtd
theorem dtd_eq (e : Ex) : dtd e = (e.kind == 5 || dtdL e.kids) := by
  rw [dtd]
  congr 1
  unfold dtdL
  have h := List.any_map (f := Subtype.val) (l := e.kids.attach) (p := dtd)
  rw [List.attach_map_subtype_val] at h
  exact h.symm
theorem val_week {wk wk' : Int → Bool} {day day' : Int} {env env' : List UInt8 → Nat → Bool} (hw : ∀ a, wk a = wk' a) (he : ∀ x, env x = env' x) : ∀ (N : Nat) (e : Ex), SizeOf.sizeOf e ≤ N → dtd e = false → valE wk day env e = valE wk' day' env' e
  | 0, e, hN, _ => by cases e; simp at hN
  | N + 1, e, hN, h => by
    rw [dtd_eq, Bool.or_eq_false_iff] at h
    have h5 : e.kind ≠ 5 := by simpa using h.1
    rw [valE_eq, valE_eq, hw, he]
    have hk : e.kids.map (valE wk day env) = e.kids.map (valE wk' day' env') := List.map_congr_left fun k hk => val_week hw he N k (by have := kid_lt hk; omega) (by
      have h2 := h.2
      unfold dtdL at h2
      rw [List.any_eq_false] at h2
      simpa using h2 k hk)
    rw [hk]
    unfold valK
    simp only [if_neg h5]
theorem mean_week {l : List Ru} {wk wk' : Int → Bool} {day day' : Int} (hw : ∀ a, wk a = wk' a) (hd : ∀ u ∈ l, dtd u.2 = false) : ∀ (f i : Nat), meanF l wk day f i = meanF l wk' day' f i
  | 0, _ => rfl
  | f + 1, i => by
    rw [meanF, meanF]
    cases hu : l[i]? with
    | none => rfl
    | some u => exact val_week hw (fun x => mean_week hw hd f _) _ _ (Nat.le_refl _) (hd u (List.mem_of_getElem? hu))
theorem wkB_week {day k : Int} (h0 : 0 ≤ day) (hk : 0 ≤ k) (a : Int) : wkB (day + 7 * k) a = wkB day a := by
  have : wkd (day + 7 * k) = wkd day := by
    rw [wkd_eq _ (by omega), wkd_eq _ h0]
    omega
  unfold wkB
  rw [this]
end Go.Proofs.YtllcpoibnmhghaaGreatDoor

/- Whether an expression speaks of dates, as the laws of mean ask. -/
namespace Go.Proofs.YtllcpoibnmhghaaGreatDoor
open Go.RowKit Lx

set_option maxRecDepth 100000 in
set_option maxHeartbeats 1000000 in
theorem dated_step (e : Ex) (pe : Option Addr) (ce : Nat) (w : World)  (hlk : (e.kids.length : Int) < 9223372036854775808)
    (hkk : ∀ (j : Nat) (k : Ex), e.kids[j]? = some k → ∃ (g o : Nat) (ps : Option Addr) (cs : Nat), pe = some ⟨g, o, none⟩ ∧
        w.cell? ⟨g, o + j * 5, none⟩ = some (.int .i64 k.kind) ∧ w.cell? ⟨g, o + j * 5 + 1, none⟩ = some (.int .i64 k.a) ∧ w.cell? ⟨g, o + j * 5 + 2, none⟩ = some (.int .i64 k.b) ∧
        w.cell? ⟨g, o + j * 5 + 3, none⟩ = some (.string ⟨k.name.toArray⟩) ∧ w.cell? ⟨g, o + j * 5 + 4, none⟩ = some (.slice ps k.kids.length cs) ∧
        ∀ W, Below w.heap.size w W → Calls Tryz.prog 15 #[exV k (.slice ps k.kids.length cs)] W fun r w' => r = .returned (.bool (dtd k)) ∧ Below W.heap.size W w') :
    Calls Tryz.prog 15 #[exV e (.slice pe e.kids.length ce)] w fun r w' => r = .returned (.bool (dtd e)) ∧ Below w.heap.size w w' := by
  have HK := hid5 hkk
  have HE := hid5 (dtd_eq e)
  have hb0 : Below w.heap.size w (w.alloc (.cells #[.int .i64 e.kind, .int .i64 e.a, .int .i64 e.b, .string ⟨e.name.toArray⟩, .slice pe e.kids.length ce] 25)) := (Below.refl _ _).alloc (Nat.le_refl _) _
  have hx0 := heap_alloc_new w (.cells #[.int .i64 e.kind, .int .i64 e.a, .int .i64 e.b, .string ⟨e.name.toArray⟩, .slice pe e.kids.length ce] 25)
  unfold exV
  clear hkk
  generalize hwA : w.alloc (.cells #[.int .i64 e.kind, .int .i64 e.a, .int .i64 e.b, .string ⟨e.name.toArray⟩, .slice pe e.kids.length ce] 25) = wA at *
  have z0 := (cell_of_row _ _ 0 _ _ _ hx0).trans rfl
  have z4 := (cell_of_row _ _ 4 _ _ _ hx0).trans rfl
  cases hk' : e.kind == 5 with
  | true =>
    have hE := HE.out
    rw [hk', Bool.true_or] at hE
    have HR := hid5 hE
    clear hE HE HK
    go_enter Tryz.func15, Tryz.ntmps15
    go_wp2_with fail
    go_ret
    exact ⟨by (rw [HR.out]) <;> rfl, hb0⟩
  | false =>
    have hE := HE.out
    rw [hk', Bool.false_or] at hE
    have HR := hid5 hE
    clear hE HE
    go_enter Tryz.func15, Tryz.ntmps15
    go_wp2_with fail
    clear z0 z4 hx0 hwA hk'
    go_loopw [4, 11] (fun _ t wr => ∃ j : Nat, t = .int .i64 (j : Int) ∧ j ≤ e.kids.length ∧ dtd e = dtdL (e.kids.drop j) ∧ Below w.heap.size w wr) (fun _ t _ => e.kids.length - (intOf t).toNat)
    case atStart => exact ⟨0, rfl, by omega, HR.out, hb0⟩
    case round =>
      obtain ⟨j, rfl, hj, hX, hbr⟩ := hrel
      have hj0 : (0 : Int) ≤ (j : Int) := by omega
      by_cases hlt : j < e.kids.length
      · have hlt' : (j : Int) < (e.kids.length : Int) := by omega
        obtain ⟨k, hjk⟩ : ∃ k, e.kids[j]? = some k := ⟨e.kids[j], List.getElem?_eq_getElem hlt⟩
        obtain ⟨g, o, ps, cs, hpe, c0, c1, c2, c3, c4, cK⟩ := HK.out j k hjk
        have hst : dtdL (e.kids.drop j) = (dtd k || dtdL (e.kids.drop (j + 1))) := by
          obtain ⟨h1, h2⟩ := List.getElem?_eq_some_iff.1 hjk
          rw [List.drop_eq_getElem_cons h1, h2]; rfl
        rw [hst] at hX
        subst hpe
        have d0 := (hbr.cell (block_lt_of_cell c0)).trans c0
        have d1 := (hbr.cell (block_lt_of_cell c1)).trans c1
        have d2 := (hbr.cell (block_lt_of_cell c2)).trans c2
        have d3 := (hbr.cell (block_lt_of_cell c3)).trans c3
        have d4 := (hbr.cell (block_lt_of_cell c4)).trans c4
        have hbA := hbr.alloc hbr.size (.cells #[.int .i64 k.kind, .int .i64 k.a, .int .i64 k.b, .string ⟨k.name.toArray⟩, .slice ps k.kids.length cs] 25)
        have hxB := heap_alloc_new wr (.cells #[.int .i64 k.kind, .int .i64 k.a, .int .i64 k.b, .string ⟨k.name.toArray⟩, .slice ps k.kids.length cs] 25)
        have cR := cK _ hbA
        unfold exV at cR
        clear hst hjk c0 c1 c2 c3 c4 cK
        generalize hwB : wr.alloc (.cells #[.int .i64 k.kind, .int .i64 k.a, .int .i64 k.b, .string ⟨k.name.toArray⟩, .slice ps k.kids.length cs] 25) = wB at *
        cases hv : dtd k with
        | true =>
          rw [hv] at cR hX
          have HX : Hid (dtd e = true) := by show _ = _; rw [hX]; rfl
          clear hX hv HK
          go_wp2_with (refine wpList_load_row rfl 25 _ rfl _ rfl _ _ _ _ hxB exprType5 rfl (by kernel_rfl) ?_)
          refine cR.mono ?_
          rintro r w2 ⟨rfl, hb2⟩
          have hbw2 := hbA.trans (hb2.mono hbA.size)
          clear cR hb2 hbA hwB hxB
          go_wp2_with fail
          go_ret
          exact ⟨by (rw [HX.out]) <;> rfl, hbw2⟩
        | false =>
          rw [hv] at cR hX
          rw [Bool.false_or] at hX
          have HX := hid5 hX
          clear hX hv
          go_wp2_with (refine wpList_load_row rfl 25 _ rfl _ rfl _ _ _ _ hxB exprType5 rfl (by kernel_rfl) ?_)
          refine cR.mono ?_
          rintro r w2 ⟨rfl, hb2⟩
          have hbw2 := hbA.trans (hb2.mono hbA.size)
          clear cR hb2 hbA hwB hxB
          go_wp2_with fail
          go_roundw
          case rel => exact ⟨j + 1, by go_num, by omega, HX.out, hbw2⟩
          case measure => simp [intOf]; omega
      · have hlt' : ¬ (j : Int) < (e.kids.length : Int) := by omega
        have HX : Hid (dtd e = false) := by
          show _ = _
          rw [hX, List.drop_of_length_le (by omega)]
          rfl
        clear hX HK HR
        go_wp2_with fail
        go_ret
        exact ⟨by (rw [HX.out]) <;> rfl, hbr⟩
theorem dated_any : ∀ (d : Nat) (e : Ex) (sl : Value) (w : World), KidsB (fun k => k < w.heap.size) d w sl e.kids →  Calls Tryz.prog 15 #[exV e sl] w fun r w' => r = .returned (.bool (dtd e)) ∧ Below w.heap.size w w'
  | 0, e, sl, w, hk => by
    obtain ⟨h0, p, c, rfl⟩ := hk
    have := dated_step e p c w  (by rw [h0]; decide) (fun j k hj => by rw [h0] at hj; simp at hj)
    rw [h0] at this
    exact this
  | d + 1, e, sl, w, hk => by
    obtain ⟨pe, ce, hsl⟩ := hk.form
    subst hsl
    have hlk : (e.kids.length : Int) < 9223372036854775808 := by
      rcases hk with ⟨h0, _⟩ | ⟨_, _, _, _, _, hl, _⟩
      · rw [h0]; decide
      · omega
    refine dated_step e pe ce w  hlk fun j k hj => ?_
    rcases hk with ⟨h0, _⟩ | ⟨g, o, c, hB, hs, hl, hkk⟩
    · rw [h0] at hj; simp at hj
    · obtain ⟨_, sk, c0, c1, c2, c3, c4, r⟩ := hkk j k hj
      obtain ⟨ps, cs, rfl⟩ := r.form
      injection hs with e1
      exact ⟨g, o, ps, cs, e1, c0, c1, c2, c3, c4, fun W hb => dated_any d k _ W ((r.kept fun q _ hl => hb.block q hl).mono fun q hq => Nat.lt_of_lt_of_le hq hb.size)⟩

end Go.Proofs.YtllcpoibnmhghaaGreatDoor

/- What the document's Same comes to at two rows of the same masks: true. Written by genrmi.py. -/
namespace Go.Proofs.YtllcpoibnmhghaaGreatDoor
open Go.RowKit Lx Msk
theorem neq_same (f : Nat → Bool) (w : World) : (binOp .neq 29 (.agg (mv f)) (.agg (mv f))).run Tryz.prog w = .ok (.bool false) w := by
  rw [neq_mask, eqm_true fun _ _ => rfl]
  rfl
theorem RowM.below {w w' : World} {v : Value} {fs : List (Nat → Bool)} (h : RowM w v fs) (hb : Below w.heap.size w w') : RowM w' v fs := by
  obtain ⟨p, c, h1, h2, h3⟩ := h
  refine ⟨p, c, h1, h2, fun i f hi => ?_⟩
  obtain ⟨g, o, e, hr⟩ := h3 i f hi
  exact ⟨g, o, e, range_later hr hb⟩
set_option maxRecDepth 100000 in
set_option maxHeartbeats 1000000 in
theorem rsame_true (fs : List (Nat → Bool)) (va vb : Value) (w : World) (h : RowM w va fs) (h' : RowM w vb fs) :
    Calls Tryz.prog 17 #[va, vb] w fun e w' => e = .returned (.bool true) ∧ Below w.heap.size w w' := by
  obtain ⟨p, c, rfl, hl, hrow⟩ := h
  obtain ⟨p', c', rfl, _, hrow'⟩ := h'
  by_cases hn : fs = []
  · subst hn
    clear hrow hrow'
    go_enter Tryz.func17, Tryz.ntmps17
    go_wp2_with fail
    refine wp_loop_rounds 1 ?_
    rw [rounds_succ]
    go_wp2_with fail
    go_ret
    exact ⟨rfl, Below.refl _ _⟩
  · obtain ⟨f0, hf0⟩ : ∃ f, fs[0]? = some f := ⟨fs[0]'(List.length_pos_iff.2 hn), List.getElem?_eq_getElem _⟩
    obtain ⟨g, o, rfl, _⟩ := hrow 0 f0 hf0
    obtain ⟨g', o', rfl, _⟩ := hrow' 0 f0 hf0
    have HC := hid5 hrow
    have HC' := hid5 hrow'
    have hlI : (fs.length : Int) ≤ 40 := by omega
    clear hrow hrow' hn hf0
    go_enter Tryz.func17, Tryz.ntmps17
    go_wp2_with fail
    go_loopw [5, 13] (fun _ i wr => ∃ k : Nat, k ≤ fs.length ∧ i = .int .i64 k ∧ Below w.heap.size w wr) (fun _ i _ => fs.length - (intOf i).toNat)
    case atStart => exact ⟨0, Nat.zero_le _, rfl, Below.refl _ _⟩
    case round =>
      obtain ⟨k, hk, rfl, hbel⟩ := hrel
      by_cases hlt : k < fs.length
      · obtain ⟨f, hf⟩ : ∃ f, fs[k]? = some f := ⟨fs[k], List.getElem?_eq_getElem hlt⟩
        obtain ⟨q, x, e, hr⟩ := HC.out k f hf
        cases e
        obtain ⟨q, x, e, hr'⟩ := HC'.out k f hf
        cases e
        have HR := hid5 (range_later hr hbel)
        have HR' := hid5 (range_later hr' hbel)
        have hi0 : (0 : Int) ≤ (k : Int) := by omega
        have hi1 : (k : Int) < (fs.length : Int) := by omega
        clear hr hr' hf HC HC'
        go_wp2_with fail
        refine wp_region_lastK (Below wr.heap.size wr) ((Below.refl _ _).drew) (by kernel_rfl) (by kernel_rfl) (by kernel_rfl) (by kernel_rfl) 8 (by kernel_rfl) (by kernel_rfl) [(16, .slice (some ⟨g, o, none⟩) fs.length c), (17, .int .i64 (k : Int)), (18, .pointer (some ⟨g, o + k * 23, none⟩)), (19, .agg (mv f)), (20, .slice (some ⟨g', o', none⟩) fs.length c'), (21, .int .i64 (k : Int)), (22, .pointer (some ⟨g', o' + k * 23, none⟩)), (23, .agg (mv f))] (by kernel_rfl) (by kernel_rfl) ?_ ?_
        · intro i' s v o' L A W2 ho hv hdep hJ hkept hhas
          match i', ho, hv with
          | 0, ho, hv =>
            cases Option.some.inj ho
            cases Option.some.inj hv
            have h0 : A.tmps[0]?.getD undef = .slice (some ⟨g, o, none⟩) fs.length c := (gd A 0).trans (hkept 0 (by kernel_rfl))
            refine wpOp_step rfl (fun K hK => ?_)
            go_simp
            exact hK _ _ ⟨rfl, hJ⟩
          | 1, ho, hv =>
            cases Option.some.inj ho
            cases Option.some.inj hv
            have h5 : A.tmps[5]?.getD undef = .int .i64 (k : Int) := (gd A 5).trans (hkept 5 (by kernel_rfl))
            refine wpOp_step rfl (fun K hK => ?_)
            go_simp
            exact hK _ _ ⟨rfl, hJ⟩
          | 2, ho, hv =>
            cases Option.some.inj ho
            cases Option.some.inj hv
            have h16 : A.tmps[16]?.getD undef = .slice (some ⟨g, o, none⟩) fs.length c := (gd A 16).trans (hhas 0 16 _ rfl (hdep ⟨0, .data⟩ (by simp) rfl))
            have h17 : A.tmps[17]?.getD undef = .int .i64 (k : Int) := (gd A 17).trans (hhas 1 17 _ rfl (hdep ⟨1, .data⟩ (by simp) rfl))
            refine wpOp_step rfl (fun K hK => ?_)
            go_simp
            exact hK _ _ ⟨rfl, hJ⟩
          | 3, ho, hv =>
            cases Option.some.inj ho
            cases Option.some.inj hv
            have h18 : A.eval (.tmp 18) = .pointer (some ⟨g, o + k * 23, none⟩) := hhas 2 18 _ rfl (hdep ⟨2, .data⟩ (by simp) rfl)
            refine wpOp_step rfl (fun K hK => ?_)
            show Oper.wp _ _ _ _ _ _
            refine wp_load_mask _ rfl g (o + k * 23) h18 f (range_later HR.out hJ) ?_
            exact hK _ _ ⟨rfl, hJ⟩
          | 4, ho, hv =>
            cases Option.some.inj ho
            cases Option.some.inj hv
            have h1 : A.tmps[1]?.getD undef = .slice (some ⟨g', o', none⟩) fs.length c' := (gd A 1).trans (hkept 1 (by kernel_rfl))
            refine wpOp_step rfl (fun K hK => ?_)
            go_simp
            exact hK _ _ ⟨rfl, hJ⟩
          | 5, ho, hv =>
            cases Option.some.inj ho
            cases Option.some.inj hv
            have h5 : A.tmps[5]?.getD undef = .int .i64 (k : Int) := (gd A 5).trans (hkept 5 (by kernel_rfl))
            refine wpOp_step rfl (fun K hK => ?_)
            go_simp
            exact hK _ _ ⟨rfl, hJ⟩
          | 6, ho, hv =>
            cases Option.some.inj ho
            cases Option.some.inj hv
            have h20 : A.tmps[20]?.getD undef = .slice (some ⟨g', o', none⟩) fs.length c' := (gd A 20).trans (hhas 4 20 _ rfl (hdep ⟨4, .data⟩ (by simp) rfl))
            have h21 : A.tmps[21]?.getD undef = .int .i64 (k : Int) := (gd A 21).trans (hhas 5 21 _ rfl (hdep ⟨5, .data⟩ (by simp) rfl))
            refine wpOp_step rfl (fun K hK => ?_)
            go_simp
            exact hK _ _ ⟨rfl, hJ⟩
          | 7, ho, hv =>
            cases Option.some.inj ho
            cases Option.some.inj hv
            have h22 : A.eval (.tmp 22) = .pointer (some ⟨g', o' + k * 23, none⟩) := hhas 6 22 _ rfl (hdep ⟨6, .data⟩ (by simp) rfl)
            refine wpOp_step rfl (fun K hK => ?_)
            show Oper.wp _ _ _ _ _ _
            refine wp_load_mask _ rfl g' (o' + k * 23) h22 f (range_later HR'.out hJ) ?_
            exact hK _ _ ⟨rfl, hJ⟩
          | kk + 8, ho, hv => simp at hv
        · intro o' W2 A ho hJ hA
          cases Option.some.inj ho
          have h19 : A.tmps[19]?.getD undef = .agg (mv f) := by
            rw [hA]
            simp only [putAll_cons, putAll_nil, Act.put, List.setIfInBounds_toArray, List.set_cons_succ, List.set_cons_zero]
            rfl
          have h23 : A.tmps[23]?.getD undef = .agg (mv f) := by
            rw [hA]
            simp only [putAll_cons, putAll_nil, Act.put, List.setIfInBounds_toArray, List.set_cons_succ, List.set_cons_zero]
            rfl
          have HA := hid5 hA
          have hq := neq_same f
          clear hA
          refine wpOp_step rfl (fun K hK => ?_)
          go_simp
          refine hK _ _ ⟨⟨_, rfl⟩, ?_⟩
          have hA := HA.out
          clear HA hq h19 h23
          change Exit.then _ _ Exit.normal (A.put (some 24) (.bool false)) _
          subst hA
          simp only [putAll_cons, putAll_nil, Act.put, List.setIfInBounds_toArray, List.set_cons_succ, List.set_cons_zero]
          have hbN := hbel.trans (hJ.mono hbel.size)
          clear hK hJ
          go_wp2_with fail
          go_roundw
          case rel => exact ⟨k + 1, by omega, by go_num, hbN⟩
          case measure => simp [intOf]; omega
      · have hi1 : ¬ (k : Int) < (fs.length : Int) := by omega
        clear HC HC'
        go_wp2_with fail
        go_ret
        exact ⟨rfl, hbel⟩
end Go.Proofs.YtllcpoibnmhghaaGreatDoor

/- What the law MeanWeeks comes to. -/
namespace Go.Proofs.YtllcpoibnmhghaaGreatDoor
open Go.RowKit Lx
theorem eqFaultW (a b : Int) (w : World) : (Op.equalIn 10000 43 (.agg #[.int .i64 a, .int .i64 b]) (.agg #[.int .i64 a, .int .i64 b])).run Tryz.prog w = .ok true w := by
  rw [run_equalIn_struct w 9999 43 _ _ (by kernel_rfl) (by kernel_rfl)]
  simp [Program.fieldsOf, Tryz.underlying43, Op.eqFields]
  go_simp
theorem eqlFaultW (a b : Int) (w : World) : (binOp .eql 43 (.agg #[.int .i64 a, .int .i64 b]) (.agg #[.int .i64 a, .int .i64 b])).run Tryz.prog w = .ok (.bool true) w := by
  rw [run_eql_struct, eqFaultW]; simp [Result.andThen]
theorem faultT6w : Tryz.prog.underlying 43 = some (.struct (Tryz.prog.fieldsOf 43)) := by kernel_rfl
attribute [local go_sem] eqlFaultW
/-- None of the first so many speaks of dates. -/
def NoD (l : List Ru) (j : Nat) : Prop := ∀ v ∈ l.take j, dtd v.2 = false
theorem NoD.step {l : List Ru} {j : Nat} {u : Ru} (h : NoD l j) (hu : l[j]? = some u) (h2 : dtd u.2 = false) : NoD l (j + 1) := fun v hv => by
  rw [List.take_add_one, hu, Option.toList_some, List.mem_append, List.mem_singleton] at hv
  rcases hv with hv | rfl
  · exact h v hv
  · exact h2
theorem mean_same_week {l : List Ru} (hd : ∀ u ∈ l, dtd u.2 = false) {day k : Int} (h0 : 0 ≤ day) (hk : 0 ≤ k) (h1 : day + 7 * k < 146097) : mflt l (day + 7 * k) = mflt l day ∧ meanL l (day + 7 * k) = meanL l day := by
  have e1 : mflt l (day + 7 * k) = mflt l day := by
    unfold mflt
    rw [if_neg (show ¬ (day + 7 * k < 0 ∨ 146097 ≤ day + 7 * k) by omega), if_neg (show ¬ (day < 0 ∨ 146097 ≤ day) by omega)]
  refine ⟨e1, ?_⟩
  unfold meanL
  rw [e1]
  split
  · refine List.map_congr_left fun i _ => ?_
    exact mean_week (fun a => wkB_week h0 hk a) hd _ _
  · rfl
set_option maxRecDepth 100000 in
set_option maxHeartbeats 4000000 in
theorem mweeks_walk (us : List (Ru × Value)) (v : Value) (day wk : Int) (w : World) (h : InR w v us) (hPT : PT2 w) : Calls Tryz.prog 5 #[v, .int .i64 day, .int .i64 wk] w fun e w' => e = .returned (.bool true) ∧ Below w.heap.size w w' := by
  obtain ⟨l, hl⟩ : ∃ l, us.map (fun p => p.1) = l := ⟨_, rfl⟩
  have hll : l.length = us.length := by rw [← hl, List.length_map]
  obtain ⟨pv, cv, rfl⟩ := h.form
  have hlen := h.len
  have c0 := alive6_any w hPT
  have HI := hid5 h
  have HL := hid5 hl
  have HLL := hid5 hll
  clear h hl hll hPT
  go_enter Tryz.func5, Tryz.ntmps5
  go_wp2_with fail
  refine c0.mono ?_
  rintro e w0 ⟨rfl, hb0⟩
  clear c0
  by_cases h1 : day < 0
  · go_wp2_with fail
    go_ret
    exact ⟨rfl, hb0⟩
  by_cases h2 : wk < 0
  · go_wp2_with fail
    go_ret
    exact ⟨rfl, hb0⟩
  by_cases h3 : 20000 < wk
  · go_wp2_with fail
    go_ret
    exact ⟨rfl, hb0⟩
  by_cases h4 : 146097 < day
  · go_wp2_with fail
    go_ret
    exact ⟨rfl, hb0⟩
  by_cases h5 : 146097 ≤ day + 7 * wk
  · go_wp2_with fail
    go_ret
    exact ⟨rfl, hb0⟩
  go_wp2_with fail
  go_loopw [8, 38] (fun _ t wr => ∃ j : Nat, t = .int .i64 (j : Int) ∧ j ≤ us.length ∧ NoD l j ∧ Below w.heap.size w wr) (fun _ t _ => us.length - (intOf t).toNat)
  case atStart => exact ⟨0, rfl, by omega, fun v hv => by simp at hv, hb0⟩
  case round =>
    obtain ⟨j, rfl, hj, hno, hbr⟩ := hrel
    have hj0 : (0 : Int) ≤ (j : Int) := by omega
    have Hno := hid5 hno
    clear hno hb0
    by_cases hlt : j < us.length
    · have hlt' : (j : Int) < (us.length : Int) := by omega
      obtain ⟨⟨u, sk⟩, hik⟩ : ∃ p, us[j]? = some p := ⟨us[j], List.getElem?_eq_getElem hlt⟩
      have hul : l[j]? = some u := by rw [← HL.out, List.getElem?_map, hik]; rfl
      obtain ⟨g, o, hpe, c0, c1, c2, c3, c4, c5⟩ := HI.out.cells j _ hik
      obtain ⟨_, _, _, hkk⟩ := HI.out.all _ (List.mem_of_getElem? hik)
      dsimp only at c0 c1 c2 c3 c4 c5 hkk
      obtain ⟨ps, cs, rfl⟩ := hkk.form
      have hme := List.mem_of_getElem? hik
      subst hpe
      have d0 := (hbr.cell (block_lt_of_cell c0)).trans c0
      have d1 := (hbr.cell (block_lt_of_cell c1)).trans c1
      have d2 := (hbr.cell (block_lt_of_cell c2)).trans c2
      have d3 := (hbr.cell (block_lt_of_cell c3)).trans c3
      have d4 := (hbr.cell (block_lt_of_cell c4)).trans c4
      have d5 := (hbr.cell (block_lt_of_cell c5)).trans c5
      have hbA := hbr.alloc hbr.size (.cells #[.string ⟨u.1.toArray⟩, .int .i64 u.2.kind, .int .i64 u.2.a, .int .i64 u.2.b, .string ⟨u.2.name.toArray⟩, .slice ps u.2.kids.length cs] 38)
      have hxB := heap_alloc_new wr (.cells #[.string ⟨u.1.toArray⟩, .int .i64 u.2.kind, .int .i64 u.2.a, .int .i64 u.2.b, .string ⟨u.2.name.toArray⟩, .slice ps u.2.kids.length cs] 38)
      generalize hwB : wr.alloc (.cells #[.string ⟨u.1.toArray⟩, .int .i64 u.2.kind, .int .i64 u.2.a, .int .i64 u.2.b, .string ⟨u.2.name.toArray⟩, .slice ps u.2.kids.length cs] 38) = wB at *
      have r1 := (cell_of_row _ _ 1 _ _ _ hxB).trans rfl
      have r2 := (cell_of_row _ _ 2 _ _ _ hxB).trans rfl
      have r3 := (cell_of_row _ _ 3 _ _ _ hxB).trans rfl
      have r4 := (cell_of_row _ _ 4 _ _ _ hxB).trans rfl
      have r5 := (cell_of_row _ _ 5 _ _ _ hxB).trans rfl
      have cS := dated_any _ u.2 _ wB ((HI.out.below hbA).all _ hme).2.2.choose_spec
      unfold exV at cS
      have Hul := hid5 hul
      clear c0 c1 c2 c3 c4 c5 hxB hbr hkk hik hme hul
      cases hsp : dtd u.2 with
      | true =>
        rw [hsp] at cS
        clear hsp
        go_wp2_with fail
        refine cS.mono ?_
        rintro e w2 ⟨rfl, hb2⟩
        have hbw2 := hbA.trans (hb2.mono hbA.size)
        clear cS hb2 hbA hwB
        go_wp2_with fail
        go_ret
        exact ⟨rfl, hbw2⟩
      | false =>
        rw [hsp] at cS
        have HN := hid5 (Hno.out.step Hul.out hsp)
        clear hsp Hno
        go_wp2_with fail
        refine cS.mono ?_
        rintro e w2 ⟨rfl, hb2⟩
        have hbw2 := hbA.trans (hb2.mono hbA.size)
        clear cS hb2 hbA hwB d0 d1 d2 d3 d4 d5 r1 r2 r3 r4 r5
        go_wp2_with fail
        go_roundw
        case rel => exact ⟨j + 1, by go_num, by omega, HN.out, hbw2⟩
        case measure => simp [intOf]; omega
    · have ej : j = us.length := by omega
      have hlt' : ¬ (j : Int) < (us.length : Int) := by omega
      have hd : ∀ u ∈ l, dtd u.2 = false := fun u hu => Hno.out u (by
        rw [ej, ← HLL.out, List.take_length]
        exact hu)
      obtain ⟨e1, e2⟩ := mean_same_week hd (day := day) (k := wk) (by omega) (by omega) (by omega)
      have c1 := mall_any us _ day wr (HI.out.below hbr)
      have c2 := fun W (hW : Below w.heap.size w W) => mall_any us _ (day + 7 * wk) W (HI.out.below hW)
      rw [HL.out] at c1 c2
      unfold OutMe at c1 c2
      rw [e1, e2] at c2
      generalize (mflt l day).1 = er at *
      generalize (((mflt l day).2 : Nat) : Int) = at0 at *
      generalize meanL l day = fs at *
      clear hd e1 e2 Hno HI HL HLL ej
      go_wp2_with fail
      refine c1.mono ?_
      rintro e w1 ⟨va, rfl, hra, b1⟩
      have b1a := (hbr.trans (b1.mono hbr.size)).alloc (hbr.trans (b1.mono hbr.size)).size (.cells #[.int .i64 er, .int .i64 at0] 43)
      have n1 := heap_alloc_new w1 (.cells #[.int .i64 er, .int .i64 at0] 43)
      have hra1 := hra.below ((Below.refl w1.heap.size w1).alloc (Nat.le_refl _) (.cells #[.int .i64 er, .int .i64 at0] 43))
      generalize hw2 : w1.alloc (.cells #[.int .i64 er, .int .i64 at0] 43) = w2 at *
      have d2 := c2 w2 b1a
      have Hra := hid5 hra1
      clear c1 c2 b1 hra hra1 hbr
      go_wp2_with fail
      refine d2.mono ?_
      rintro e w3 ⟨vb, rfl, hrb, b3⟩
      have hb3 := b1a.trans (b3.mono b1a.size)
      have b3a := hb3.alloc hb3.size (.cells #[.int .i64 er, .int .i64 at0] 43)
      have bx := (Below.refl w3.heap.size w3).alloc (Nat.le_refl _) (.cells #[.int .i64 er, .int .i64 at0] 43)
      have n2 := heap_alloc_new w3 (.cells #[.int .i64 er, .int .i64 at0] 43)
      have n1' := (bx.block _ (by have := lt_of_block n1; have := b3.size; omega)).trans ((b3.block _ (lt_of_block n1)).trans n1)
      generalize hw4 : w3.alloc (.cells #[.int .i64 er, .int .i64 at0] 43) = w4 at *
      have d3 := rsame_true fs va vb w4 ((Hra.out.below b3).below bx) (hrb.below bx)
      clear d2 Hra hrb b3 b1a n1 hw2 bx hb3
      go_wp2_with (first
        | (refine wpList_load_row rfl 43 _ rfl _ rfl _ _ _ _ n1' faultT6w rfl (by kernel_rfl) ?_)
        | (refine wpList_load_row rfl 43 _ rfl _ rfl _ _ _ _ n2 faultT6w rfl (by kernel_rfl) ?_))
      refine d3.mono ?_
      rintro e w5 ⟨rfl, b5⟩
      have hb5 := b3a.trans (b5.mono b3a.size)
      clear d3 b5 b3a n1' n2 hw4
      go_wp2_with fail
      go_ret
      exact ⟨rfl, hb5⟩
end Go.Proofs.YtllcpoibnmhghaaGreatDoor
