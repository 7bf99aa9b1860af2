/- What check's Uses comes to; and Ints. -/
import Derived.Test.YtllcpoibnmhghaaGreatDoorTb23
import Derived.Test.YtllcpoibnmhghaaGreatDoorTb14
namespace Go.Proofs.YtllcpoibnmhghaaGreatDoor
open Go.RowKit Lx

/-- The numbers that are marked, of the first so many. -/
def mkL (m : Nat → Bool) (j : Nat) : List Int := ((List.range j).filter m).map fun k : Nat => (k : Int)
theorem mkL_succ (m : Nat → Bool) (j : Nat) : mkL m (j + 1) = if m j = true then mkL m j ++ [(j : Int)] else mkL m j := by
  unfold mkL
  rw [List.range_succ, List.filter_append, List.map_append]
  by_cases h : m j = true
  · simp [h]
  · simp [h]
theorem mkL_len (m : Nat → Bool) (j : Nat) : (mkL m j).length ≤ j := by
  unfold mkL
  rw [List.length_map]
  have := List.length_filter_le m (List.range j)
  simpa using this
/-- The numbers of all rules that a rule refers to. -/
def usesL (l : List Ru) (r : Int) : List Int := if r < 0 ∨ (l.length : Int) ≤ r ∨ (chkW l).1 ≠ 0 then [] else mkL (fol (leadS l) (l.length + 1) (fun _ => false) r.toNat) l.length
theorem chk_lk2 {l : List Ru} (h : (chkW l).1 = 0) : (wrongR l).1 = 0 ∧ ∀ u ∈ l, -1 ∉ spkR l u := by
  unfold chkW at h
  split at h
  · rename_i h0; exact absurd h h0
  · rename_i h0
    refine ⟨by simpa using h0, fun u hu hm => ?_⟩
    split at h
    · cases h
    · split at h
      · cases h
      · rename_i h2
        obtain ⟨j, hj⟩ := List.getElem?_of_mem hu
        have hj' : j < l.length := (List.getElem?_eq_some_iff.1 hj).1
        have hp : lk2 l j = true := by
          unfold lk2
          rw [hj]
          exact decide_eq_true hm
        have : ∀ (k i : Nat), i ≤ j → j < i + k → frF (lk2 l) i k ≠ none := by
          intro k
          induction k with
          | zero => intro i a b; omega
          | succ k ih =>
            intro i a b
            rw [frF]
            split
            · simp
            · rename_i hn
              have : i ≠ j := fun e => hn (by rw [e]; exact hp)
              exact ih (i + 1) (by omega) (by omega)
        exact this l.length 0 (by omega) (by omega) h2
theorem icells_snoc (ns : List Int) (n : Int) : icells (ns ++ [n]) = icells ns ++ [.int .i64 n] := by simp [icells]
/-- What a function with a row of numbers comes to. -/
def OutU (ns : List Int) (w : World) (e : Ending) (w' : World) : Prop := ∃ v, e = .returned v ∧ RowI w' v ns ∧ Below w.heap.size w w'
def URel (m : Nat → Bool) (n : Nat) (_ W0 : World) (q t : Value) (wr : World) : Prop := ∃ j : Nat, t = .int .i64 (j : Int) ∧ j ≤ n ∧ wr.ownsRow W0.heap.size 3 1 q (mkL m j).length (icells (mkL m j)) ∧ Below W0.heap.size W0 wr
theorem fieldFlt5 (c0 c1 : Value) (w : World) : (Instr.field 43 (.agg #[c0, c1]) 0).run Tryz.prog w = .ok c0 w := by
  unfold Instr.field
  simp [go_sem, asAgg]
attribute [go_sem] fieldFlt5
end Go.Proofs.YtllcpoibnmhghaaGreatDoor

/- What the document tells of who refers to whom is what the program tells: plain. -/
namespace Lx
/-- Right in itself, and so are all within. -/
theorem shape_kids {e : Ex} {deep n : Nat} (h : (shapeP e deep n).1 = 0) : aloneP e = 0 ∧ ∀ k ∈ e.kids, ∃ deep n, (shapeP k deep n).1 = 0 := by
  rw [shapeP_eq] at h
  split at h
  · cases h
  · split at h
    · rename_i h2; exact absurd h h2
    · rename_i h2
      refine ⟨by simpa using h2, ?_⟩
      have aux : ∀ (ks : List Ex) (m : Int × Nat), (shapeL ks (deep + 1) m).1 = 0 → m.1 = 0 → ∀ k ∈ ks, ∃ deep n, (shapeP k deep n).1 = 0 := by
        intro ks
        induction ks with
        | nil => intro _ _ _ k hk; cases hk
        | cons q ks ih =>
          intro m h0 hm k hk
          rw [shapeL_cons, if_neg (by simpa using hm)] at h0
          have hz : (shapeP q (deep + 1) m.2).1 = 0 := by
            by_cases hz : (shapeP q (deep + 1) m.2).1 = 0
            · exact hz
            · rw [shapeL_bad hz] at h0; exact h0
          rcases List.mem_cons.1 hk with rfl | hk
          · exact ⟨_, _, hz⟩
          · exact ih _ h0 hz k hk
      exact aux e.kids (0, n + 1) h rfl
theorem name_kids {e : Ex} (h : aloneP e = 0) (hk : e.kind = 10) : e.kids = [] := by
  unfold aloneP at h
  split at h
  · cases h
  · split at h
    · cases h
    · rename_i h2
      have : e.kids.length = kidsP e.kind := by simpa using h2
      rw [hk] at this
      exact List.length_eq_zero_iff.1 this
theorem spk_iff : ∀ (N : Nat) (e : Ex) (x : List UInt8), sizeOf e ≤ N → (∃ deep n, (shapeP e deep n).1 = 0) → (spk e x = true ↔ x ∈ nms e)
  | 0, e, _, hN, _ => by cases e; simp at hN
  | N + 1, e, x, hN, ⟨deep, n, h⟩ => by
    obtain ⟨h1, h2⟩ := shape_kids h
    rw [spk_eq, nms_eq]
    by_cases hk : e.kind = 10
    · rw [if_pos hk, if_pos hk, name_kids h1 hk]
      simp [nmsL, eq_comm]
    · rw [if_neg hk, if_neg hk, List.nil_append]
      unfold spkL nmsL
      rw [List.any_eq_true, List.mem_flatten]
      constructor
      · rintro ⟨k, hk, hs⟩
        exact ⟨nms k, List.mem_map.2 ⟨k, hk, rfl⟩, (spk_iff N k x (by have := kid_lt hk; omega) (h2 k hk)).1 hs⟩
      · rintro ⟨ns, hns, hx⟩
        obtain ⟨k, hk, rfl⟩ := List.mem_map.1 hns
        exact ⟨k, hk, (spk_iff N k x (by have := kid_lt hk; omega) (h2 k hk)).2 hx⟩
theorem unk_iff {l : List Ru} : ∀ (N : Nat) (e : Ex), sizeOf e ≤ N → (∃ deep n, (shapeP e deep n).1 = 0) → (unk e l = true ↔ ∃ x ∈ nms e, atP5 l x = -1)
  | 0, e, hN, _ => by cases e; simp at hN
  | N + 1, e, hN, ⟨deep, n, h⟩ => by
    obtain ⟨h1, h2⟩ := shape_kids h
    rw [unk_eq, nms_eq]
    by_cases hk : e.kind = 10
    · rw [if_pos hk, if_pos hk, name_kids h1 hk]
      have hb := (atP5_bd l e.name).1
      simp [nmsL]
      omega
    · rw [if_neg hk, if_neg hk, List.nil_append]
      unfold unkL nmsL
      rw [List.any_eq_true]
      constructor
      · rintro ⟨k, hk, hs⟩
        obtain ⟨x, hx, hx2⟩ := (unk_iff N k (by have := kid_lt hk; omega) (h2 k hk)).1 hs
        exact ⟨x, List.mem_flatten.2 ⟨nms k, List.mem_map.2 ⟨k, hk, rfl⟩, hx⟩, hx2⟩
      · rintro ⟨x, hx, hx2⟩
        obtain ⟨ns, hns, hx⟩ := List.mem_flatten.1 hx
        obtain ⟨k, hk, rfl⟩ := List.mem_map.1 hns
        exact ⟨k, hk, (unk_iff N k (by have := kid_lt hk; omega) (h2 k hk)).2 ⟨x, hx, hx2⟩⟩
/-- Which rule leads to which, as the document says it. -/
def edgE (l : List Ru) (i k : Nat) : Bool := match l[i]?, l[k]? with | some u, some v => decide (atP5 l v.1 = (k : Int)) && spk u.2 v.1 | _, _ => false
theorem wars_same {E E' : Nat → Nat → Bool} {n : Nat} (h : ∀ i k, i < n → k < n → E i k = E' i k) : ∀ (m i k : Nat), m ≤ n → i < n → k < n → wars E m i k = wars E' m i k
  | 0, i, k, _, hi, hk => h i k hi hk
  | m + 1, i, k, hm, hi, hk => by
    simp only [wars]
    rw [wars_same h m i k (by omega) hi hk, wars_same h m i m (by omega) hi (by omega), wars_same h m m k (by omega) (by omega) hk]
end Lx
namespace Go.Proofs.YtllcpoibnmhghaaGreatDoor
open Go.RowKit Lx

theorem right_all {l : List Ru} (h : (wrongR l).1 = 0) : ∀ u ∈ l, ∃ deep n, (shapeP u.2 deep n).1 = 0 := by
  unfold wrongR at h
  split at h
  · cases h
  · have aux : ∀ (l : List Ru) (i : Nat), (wrongL l i).1 = 0 → ∀ u ∈ l, ruleP u = 0 := by
      intro l
      induction l with
      | nil => intro _ _ u hu; cases hu
      | cons x l ih =>
        intro i h u hu
        rw [wrongL] at h
        split at h
        · rename_i hx; exact absurd h hx
        · rename_i hx
          rcases List.mem_cons.1 hu with rfl | hu
          · simpa using hx
          · exact ih _ h u hu
    intro u hu
    have hr := aux l 0 h u hu
    unfold ruleP at hr
    split at hr
    · cases hr
    · exact ⟨1, 0, hr⟩
def rk2 (l : List Ru) (i : Nat) : Bool := match l[i]? with | some u => unk u.2 l | none => false
def rk3 (l : List Ru) (i : Nat) : Bool := wars (edgE l) l.length i i
theorem rk2_same {l : List Ru} (h : (wrongR l).1 = 0) (i : Nat) : rk2 l i = lk2 l i := by
  unfold rk2 lk2
  cases hu : l[i]? with
  | none => rfl
  | some u =>
    dsimp only
    have hr := right_all h u (List.mem_of_getElem? hu)
    have h1 := unk_iff (l := l) _ u.2 (Nat.le_refl _) hr
    have h2 := spoken_mem (l := l) (m := -1) (nms u.2) []
    have h3 : (-1 ∈ spkR l u) ↔ unk u.2 l = true := by
      rw [h1]
      unfold spkR
      rw [h2]
      simp
    by_cases hm : -1 ∈ spkR l u
    · rw [decide_eq_true hm, h3.1 hm]
    · rw [decide_eq_false hm]
      cases hb : unk u.2 l with
      | false => rfl
      | true => exact absurd (h3.2 hb) hm
theorem edge_same {l : List Ru} (h : (wrongR l).1 = 0) (hno : ∀ u ∈ l, -1 ∉ spkR l u) {i k : Nat} (hi : i < l.length) (hk : k < l.length) : edgE l i k = (leadS l i).contains k := by
  obtain ⟨u, hu⟩ : ∃ u, l[i]? = some u := ⟨l[i], List.getElem?_eq_getElem hi⟩
  obtain ⟨v, hv⟩ : ∃ v, l[k]? = some v := ⟨l[k], List.getElem?_eq_getElem hk⟩
  have hr := right_all h u (List.mem_of_getElem? hu)
  have h1 := spk_iff _ u.2 v.1 (Nat.le_refl _) hr
  have hc : (leadS l i).contains k = true ↔ (k : Int) ∈ spkR l u := by
    rw [leadS_at hu, List.contains_iff_mem]
    unfold natsOf
    rw [List.mem_map]
    constructor
    · rintro ⟨m, hm, e⟩
      have hb := (spoken_len (l := l) (nms u.2) [] List.nodup_nil (fun m hm => by cases hm)).2 m hm
      have hne : m ≠ -1 := fun e => hno u (List.mem_of_getElem? hu) (e ▸ hm)
      have : m = (k : Int) := by omega
      rw [← this]; exact hm
    · intro hm
      exact ⟨(k : Int), hm, by omega⟩
  have h2 : (k : Int) ∈ spkR l u ↔ edgE l i k = true := by
    unfold spkR edgE
    rw [spoken_mem, hu, hv]
    dsimp only
    rw [Bool.and_eq_true, decide_eq_true_eq, h1]
    constructor
    · rintro (hx | ⟨x, hx, hx2⟩)
      · cases hx
      · obtain ⟨v', hv', e⟩ := atP5_name hx2
        rw [hv] at hv'
        cases hv'
        rw [e]
        exact ⟨hx2, hx⟩
    · rintro ⟨ha, hb⟩
      exact .inr ⟨v.1, hb, ha⟩
  cases hb : edgE l i k with
  | true => exact (hc.2 (h2.2 hb)).symm
  | false =>
    cases hd : (leadS l i).contains k with
    | false => rfl
    | true => rw [h2.1 (hc.1 hd)] at hb; cases hb
theorem leadS_lt {l : List Ru} (hno : ∀ u ∈ l, -1 ∉ spkR l u) : ∀ r, ∀ k ∈ leadS l r, k < l.length := fun i k hk' => by
  unfold leadS at hk'
  split at hk'
  · rename_i u hu
    unfold natsOf at hk'
    obtain ⟨m, hm, rfl⟩ := List.mem_map.1 hk'
    have hb := (spoken_len (l := l) (nms u.2) [] List.nodup_nil (fun m hm => by cases hm)).2 m hm
    have hne : m ≠ -1 := fun e => hno u (List.mem_of_getElem? hu) (e ▸ hm)
    omega
  · cases hk'
theorem reach_same {l : List Ru} (h : (wrongR l).1 = 0) (hno : ∀ u ∈ l, -1 ∉ spkR l u) {i k : Nat} (hi : i < l.length) (hk : k < l.length) : wars (edgE l) l.length i k = fol (leadS l) (l.length + 1) (fun _ => false) i k := by
  rw [fol_wars (leadS_lt hno) (Nat.le_refl _)]
  exact wars_same (fun i k hi hk => edge_same h hno hi hk) l.length i k (Nat.le_refl _) hi hk
/-- What is wrong, as the document says it. -/
def refW (l : List Ru) : Int × Nat := if (wrongR l).1 ≠ 0 then wrongR l else match frF (lk1 l) 0 l.length with
  | some i => (7, i)
  | none => match frF (rk2 l) 0 l.length with
    | some i => (6, i)
    | none => match frF (rk3 l) 0 l.length with
      | some i => (9, i)
      | none => (0, 0)
theorem frF_same {p q : Nat → Bool} : ∀ (k i : Nat), (∀ j, i ≤ j → j < i + k → p j = q j) → frF p i k = frF q i k
  | 0, _, _ => rfl
  | k + 1, i, h => by
    rw [frF, frF, h i (Nat.le_refl _) (by omega), frF_same k (i + 1) fun j a b => h j (by omega) (by omega)]
theorem frF_all {p : Nat → Bool} : ∀ (k i : Nat), frF p i k = none → ∀ j, i ≤ j → j < i + k → p j = false
  | 0, i, _, j, a, b => by omega
  | k + 1, i, h, j, a, b => by
    rw [frF] at h
    split at h
    · cases h
    · rename_i hn
      by_cases e : j = i
      · rw [e]; simpa using hn
      · exact frF_all k (i + 1) h j (by omega) (by omega)
theorem lk2_no {l : List Ru} (h : frF (lk2 l) 0 l.length = none) : ∀ u ∈ l, -1 ∉ spkR l u := fun u hu hm => by
  obtain ⟨j, hj⟩ := List.getElem?_of_mem hu
  have hj' : j < l.length := (List.getElem?_eq_some_iff.1 hj).1
  have := frF_all l.length 0 h j (by omega) (by omega)
  unfold lk2 at this
  rw [hj] at this
  dsimp only at this
  rw [decide_eq_true hm] at this
  cases this
theorem refW_same (l : List Ru) : refW l = chkW l := by
  unfold refW chkW
  by_cases h0 : (wrongR l).1 ≠ 0
  · rw [if_pos h0, if_pos h0]
  rw [if_neg h0, if_neg h0]
  have h0' : (wrongR l).1 = 0 := by simpa using h0
  rw [frF_same (p := rk2 l) (q := lk2 l) l.length 0 fun j _ _ => rk2_same h0' j]
  cases frF (lk1 l) 0 l.length with
  | some i => rfl
  | none =>
    dsimp only
    cases h2 : frF (lk2 l) 0 l.length with
    | some i => rfl
    | none =>
      dsimp only
      have hno := lk2_no h2
      rw [frF_same (p := rk3 l) (q := lk3 l) l.length 0 fun j _ hj => reach_same h0' hno (by omega) (by omega)]
      cases frF (lk3 l) 0 l.length <;> rfl
theorem mkL_same {m m' : Nat → Bool} {n : Nat} (h : ∀ k, k < n → m k = m' k) : mkL m n = mkL m' n := by
  unfold mkL
  congr 1
  exact List.filter_congr fun k hk => h k (by simpa using hk)
theorem usesL_ref {l : List Ru} {r : Nat} (h : (chkW l).1 = 0) (hr : r < l.length) : mkL (wars (edgE l) l.length r) l.length = mkL (fol (leadS l) (l.length + 1) (fun _ => false) r) l.length := by
  obtain ⟨h0, hno⟩ := chk_lk2 h
  exact mkL_same fun k hk => reach_same h0 hno hr hk
end Go.Proofs.YtllcpoibnmhghaaGreatDoor

/- The texts that alive asks of, and what is told of their rules: plain. -/
namespace Go.Proofs.YtllcpoibnmhghaaGreatDoor
open Go.RowKit Lx

def a5S : List UInt8 := [114, 117, 108, 101, 32, 97, 32, 61, 32, 98, 32, 43, 32, 99, 59, 32, 114, 117, 108, 101, 32, 98, 32, 61, 32, 99, 59, 32, 114, 117, 108, 101, 32, 99, 32, 61, 32, 97, 108, 119, 97, 121, 115, 59]
def b5S : List UInt8 := [114, 117, 108, 101, 32, 97, 32, 61, 32, 97, 59]
def xN (n : UInt8) : Ex := ⟨10, 0, 0, [n], []⟩
def a5X : Ex := ⟨6, 0, 0, [], [xN 98, xN 99]⟩
def a5L : List Ru := [([97], a5X), ([98], xN 99), ([99], ⟨2, 0, 0, [], []⟩)]
def b5L : List Ru := [([97], xN 97)]
def a5T : List Tk := ((iterN a5S 17).getD ([], 0)).1
def b5T : List Tk := ((iterN b5S 5).getD ([], 0)).1
theorem a5_iter : iterN a5S 17 = some (a5T, 44) := by kernel_rfl
theorem b5_iter : iterN b5S 5 = some (b5T, 11) := by kernel_rfl
theorem a5_rules : rulesR a5S.length (a5T.length + 1) [] a5T = .ok a5L := by kernel_rfl
theorem b5_rules : rulesR b5S.length (b5T.length + 1) [] b5T = .ok b5L := by kernel_rfl
theorem a5_wrong : wrongR a5L = (0, 0) := by
  have s1 : (shapeP a5X 1 0).1 = 0 := by
    simp only [a5X, xN, shapeP_eq, shapeL_cons, shapeL_nil]
    decide
  have s2 : (shapeP (xN 99) 1 0).1 = 0 := by
    simp only [xN, shapeP_eq, shapeL_nil]
    decide
  have s3 : (shapeP ⟨2, 0, 0, [], []⟩ 1 0).1 = 0 := by
    simp only [shapeP_eq, shapeL_nil]
    decide
  unfold wrongR a5L wrongL ruleP
  rw [s1]
  unfold wrongL ruleP
  rw [s2]
  unfold wrongL ruleP
  rw [s3]
  decide
theorem b5_wrong : wrongR b5L = (0, 0) := by
  have s2 : (shapeP (xN 97) 1 0).1 = 0 := by
    simp only [xN, shapeP_eq, shapeL_nil]
    decide
  unfold wrongR b5L wrongL ruleP
  rw [s2]
  decide
theorem a5_spk0 : spkR a5L ([97], a5X) = [1, 2] := by
  have : nms a5X = [[98], [99]] := by simp [a5X, xN, nms_eq, nmsL]
  unfold spkR
  dsimp only
  rw [this]
  decide
theorem a5_spk1 : spkR a5L ([98], xN 99) = [2] := by
  have : nms (xN 99) = [[99]] := by simp [xN, nms_eq, nmsL]
  unfold spkR
  dsimp only
  rw [this]
  decide
theorem a5_spk2 : spkR a5L ([99], ⟨2, 0, 0, [], []⟩) = [] := by
  have : nms ⟨2, 0, 0, [], []⟩ = [] := by simp [nms_eq, nmsL]
  unfold spkR
  dsimp only
  rw [this]
  decide
theorem b5_spk : spkR b5L ([97], xN 97) = [0] := by
  have : nms (xN 97) = [[97]] := by simp [xN, nms_eq, nmsL]
  unfold spkR
  dsimp only
  rw [this]
  decide
theorem a5_lead : leadS a5L = fun i => ([[1, 2], [2], []] : List (List Nat)).getD i [] := by
  funext i
  match i with
  | 0 => exact (leadS_at rfl).trans (by rw [a5_spk0]; rfl)
  | 1 => exact (leadS_at rfl).trans (by rw [a5_spk1]; rfl)
  | 2 => exact (leadS_at rfl).trans (by rw [a5_spk2]; rfl)
  | i + 3 => rfl
theorem b5_lead : leadS b5L = fun i => ([[0]] : List (List Nat)).getD i [] := by
  funext i
  match i with
  | 0 => exact (leadS_at rfl).trans (by rw [b5_spk]; rfl)
  | i + 1 => rfl
theorem a5_chk : chkW a5L = (0, 0) := by
  refine chk_d (by rw [a5_wrong]) ?_ ?_ ?_
  · intro i hi
    match i, hi with
    | 0, _ => decide
    | 1, _ => decide
    | 2, _ => decide
    | i + 3, hi => exact absurd hi (by show ¬ (i + 3 < 3); omega)
  · intro i hi
    match i, hi with
    | 0, _ => show decide (-1 ∈ spkR a5L ([97], a5X)) = false; rw [a5_spk0]; decide
    | 1, _ => show decide (-1 ∈ spkR a5L ([98], xN 99)) = false; rw [a5_spk1]; decide
    | 2, _ => show decide (-1 ∈ spkR a5L ([99], _)) = false; rw [a5_spk2]; decide
    | i + 3, hi => exact absurd hi (by show ¬ (i + 3 < 3); omega)
  · intro i hi
    unfold lk3
    rw [a5_lead]
    match i, hi with
    | 0, _ => decide
    | 1, _ => decide
    | 2, _ => decide
    | i + 3, hi => exact absurd hi (by show ¬ (i + 3 < 3); omega)
theorem a5_uses : usesL a5L 0 = [1, 2] := by
  unfold usesL
  rw [a5_chk, a5_lead, if_neg (by decide)]
  decide
theorem b5_chk : chkW b5L = (9, 0) := by
  refine chk_c (by rw [b5_wrong]) ?_ ?_ (by decide) ?_ (fun i hi => absurd hi (by omega))
  · intro i hi
    match i, hi with
    | 0, _ => decide
    | i + 1, hi => exact absurd hi (by show ¬ (i + 1 < 1); omega)
  · intro i hi
    match i, hi with
    | 0, _ => show decide (-1 ∈ spkR b5L ([97], xN 97)) = false; rw [b5_spk]; decide
    | i + 1, hi => exact absurd hi (by show ¬ (i + 1 < 1); omega)
  · unfold lk3
    rw [b5_lead]
    decide
end Go.Proofs.YtllcpoibnmhghaaGreatDoor

/- Who refers to whom: to all that it speaks of, and to all that those refer to: plain. -/
namespace Go.Proofs.YtllcpoibnmhghaaGreatDoor
open Go.RowKit Lx

theorem chk_all {l : List Ru} (h : (chkW l).1 = 0) : (∀ i, i < l.length → lk1 l i = false) ∧ ∀ i, i < l.length → lk3 l i = false := by
  unfold chkW at h
  split at h
  · rename_i h0; exact absurd h h0
  · split at h
    · cases h
    · rename_i h1
      split at h
      · cases h
      · split at h
        · cases h
        · rename_i h3
          exact ⟨fun i hi => frF_all l.length 0 h1 i (by omega) (by omega), fun i hi => frF_all l.length 0 h3 i (by omega) (by omega)⟩
theorem mem_mkL {m : Nat → Bool} {n : Nat} {x : Int} : x ∈ mkL m n ↔ ∃ k : Nat, x = (k : Int) ∧ k < n ∧ m k = true := by
  unfold mkL
  rw [List.mem_map]
  constructor
  · rintro ⟨k, hk, rfl⟩
    rw [List.mem_filter, List.mem_range] at hk
    exact ⟨k, rfl, hk.1, hk.2⟩
  · rintro ⟨k, rfl, h1, h2⟩
    exact ⟨k, by rw [List.mem_filter, List.mem_range]; exact ⟨h1, h2⟩, rfl⟩
theorem foldN_mem (ns : List Int) : ∀ (S : List Int) (m : Int), m ∈ ns.foldl addN S ↔ m ∈ S ∨ m ∈ ns := by
  induction ns with
  | nil => intro S m; simp
  | cons n ns ih =>
    intro S m
    rw [List.foldl_cons, ih, addN_mem, List.mem_cons, or_assoc]
/-- What is to be referred to, of the first so many rules. -/
def wantL (l : List Ru) (u : Ru) : Nat → List Int
  | 0 => []
  | j + 1 => match l[j]? with
    | some v => if spk u.2 v.1 = true then (usesL l (j : Int)).foldl addN (addN (wantL l u j) (j : Int)) else wantL l u j
    | none => wantL l u j
theorem want_mem {l : List Ru} {u : Ru} {m : Int} : ∀ j, j ≤ l.length → (m ∈ wantL l u j ↔ ∃ (k : Nat) (v : Ru), k < j ∧ l[k]? = some v ∧ spk u.2 v.1 = true ∧ (m = (k : Int) ∨ m ∈ usesL l (k : Int)))
  | 0, _ => by
    constructor
    · intro h; cases h
    · rintro ⟨k, v, h, _⟩; omega
  | j + 1, hj => by
    have ih := want_mem (l := l) (u := u) (m := m) j (by omega)
    obtain ⟨v, hv⟩ : ∃ v, l[j]? = some v := ⟨l[j]'(by omega), List.getElem?_eq_getElem (by omega)⟩
    have e : wantL l u (j + 1) = if spk u.2 v.1 = true then (usesL l (j : Int)).foldl addN (addN (wantL l u j) (j : Int)) else wantL l u j := by
      rw [wantL, hv]
    rw [e]
    by_cases hs : spk u.2 v.1 = true
    · rw [if_pos hs, foldN_mem, addN_mem, ih]
      constructor
      · rintro ((⟨k, v', a, b, c, d⟩ | h) | h)
        · exact ⟨k, v', by omega, b, c, d⟩
        · exact ⟨j, v, by omega, hv, hs, .inl h⟩
        · exact ⟨j, v, by omega, hv, hs, .inr h⟩
      · rintro ⟨k, v', a, b, c, d⟩
        by_cases ek : k = j
        · subst ek
          rcases d with d | d
          · exact .inl (.inr d)
          · exact .inr d
        · exact .inl (.inl ⟨k, v', by omega, b, c, d⟩)
    · rw [if_neg hs, ih]
      constructor
      · rintro ⟨k, v', a, b, c, d⟩
        exact ⟨k, v', by omega, b, c, d⟩
      · rintro ⟨k, v', a, b, c, d⟩
        by_cases ek : k = j
        · subst ek
          rw [hv] at b
          cases b
          exact absurd c hs
        · exact ⟨k, v', by omega, b, c, d⟩
theorem way_step {E : Nat → Nat → Bool} {i k : Nat} : Lx.Way E i k ↔ E i k = true ∨ ∃ j, E i j = true ∧ Lx.Way E j k := by
  constructor
  · intro h
    induction h with
    | single h => exact .inl h
    | tail _ h2 ih =>
      rcases ih with ih | ⟨j, h1, ih⟩
      · exact .inr ⟨_, ih, .single h2⟩
      · exact .inr ⟨j, h1, .tail ih h2⟩
  · rintro (h | ⟨j, h1, h2⟩)
    · exact .single h
    · exact (Relation.TransGen.single (r := fun a b => E a b = true) h1).trans h2
theorem uses_mem {l : List Ru} (h : (chkW l).1 = 0) {i : Nat} (hi : i < l.length) {x : Int} : x ∈ usesL l (i : Int) ↔ ∃ k : Nat, x = (k : Int) ∧ k < l.length ∧ Lx.Way (fun a b => (leadS l a).contains b) i k := by
  obtain ⟨h0, hno⟩ := chk_lk2 h
  have e : usesL l (i : Int) = mkL (fol (leadS l) (l.length + 1) (fun _ => false) i) l.length := by
    unfold usesL
    rw [if_neg (by omega)]
    rfl
  rw [e, mem_mkL]
  constructor
  · rintro ⟨k, a, b, c⟩
    exact ⟨k, a, b, (fol_way (leadS_lt hno) (Nat.le_refl _)).1 c⟩
  · rintro ⟨k, a, b, c⟩
    exact ⟨k, a, b, (fol_way (leadS_lt hno) (Nat.le_refl _)).2 c⟩
theorem uses_ok {l : List Ru} (h : (chkW l).1 = 0) {i : Nat} (hi : i < l.length) {x : Int} (hx : x ∈ usesL l (i : Int)) : 0 ≤ x ∧ x < l.length ∧ x ≠ (i : Int) := by
  obtain ⟨h0, hno⟩ := chk_lk2 h
  obtain ⟨k, rfl, hk, hw⟩ := (uses_mem h hi).1 hx
  refine ⟨by omega, by omega, fun e => ?_⟩
  have e' : k = i := by omega
  subst e'
  have h3 := (chk_all h).2 k hk
  unfold lk3 at h3
  rw [(fol_way (leadS_lt hno) (Nat.le_refl _)).2 hw] at h3
  cases h3
theorem speaks_lead {l : List Ru} (h : (chkW l).1 = 0) {i j : Nat} {u v : Ru} (hu : l[i]? = some u) (hv : l[j]? = some v) : spk u.2 v.1 = (leadS l i).contains j := by
  obtain ⟨h0, hno⟩ := chk_lk2 h
  have hi : i < l.length := (List.getElem?_eq_some_iff.1 hu).1
  have hj : j < l.length := (List.getElem?_eq_some_iff.1 hv).1
  rw [← edge_same h0 hno hi hj]
  unfold edgE
  rw [hu, hv]
  have h1 := (chk_all h).1 j hj
  unfold lk1 at h1
  rw [hv] at h1
  dsimp only at h1
  have e : atP5 l v.1 = (j : Int) := by simpa using h1
  dsimp only
  rw [e, decide_eq_true rfl, Bool.true_and]
theorem want_same {l : List Ru} (h : (chkW l).1 = 0) {i : Nat} {u : Ru} (hu : l[i]? = some u) (x : Int) : x ∈ (usesL l (i : Int)).foldl addN [] ↔ x ∈ wantL l u l.length := by
  obtain ⟨h0, hno⟩ := chk_lk2 h
  have hi : i < l.length := (List.getElem?_eq_some_iff.1 hu).1
  rw [foldN_mem, uses_mem h hi, want_mem l.length (Nat.le_refl _)]
  constructor
  · rintro (h' | ⟨k, rfl, hk, hw⟩)
    · cases h'
    · rcases way_step.1 hw with he | ⟨j, he, hw'⟩
      · obtain ⟨v, hv⟩ : ∃ v, l[k]? = some v := ⟨l[k], List.getElem?_eq_getElem hk⟩
        exact ⟨k, v, hk, hv, by rw [speaks_lead h hu hv]; exact he, .inl rfl⟩
      · have hj : j < l.length := leadS_lt hno i j (by simpa using he)
        obtain ⟨v, hv⟩ : ∃ v, l[j]? = some v := ⟨l[j], List.getElem?_eq_getElem hj⟩
        exact ⟨j, v, hj, hv, by rw [speaks_lead h hu hv]; exact he, .inr ((uses_mem h hj).2 ⟨k, rfl, hk, hw'⟩)⟩
  · rintro ⟨j, v, hj, hv, hs, hd⟩
    right
    rw [speaks_lead h hu hv] at hs
    rcases hd with rfl | hd
    · exact ⟨j, rfl, hj, way_step.2 (.inl hs)⟩
    · obtain ⟨k, rfl, hk, hw⟩ := (uses_mem h hj).1 hd
      exact ⟨k, rfl, hk, way_step.2 (.inr ⟨j, hs, hw⟩)⟩
end Go.Proofs.YtllcpoibnmhghaaGreatDoor
