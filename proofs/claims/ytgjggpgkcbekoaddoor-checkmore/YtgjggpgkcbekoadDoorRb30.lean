/- What the laws' own question of check comes to: true. -/
import Derived.Test.YtgjggpgkcbekoadDoorRb29
import Derived.Test.YtgjggpgkcbekoadDoorRb18
import Derived.Test.YtgjggpgkcbekoadDoorRb23
namespace Go.Proofs.YtgjggpgkcbekoadDoor
open Go.RowKit Lx

/-- The names of a tree are not too long. -/
def NmK : Nat → List Ex → Prop
  | 0, _ => True
  | d + 1, ks => ∀ (j : Nat) (k : Ex), ks[j]? = some k → k.name.length ≤ 9223372036854775807 ∧ NmK d k.kids
theorem nmk_nil : ∀ d, NmK d []
  | 0 => trivial
  | d + 1 => fun j k h => by simp at h
theorem nmk_cons {k : Ex} {ks : List Ex} (h1 : k.name.length ≤ 9223372036854775807) (h2 : ∀ d, NmK d k.kids) (h3 : ∀ d, NmK d ks) : ∀ d, NmK d (k :: ks)
  | 0 => trivial
  | d + 1 => fun j q h => by
    cases j with
    | zero =>
      simp at h
      subst h
      exact ⟨h1, h2 d⟩
    | succ j => exact h3 (d + 1) j q (by simpa using h)
theorem kidsK_of_at {B : Nat → Prop} : ∀ {d : Nat} {w : World} {sl : Value} {ks : List Ex}, KidsAt B d w sl ks → NmK d ks → KidsB (fun k => k < w.heap.size) d w sl ks
  | 0, _, _, _, h, _ => h
  | d + 1, w, sl, ks, h, hn => by
    rcases h with h | ⟨g, o, c, hB, hs, hl, hk⟩
    · exact .inl h
    · by_cases h0 : ks = []
      · subst h0
        exact .inl ⟨rfl, _, c, hs⟩
      · obtain ⟨k0, hk0⟩ : ∃ k, ks[0]? = some k := by
          cases ks with
          | nil => exact absurd rfl h0
          | cons x l => exact ⟨x, rfl⟩
        obtain ⟨_, q0, _⟩ := hk 0 k0 hk0
        refine .inr ⟨g, o, c, block_lt_of_cell q0, hs, hl, fun j k hj => ?_⟩
        obtain ⟨sk, c0, c1, c2, c3, c4, r⟩ := hk j k hj
        obtain ⟨n1, n2⟩ := hn j k hj
        exact ⟨n1, sk, c0, c1, c2, c3, c4, kidsK_of_at r n2⟩
/-- Rules whose names are not too long. -/
def NmR (L : List Ru) : Prop := ∀ p ∈ L, p.1.length ≤ 9223372036854775807 ∧ p.2.name.length ≤ 9223372036854775807 ∧ ∀ d, NmK d p.2.kids
/-- Rules that were made, as rules that come in. -/
theorem inR_of_made {w0 w : World} {v : Value} {us : List (Ru × Value)} (h : RowR w0 w v us) (hl : us.length ≤ 40) (hn : NmR (us.map (fun p => p.1))) : InR w v us := by
  refine ⟨rrow_of_owns h.own (by omega), by omega, fun p hp => ?_⟩
  obtain ⟨d, hd⟩ := h.kids p hp
  obtain ⟨n1, n2, n3⟩ := hn p.1 (List.mem_map.2 ⟨p, hp, rfl⟩)
  exact ⟨n1, n2, d, kidsK_of_at hd (n3 d)⟩
theorem tells_of {s : List UInt8} {n : Nat} {T : List Tk} {L : List Ru} (hit : iterN s n = some (T, s.length)) (hr : rulesR s.length (T.length + 1) [] T = .ok L) (h6 : s.length ≤ 6000) {w0 w : World} {v : Value} {er at_ : Int} (h : PTells s w0 w v er at_) : er = 0 ∧ ∃ us, us.map (fun p => p.1) = L ∧ us.length ≤ 40 ∧ RowR w0 w v us := by
  have hk : ¬ (s.length < s.length ∧ (firstT (s.drop s.length)).err = 0) := fun h => absurd h.1 (by omega)
  have hx : Lexed s T s.length := ⟨n, hit⟩
  rcases h with ⟨h, _⟩ | ⟨ts, k, _, h2, h3, h4, _⟩ | ⟨ts, k, er', at', _, h2, h3, h4, _⟩ | ⟨ts, k, us, _, h2, h3, h4, h5, h6', h7, _⟩
  · omega
  · obtain ⟨_, e⟩ := lexed_one hx h2 hk (fun h => h4 h.2)
    omega
  · obtain ⟨e, _⟩ := lexed_one hx h2 hk (fun h => h3 h.1)
    subst e
    rw [hr] at h4; cases h4
  · obtain ⟨e, _⟩ := lexed_one hx h2 hk (fun h => h3 h.1)
    subst e
    rw [hr] at h4
    exact ⟨h7, us, (Except.ok.inj h4).symm, h5, h6'⟩
def OutRu (L : List Ru) (w : World) (e : Ending) (w' : World) : Prop := ∃ v us, e = .returned v ∧ us.map (fun p => p.1) = L ∧ InR w' v us ∧ Below w.heap.size w w'
set_option maxRecDepth 100000 in
set_option maxHeartbeats 2000000 in
theorem rules5_any (s : List UInt8) (n : Nat) (T : List Tk) (L : List Ru) (hit : iterN s n = some (T, s.length)) (hr : rulesR s.length (T.length + 1) [] T = .ok L) (h6 : s.length ≤ 6000) (hn : NmR L) (w : World) (hT : CTab w) (hD : DTab w) :
    Calls Tryd.prog 11 #[.string ⟨s.toArray⟩] w (OutRu L w) := by
  have c1 := parse_any ⟨s.toArray⟩ s (by simp) (by omega) w hT hD
  go_enter Tryd.func11, Tryd.ntmps11
  go_wp2_with fail
  refine c1.mono ?_
  rintro e w1 ⟨⟨v, er, at_, rfl, hx⟩, hb1⟩
  obtain ⟨rfl, us, hus, h40, hrow⟩ := tells_of hit hr h6 hx
  have hin := inR_of_made hrow h40 (by rw [hus]; exact hn)
  have hb1a := hb1.alloc hb1.size (.cells #[.int .i64 0, .int .i64 at_] 26)
  have b1 := (Below.refl _ w1).alloc (Nat.le_refl _) (.cells #[.int .i64 0, .int .i64 at_] 26)
  have hf1 := heap_alloc_new w1 (.cells #[.int .i64 0, .int .i64 at_] 26)
  have HO : Hid (OutRu L w (.returned v) (w1.alloc (.cells #[.int .i64 0, .int .i64 at_] 26))) := ⟨v, us, rfl, hus, hin.below b1, hb1a⟩
  obtain ⟨pv, cv, rfl⟩ := hin.form
  clear c1 hx hrow hin hus h40 b1 hb1a hb1 hit hr
  generalize hwA : w1.alloc (.cells #[.int .i64 0, .int .i64 at_] 26) = wA at *
  have z0 := (cell_of_row _ _ 0 _ _ _ hf1).trans rfl
  go_wp2_with fail
  go_ret
  exact HO.out
theorem a5_names : NmR a5L := fun p hp => by
  simp only [a5L, List.mem_cons, List.not_mem_nil, or_false] at hp
  rcases hp with rfl | rfl | rfl
  · exact ⟨by decide, by decide, nmk_cons (by decide) nmk_nil (nmk_cons (by decide) nmk_nil nmk_nil)⟩
  · exact ⟨by decide, by decide, nmk_nil⟩
  · exact ⟨by decide, by decide, nmk_nil⟩
theorem b5_names : NmR b5L := fun p hp => by
  simp only [b5L, List.mem_cons, List.not_mem_nil, or_false] at hp
  subst hp
  exact ⟨by decide, by decide, nmk_nil⟩
/-- The tables stand, and will. -/
def PT2 (w : World) : Prop := ∀ w', Below w.heap.size w w' → CTab w' ∧ DTab w'
end Go.Proofs.YtgjggpgkcbekoadDoor

/- What the laws' own question of check comes to: true. -/
namespace Go.Proofs.YtgjggpgkcbekoadDoor
open Go.RowKit Lx
set_option maxRecDepth 100000 in
set_option maxHeartbeats 2000000 in
theorem alive5_any (w : World) (hPT : PT2 w) : Calls Tryd.prog 5 #[] w fun e w' => e = .returned (.bool true) ∧ Below w.heap.size w w' := by
  have t0 := hPT w (Below.refl _ _)
  have c1 := rules5_any a5S 17 a5T a5L a5_iter a5_rules (by decide) a5_names w t0.1 t0.2
  have c9 := fun W (hW : Below w.heap.size w W) => rules5_any b5S 5 b5T b5L b5_iter b5_rules (by decide) b5_names W (hPT W hW).1 (hPT W hW).2
  unfold a5S at c1
  unfold b5S at c9
  clear t0 hPT
  go_enter Tryd.func5, Tryd.ntmps5
  go_wp2_with fail
  refine c1.mono ?_
  rintro e w1 ⟨v, us, rfl, hus, hin, hb1⟩
  have c2 := fun W (hW : Below w1.heap.size w1 W) => chk_any us v W (hin.below hW)
  have c3 := fun W (hW : Below w1.heap.size w1 W) => uses_any us v 0 W (hin.below hW)
  rw [hus] at c2 c3
  rw [a5_chk] at c2
  rw [a5_uses] at c3
  obtain ⟨pv, cv, rfl⟩ := hin.form
  have d2 := c2 w1 (Below.refl _ _)
  clear c1 c2 hus hin
  go_wp2_with fail
  refine d2.mono ?_
  rintro e w2 ⟨rfl, b2⟩
  have d3 := c3 w2 b2
  have hb2 := hb1.trans (b2.mono hb1.size)
  clear d2 c3 hb1 b2
  go_wp2_with fail
  refine d3.mono ?_
  rintro e w3 ⟨va, rfl, hra, b3⟩
  have hb3 := hb2.trans (b3.mono hb2.size)
  obtain ⟨pa, ca, rfl⟩ : ∃ p c, va = .slice p 2 c := by
    obtain ⟨p, c, e, _⟩ := hra
    exact ⟨p, c, e⟩
  have b4 := (Below.refl w3.heap.size w3).alloc (Nat.le_refl _) (.cells #[.int .i64 1, .int .i64 2] 3)
  have n4 := heap_alloc_new w3 (.cells #[.int .i64 1, .int .i64 2] 3)
  have hra4 := hra.below b4
  have hb4 := hb3.trans (b4.mono hb3.size)
  have hrb : RowI (w3.alloc (.cells #[.int .i64 1, .int .i64 2] 3)) (.slice (some ⟨w3.heap.size, 0, none⟩) 2 2) [1, 2] := ⟨_, _, rfl, by decide, fun j n hj => by
    refine ⟨w3.heap.size, 0, rfl, ?_⟩
    match j, hj with
    | 0, hj => cases hj; exact (cell_of_row _ _ 0 _ _ _ n4).trans rfl
    | 1, hj => cases hj; exact (cell_of_row _ _ 1 _ _ _ n4).trans rfl
    | j + 2, hj => simp at hj⟩
  clear d3 b3 hb2 b4 n4 hra hb3
  generalize hw4 : w3.alloc (.cells #[.int .i64 1, .int .i64 2] 3) = w4 at *
  have d4 := ints_any [1, 2] _ _ w4 hra4 hrb
  clear hra4 hrb
  go_wp2_with fail
  refine d4.mono ?_
  rintro e w5 ⟨rfl, b5⟩
  have hb5 := hb4.trans (b5.mono hb4.size)
  have d5 := c9 w5 hb5
  clear d4 c9 b5 hb4 hw4
  go_wp2_with fail
  refine d5.mono ?_
  rintro e w6 ⟨v6, us6, rfl, hus, hin, b6⟩
  have hb6 := hb5.trans (b6.mono hb5.size)
  have d6 := chk_any us6 v6 w6 hin
  rw [hus, b5_chk] at d6
  clear d5 b6 hb5 hus hin
  go_wp2_with fail
  refine d6.mono ?_
  rintro e w7 ⟨rfl, b7⟩
  have hb7 := hb6.trans (b7.mono hb6.size)
  clear d6 b7 hb6
  go_wp2_with fail
  go_ret
  exact ⟨rfl, hb7⟩
end Go.Proofs.YtgjggpgkcbekoadDoor

/- Who refers to whom: to all that it speaks of, and to all that those refer to: plain. -/
namespace Go.Proofs.YtgjggpgkcbekoadDoor
open Go.RowKit Lx

theorem chk_all {l : List Ru} (h : (chkW l).1 = 0) : (∀ i, i < l.length → lk1 l i = false) ∧ ∀ i, i < l.length → lk3 l i = false := by
  unfold chkW at h
  split at h
  · rename_i h0; exact absurd h h0
  · split at h
    · cases h
    · rename_i h1
      split at h
      · cases h
      · split at h
        · cases h
        · rename_i h3
          exact ⟨fun i hi => frF_all l.length 0 h1 i (by omega) (by omega), fun i hi => frF_all l.length 0 h3 i (by omega) (by omega)⟩
theorem mem_mkL {m : Nat → Bool} {n : Nat} {x : Int} : x ∈ mkL m n ↔ ∃ k : Nat, x = (k : Int) ∧ k < n ∧ m k = true := by
  unfold mkL
  rw [List.mem_map]
  constructor
  · rintro ⟨k, hk, rfl⟩
    rw [List.mem_filter, List.mem_range] at hk
    exact ⟨k, rfl, hk.1, hk.2⟩
  · rintro ⟨k, rfl, h1, h2⟩
    exact ⟨k, by rw [List.mem_filter, List.mem_range]; exact ⟨h1, h2⟩, rfl⟩
theorem foldN_mem (ns : List Int) : ∀ (S : List Int) (m : Int), m ∈ ns.foldl addN S ↔ m ∈ S ∨ m ∈ ns := by
  induction ns with
  | nil => intro S m; simp
  | cons n ns ih =>
    intro S m
    rw [List.foldl_cons, ih, addN_mem, List.mem_cons, or_assoc]
/-- What is to be referred to, of the first so many rules. -/
def wantL (l : List Ru) (u : Ru) : Nat → List Int
  | 0 => []
  | j + 1 => match l[j]? with
    | some v => if spk u.2 v.1 = true then (usesL l (j : Int)).foldl addN (addN (wantL l u j) (j : Int)) else wantL l u j
    | none => wantL l u j
theorem want_mem {l : List Ru} {u : Ru} {m : Int} : ∀ j, j ≤ l.length → (m ∈ wantL l u j ↔ ∃ (k : Nat) (v : Ru), k < j ∧ l[k]? = some v ∧ spk u.2 v.1 = true ∧ (m = (k : Int) ∨ m ∈ usesL l (k : Int)))
  | 0, _ => by
    constructor
    · intro h; cases h
    · rintro ⟨k, v, h, _⟩; omega
  | j + 1, hj => by
    have ih := want_mem (l := l) (u := u) (m := m) j (by omega)
    obtain ⟨v, hv⟩ : ∃ v, l[j]? = some v := ⟨l[j]'(by omega), List.getElem?_eq_getElem (by omega)⟩
    have e : wantL l u (j + 1) = if spk u.2 v.1 = true then (usesL l (j : Int)).foldl addN (addN (wantL l u j) (j : Int)) else wantL l u j := by
      rw [wantL, hv]
    rw [e]
    by_cases hs : spk u.2 v.1 = true
    · rw [if_pos hs, foldN_mem, addN_mem, ih]
      constructor
      · rintro ((⟨k, v', a, b, c, d⟩ | h) | h)
        · exact ⟨k, v', by omega, b, c, d⟩
        · exact ⟨j, v, by omega, hv, hs, .inl h⟩
        · exact ⟨j, v, by omega, hv, hs, .inr h⟩
      · rintro ⟨k, v', a, b, c, d⟩
        by_cases ek : k = j
        · subst ek
          rcases d with d | d
          · exact .inl (.inr d)
          · exact .inr d
        · exact .inl (.inl ⟨k, v', by omega, b, c, d⟩)
    · rw [if_neg hs, ih]
      constructor
      · rintro ⟨k, v', a, b, c, d⟩
        exact ⟨k, v', by omega, b, c, d⟩
      · rintro ⟨k, v', a, b, c, d⟩
        by_cases ek : k = j
        · subst ek
          rw [hv] at b
          cases b
          exact absurd c hs
        · exact ⟨k, v', by omega, b, c, d⟩
theorem way_step {E : Nat → Nat → Bool} {i k : Nat} : Lx.Way E i k ↔ E i k = true ∨ ∃ j, E i j = true ∧ Lx.Way E j k := by
  constructor
  · intro h
    induction h with
    | single h => exact .inl h
    | tail _ h2 ih =>
      rcases ih with ih | ⟨j, h1, ih⟩
      · exact .inr ⟨_, ih, .single h2⟩
      · exact .inr ⟨j, h1, .tail ih h2⟩
  · rintro (h | ⟨j, h1, h2⟩)
    · exact .single h
    · exact (Relation.TransGen.single (r := fun a b => E a b = true) h1).trans h2
theorem uses_mem {l : List Ru} (h : (chkW l).1 = 0) {i : Nat} (hi : i < l.length) {x : Int} : x ∈ usesL l (i : Int) ↔ ∃ k : Nat, x = (k : Int) ∧ k < l.length ∧ Lx.Way (fun a b => (leadS l a).contains b) i k := by
  obtain ⟨h0, hno⟩ := chk_lk2 h
  have e : usesL l (i : Int) = mkL (fol (leadS l) (l.length + 1) (fun _ => false) i) l.length := by
    unfold usesL
    rw [if_neg (by omega)]
    rfl
  rw [e, mem_mkL]
  constructor
  · rintro ⟨k, a, b, c⟩
    exact ⟨k, a, b, (fol_way (leadS_lt hno) (Nat.le_refl _)).1 c⟩
  · rintro ⟨k, a, b, c⟩
    exact ⟨k, a, b, (fol_way (leadS_lt hno) (Nat.le_refl _)).2 c⟩
theorem uses_ok {l : List Ru} (h : (chkW l).1 = 0) {i : Nat} (hi : i < l.length) {x : Int} (hx : x ∈ usesL l (i : Int)) : 0 ≤ x ∧ x < l.length ∧ x ≠ (i : Int) := by
  obtain ⟨h0, hno⟩ := chk_lk2 h
  obtain ⟨k, rfl, hk, hw⟩ := (uses_mem h hi).1 hx
  refine ⟨by omega, by omega, fun e => ?_⟩
  have e' : k = i := by omega
  subst e'
  have h3 := (chk_all h).2 k hk
  unfold lk3 at h3
  rw [(fol_way (leadS_lt hno) (Nat.le_refl _)).2 hw] at h3
  cases h3
theorem speaks_lead {l : List Ru} (h : (chkW l).1 = 0) {i j : Nat} {u v : Ru} (hu : l[i]? = some u) (hv : l[j]? = some v) : spk u.2 v.1 = (leadS l i).contains j := by
  obtain ⟨h0, hno⟩ := chk_lk2 h
  have hi : i < l.length := (List.getElem?_eq_some_iff.1 hu).1
  have hj : j < l.length := (List.getElem?_eq_some_iff.1 hv).1
  rw [← edge_same h0 hno hi hj]
  unfold edgE
  rw [hu, hv]
  have h1 := (chk_all h).1 j hj
  unfold lk1 at h1
  rw [hv] at h1
  dsimp only at h1
  have e : atP5 l v.1 = (j : Int) := by simpa using h1
  dsimp only
  rw [e, decide_eq_true rfl, Bool.true_and]
theorem want_same {l : List Ru} (h : (chkW l).1 = 0) {i : Nat} {u : Ru} (hu : l[i]? = some u) (x : Int) : x ∈ (usesL l (i : Int)).foldl addN [] ↔ x ∈ wantL l u l.length := by
  obtain ⟨h0, hno⟩ := chk_lk2 h
  have hi : i < l.length := (List.getElem?_eq_some_iff.1 hu).1
  rw [foldN_mem, uses_mem h hi, want_mem l.length (Nat.le_refl _)]
  constructor
  · rintro (h' | ⟨k, rfl, hk, hw⟩)
    · cases h'
    · rcases way_step.1 hw with he | ⟨j, he, hw'⟩
      · obtain ⟨v, hv⟩ : ∃ v, l[k]? = some v := ⟨l[k], List.getElem?_eq_getElem hk⟩
        exact ⟨k, v, hk, hv, by rw [speaks_lead h hu hv]; exact he, .inl rfl⟩
      · have hj : j < l.length := leadS_lt hno i j (by simpa using he)
        obtain ⟨v, hv⟩ : ∃ v, l[j]? = some v := ⟨l[j], List.getElem?_eq_getElem hj⟩
        exact ⟨j, v, hj, hv, by rw [speaks_lead h hu hv]; exact he, .inr ((uses_mem h hj).2 ⟨k, rfl, hk, hw'⟩)⟩
  · rintro ⟨j, v, hj, hv, hs, hd⟩
    right
    rw [speaks_lead h hu hv] at hs
    rcases hd with rfl | hd
    · exact ⟨j, rfl, hj, way_step.2 (.inl hs)⟩
    · obtain ⟨k, rfl, hk, hw⟩ := (uses_mem h hj).1 hd
      exact ⟨k, rfl, hk, way_step.2 (.inr ⟨j, hs, hw⟩)⟩
end Go.Proofs.YtgjggpgkcbekoadDoor

/- A map from numbers to marks, of which each that is there is set. -/
namespace Go.Proofs.YtgjggpgkcbekoadDoor
open Go.RowKit Lx

theorem mapT7 : Tryd.prog.underlying 30 = some (.map 3 4) := by kernel_rfl
theorem intT7 : Tryd.prog.underlying 3 = some (.int .i64) := by kernel_rfl
def kv (e : MapEntry) : Value × Value := (e.key, e.val)
def kvs (S : List Int) : List (Value × Value) := S.map fun n => (.int .i64 n, .bool true)
/-- The numbers that are set. -/
def MapB (w : World) (b : Nat) (S : List Int) : Prop := ∃ es c, w.heap[b]? = some (.map es c) ∧ es.toList.map kv = kvs S
theorem MapB.later {w w' : World} {b : Nat} {S : List Int} (h : MapB w b S) (hk : w'.heap[b]? = w.heap[b]?) : MapB w' b S := by
  obtain ⟨es, c, h1, h2⟩ := h
  exact ⟨es, c, hk.trans h1, h2⟩
theorem lt_of_mapB {w : World} {b : Nat} {S : List Int} (h : MapB w b S) : b < w.heap.size := by
  obtain ⟨es, c, h1, _⟩ := h
  exact (Array.getElem?_eq_some_iff.1 h1).1
theorem findB (k : Int) : ∀ (es : List MapEntry) (S : List Int) (i : Nat), es.map kv = kvs S → (k ∈ S ∧ ∃ j, Instr.findNow (.int .i64) (.int .i64 k) es i = some (some (i + j, .bool true)) ∧ (es[j]?).map kv = some (.int .i64 k, .bool true)) ∨ (k ∉ S ∧ Instr.findNow (.int .i64) (.int .i64 k) es i = some none)
  | [], [], i, _ => .inr ⟨by simp, rfl⟩
  | [], _ :: _, i, h => by simp [kvs] at h
  | _ :: _, [], i, h => by simp [kvs] at h
  | e :: es, n :: S, i, h => by
    simp only [kvs, List.map_cons, List.cons.injEq] at h
    obtain ⟨h1, h2⟩ := h
    have hk : e.key = .int .i64 n := congrArg Prod.fst h1
    have hv : e.val = .bool true := congrArg Prod.snd h1
    have hs : Instr.sameNow (.int .i64) (.int .i64 k) e.key = some (k == n) := by rw [hk]; simp [Instr.sameNow]
    simp only [Instr.findNow, hs]
    by_cases e1 : k = n
    · subst e1
      left
      refine ⟨List.mem_cons_self, 0, ?_, ?_⟩
      · simp [hv]
      · simp only [List.getElem?_cons_zero, Option.map_some, h1]
    · have e2 : (k == n) = false := by simpa using e1
      rw [e2]
      rcases findB k es S (i + 1) h2 with ⟨m, j, f, g⟩ | ⟨m, f⟩
      · left
        exact ⟨List.mem_cons_of_mem _ m, j + 1, by rw [show i + (j + 1) = i + 1 + j by omega]; exact f, by simpa using g⟩
      · right
        exact ⟨by simp [e1, m], f⟩
/-- What is looked up. -/
theorem lookB {w : World} {b : Nat} {S : List Int} (h : MapB w b S) (k : Int) : (Instr.lookup 30 (.map (some b)) (.int .i64 k) false).run Tryd.prog w = .ok (.bool (decide (k ∈ S))) w := by
  obtain ⟨es, c, hb, hE⟩ := h
  have hc : ∀ z, (Instr.checkKey z 10000 3 (.int .i64 k)).run Tryd.prog w = .ok () w := fun z => MapKept.run_checkKey (k := .int .i64 k) intT7 (by simp [MapKept.IsKey]) z 9999
  have hz : (zeroValue 4).run Tryd.prog w = .ok (.bool false) w := by kernel_rfl
  rcases findB k es.toList S 0 hE with ⟨h1, j, h2, _⟩ | ⟨h1, h2⟩
  · simp [Instr.lookup, run_underlying mapT7, MapKept.run_getObj_map hb, hc, MapKept.run_findKey intT7 h2, Result.andThen, h1]
  · simp [Instr.lookup, run_underlying mapT7, MapKept.run_getObj_map hb, hc, MapKept.run_findKey intT7 h2, hz, Result.andThen, h1]
/-- A number is set. -/
theorem insB {w : World} {b : Nat} {S : List Int} (h : MapB w b S) (k : Int) : ∃ o, (Instr.mapUpdate 30 (.map (some b)) (.int .i64 k) (.bool true)).run Tryd.prog w = .ok () (putB5 w b o) ∧ MapB (putB5 w b o) b (addN S k) := by
  obtain ⟨es, c, hb, hE⟩ := h
  have hc : (Instr.checkKey false 10000 3 (.int .i64 k)).run Tryd.prog w = .ok () w := MapKept.run_checkKey (k := .int .i64 k) intT7 (by simp [MapKept.IsKey]) false 9999
  rcases findB k es.toList S 0 hE with ⟨h1, j, h2, h3⟩ | ⟨h1, h2⟩
  · have hks : (Instr.keyThatStays (.int .i64 k) (.int .i64 k)).run Tryd.prog w = .ok (.int .i64 k) w := MapKept.run_keyThatStays (d := .int .i64) (by simp [MapKept.IsKey])
    have hold : (Option.map (fun x => x.key) es[j]?).getD (.int .i64 k) = .int .i64 k := by
      rw [Array.getElem?_toList] at h3
      cases he : es[j]? with
      | none => rfl
      | some e =>
        rw [he] at h3
        simp [kv] at h3
        simp [h3.1]
    refine ⟨.map (es.modify j fun e => { e with key := .int .i64 k, val := .bool true }) c, ?_, _, c, (MapKept.heap_set hb).1, ?_⟩
    · rw [Nat.zero_add] at h2
      simp [Instr.mapUpdate, run_underlying mapT7, MapKept.run_getObj_map hb, hc, MapKept.run_findKey intT7 h2, hold, hks, MapKept.run_setObj_map _ hb, Result.andThen, putB5]
    · have e : addN S k = S := if_pos h1
      rw [e, ← hE]
      rw [Array.getElem?_toList] at h3
      apply List.ext_getElem?
      intro q
      simp only [List.getElem?_map, Array.getElem?_toList, Array.getElem?_modify]
      by_cases eq : j = q
      · subst eq
        rw [if_pos rfl, h3, Option.map_map]
        cases he : es[j]? with
        | none => rw [he] at h3; simp at h3
        | some e => rfl
      · rw [if_neg eq]
  · refine ⟨.map (es.push ⟨.int .i64 k, .bool true, c⟩) (c + 1), ?_, _, c + 1, (MapKept.heap_set hb).1, ?_⟩
    · simp [Instr.mapUpdate, run_underlying mapT7, MapKept.run_getObj_map hb, hc, MapKept.run_findKey intT7 h2, MapKept.run_setObj_map _ hb, Result.andThen, putB5]
    · have e : addN S k = S ++ [k] := if_neg h1
      rw [e, Array.toList_push, List.map_append, hE]
      simp [kvs, kv]
theorem makeB (w : World) : (Instr.makeMap 30 none).run Tryd.prog w = .ok (.map (some w.heap.size)) (w.alloc (.map #[] 0)) := by
  unfold Instr.makeMap
  simp [go_sem]
end Go.Proofs.YtgjggpgkcbekoadDoor
