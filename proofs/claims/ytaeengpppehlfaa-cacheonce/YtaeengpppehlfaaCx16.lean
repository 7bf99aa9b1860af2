/- Asks that are one's own, wherever they begin in their block: append. -/
import Derived.Test.YtaeengpppehlfaaCx15
import Derived.Deep.Upon
import Derived.Deep.MidRow
import Derived.Test.YtaeengpppehlfaaCx11
namespace Go.Proofs.Ytaeengpppehlfaa
open Go.RowKit Msk Vx

def aqv (a : Aq) : List Value := [.int .i64 a.r, .int .i64 a.d, .int .i64 a.v]
def flatA (l : List Aq) : List Value := l.flatMap aqv
theorem flatA_append (l l' : List Aq) : flatA (l ++ l') = flatA l ++ flatA l' := by unfold flatA; rw [List.flatMap_append]
theorem flatA_one (k : Aq) : flatA [k] = aqv k := by simp [flatA]
theorem flatA_len : ∀ l : List Aq, (flatA l).length = l.length * 3
  | [] => rfl
  | k :: l => by
    have h := flatA_len l
    have e : flatA (k :: l) = aqv k ++ flatA l := rfl
    rw [e, List.length_append, h, List.length_cons]
    show 3 + _ = _
    omega
theorem flatA_all (l : List Aq) : ∀ u ∈ flatA l, u.oneCell' = true := fun u hu => by
  unfold flatA at hu
  rw [List.mem_flatMap] at hu
  obtain ⟨k, _, h⟩ := hu
  simp only [aqv, List.mem_cons, List.not_mem_nil, or_false] at h
  rcases h with rfl | rfl | rfl <;> rfl
theorem askInfo : (Try.prog.info? 47).map (fun i => (i.zero, i.size, i.bytes)) = some (some (.agg #[.int .i64 0, .int .i64 0, .int .i64 0]), 3, 24) := by kernel_rfl
theorem asksType : Try.prog.underlying 45 = some (.slice 47) := by kernel_rfl
/-- A part of a row of asks. -/
def PRow (w : World) (v : Value) (l : List Aq) : Prop := ∃ g o c, v = .slice (some ⟨g, o, none⟩) l.length c ∧ w.rangeAt g o (flatA l)
/-- Asks that are one's own: none, or at a place in a block. -/
def LRow (base : Nat) (w : World) (v : Value) (l : List Aq) : Prop :=
  (v = .slice none 0 0 ∧ l = []) ∨ ∃ g o c, v = .slice (some ⟨g, o, none⟩) l.length c ∧ base ≤ g ∧ g < w.heap.size ∧ l.length ≤ c ∧ c ≤ maxLen ∧ w.rangeAt g o (flatA l) ∧ w.there g o (c * 3)
theorem there_same {w w' : World} {g o n : Nat} (h : w.there g o n) (e : w'.heap[g]? = w.heap[g]?) : w'.there g o n := fun j hj => by
  rw [World.cell?_of_block (a := ⟨g, o + j, none⟩) e, World.frozen?_of_block (a := ⟨g, o + j, none⟩) e]
  exact h j hj
theorem range_same {w w' : World} {g o : Nat} {cs : List Value} (h : w.rangeAt g o cs) (e : w'.heap[g]? = w.heap[g]?) : w'.rangeAt g o cs := fun j v hj => by
  rw [World.cell?_of_block (a := ⟨g, o + j, none⟩) e]
  exact h j v hj
theorem LRow.later {base : Nat} {w w' : World} {v : Value} {l : List Aq} (h : LRow base w v l) (hb : Below w.heap.size w w') : LRow base w' v l := by
  rcases h with h | ⟨g, o, c, e, h1, h2, h3, h4, h5, h6⟩
  · exact .inl h
  · have hg := hb.block g h2
    exact .inr ⟨g, o, c, e, h1, Nat.lt_of_lt_of_le h2 hb.size, h3, h4, range_same h5 hg, there_same h6 hg⟩
theorem LRow.shape {base : Nat} {w : World} {v : Value} {l : List Aq} (h : LRow base w v l) : ∃ p c, v = .slice p l.length c ∧ l.length ≤ c ∧ c ≤ maxLen := by
  rcases h with ⟨rfl, rfl⟩ | ⟨g, o, c, e, h1, h2, h3, h4, h5, h6⟩
  · exact ⟨none, 0, rfl, Nat.zero_le _, by unfold maxLen; omega⟩
  · exact ⟨_, c, e, h3, h4⟩
theorem grownBy_setCells (w : World) (g o : Nat) (vs : List Value) : w.grownBy (w.setCells g o vs) (some g) := by
  have h : ∀ (vs : List Value) (o : Nat) (w' : World), Below 0 w w' → Below 0 w (w'.setCells g o vs) := by
    intro vs
    induction vs with
    | nil => exact fun _ _ h => h
    | cons v r ih => exact fun o w' h => ih (o + 1) _ (h.setCell (p := ⟨g, o, none⟩) (Nat.zero_le _) v)
  have hb := h vs o w (Below.refl _ _)
  exact ⟨hb.os, hb.tape, hb.output, hb.size, fun k hk hne => World.heap_setCells_other w g o vs hk (fun e => hne (congrArg some e))⟩
theorem size_setCells (w : World) (g o : Nat) (vs : List Value) : w.heap.size ≤ (w.setCells g o vs).heap.size := (grownBy_setCells w g o vs).size
theorem src_row {w : World} {x : Value} {m : List Aq} (hm : PRow w x m) : Src Try.prog 3 45 x m.length (flatA m) w := by
  obtain ⟨g, o, c, rfl, hr⟩ := hm
  refine Src.ofSlice w asksType _ _ _ _ (flatA_len m) (fun j u hu => ?_) (flatA_all m)
  rw [Addr.add_lit]
  exact hr j u hu
theorem run_appendA (base : Nat) (l m : List Aq) (v x : Value) (w : World) (ty : TypeId) (h : LRow base w v l) (hm : PRow w x m) (hlen : l.length + m.length ≤ 1000) (hb : base ≤ w.heap.size) :
    ∃ v' w', (Builtin.append_ #[45, 45] ty #[v, x]).run Try.prog w = .ok v' w' ∧ LRow base w' v' (l ++ m) ∧ w.grownBy w' v.ownBlock ∧ (v'.ownBlock = v.ownBlock ∨ ∃ g, w.heap.size ≤ g ∧ v'.ownBlock = some g) := by
  obtain ⟨i0, hi, hz0, hz1, hz2⟩ := info_parts askInfo
  have hs := src_row hm
  have grow : ∀ (bs : Option Addr) (sc : Nat), v = .slice bs l.length sc → sc < l.length + m.length →
      (Builtin.firstCells i0.size l.length (.slice bs l.length sc)).run Try.prog w.drew = .ok (flatA l).toArray w.drew →
      ∃ v' w', (Builtin.append_ #[45, 45] ty #[v, x]).run Try.prog w = .ok v' w' ∧ LRow base w' v' (l ++ m) ∧ w.grownBy w' v.ownBlock ∧ (v'.ownBlock = v.ownBlock ∨ ∃ g, w.heap.size ≤ g ∧ v'.ownBlock = some g) := by
    rintro bs sc rfl hg hold
    have hs' : Src Try.prog i0.size 45 x m.length (flatA m) w := by rw [hz1]; exact hs
    have hrun := run_append_grow_src (P := Try.prog) w 45 45 ty 47 i0 _ asksType hi hz0 bs l.length sc (flatA l) hold x m.length (flatA m) hs' hg (by omega) (growslice_fits hg (by rw [hz2]; omega))
    have hge := grownCap_ge w (l.length + m.length) sc 47
    have hcm := grownCap_le_maxLen w (l.length + m.length) sc 47 (by unfold maxLen; omega)
    rw [← flatA_append] at hrun
    have hsz : ((flatA (l ++ m)).toArray ++ Builtin.zeroCells (Value.agg #[.int .i64 0, .int .i64 0, .int .i64 0]).cells (grownCap w (l.length + m.length) sc 47 - (l.length + m.length))).size = grownCap w (l.length + m.length) sc 47 * 3 := by
      rw [Array.size_append, size_zeroCells, List.size_toArray, flatA_len, List.length_append]
      have e : (Value.agg #[.int .i64 0, .int .i64 0, .int .i64 0]).cells.size = 3 := rfl
      rw [e]
      omega
    refine ⟨_, _, hrun, .inr ⟨w.heap.size, 0, _, by rw [List.length_append], hb, by simp, by rw [List.length_append]; exact hge, hcm, fun j u hj => ?_, fun j hj => ⟨?_, ?_⟩⟩, ⟨rfl, rfl, rfl, by simp, fun k hk _ => Below.heap_alloc w.drew _ k hk⟩, .inr ⟨w.heap.size, Nat.le_refl _, rfl⟩⟩
    · have hjl := (List.getElem?_eq_some_iff.1 hj).1
      rw [Nat.zero_add]
      refine (World.cell?_alloc_new w.drew _ _ j).trans ?_
      rw [Array.getElem?_append_left (by rw [List.size_toArray]; exact hjl), List.getElem?_toArray]
      exact hj
    · rw [Nat.zero_add]
      refine (congrArg Option.isSome (World.cell?_alloc_new w.drew _ _ j)).trans ?_
      rw [Array.getElem?_eq_getElem (by rw [hsz]; exact hj)]
      rfl
    · rw [Nat.zero_add]
      exact World.frozen?_alloc_new w.drew _ _ j
  rcases h with ⟨rfl, rfl⟩ | ⟨g, o, c, rfl, h1, h2, h3, h4, h5, h6⟩
  · by_cases hm0 : m = []
    · subst hm0
      have hrun := run_append_nothing (P := Try.prog) w 45 45 ty 47 i0 asksType hi none 0 0 (Nat.le_refl _) x (by rw [hz1]; exact hs)
      exact ⟨_, _, hrun, .inl ⟨rfl, rfl⟩, ⟨rfl, rfl, rfl, Nat.le_refl _, fun _ _ _ => rfl⟩, .inl rfl⟩
    · have : 0 < m.length := List.length_pos_iff.2 hm0
      exact grow none 0 rfl (by simpa using this) (run_firstCells_none w.drew i0.size 0 0 0)
  · by_cases hfit : l.length + m.length ≤ c
    · have hth : w.there g (o + l.length * 3) (m.length * 3) := fun j hj => by
        have := h6 (l.length * 3 + j) (by have := Nat.mul_le_mul_right 3 hfit; omega)
        rwa [← Nat.add_assoc] at this
      have hrun := run_append_room_src (P := Try.prog) w 45 45 ty 47 i0 asksType hi g o l.length c x m.length (flatA m) (by rw [hz1]; exact hs) hfit (fun j hj => by rw [hz1]; exact (hth j (by rw [flatA_len] at hj; exact hj)).1) (fun j hj => by rw [hz1]; exact (hth j (by rw [flatA_len] at hj; exact hj)).2)
      rw [hz1] at hrun
      refine ⟨_, _, hrun, .inr ⟨g, o, c, by rw [List.length_append], h1, Nat.lt_of_lt_of_le h2 (size_setCells _ _ _ _), by rw [List.length_append]; exact hfit, h4, ?_, World.there_setCells h6 _ _ _⟩, grownBy_setCells w g _ _, .inl rfl⟩
      rw [flatA_append]
      have a1 := World.rangeAt_setCells_apart h5 g (o + l.length * 3) (flatA m) (.inr (.inl (by rw [flatA_len]; omega)))
      have a2 := World.rangeAt_setCells_same w g (o + l.length * 3) (flatA m) (by rw [flatA_len]; exact hth)
      intro j u hj
      by_cases hjl : j < (flatA l).length
      · rw [List.getElem?_append_left hjl] at hj
        exact a1 j u hj
      · rw [List.getElem?_append_right (by omega)] at hj
        have := a2 _ u hj
        rw [flatA_len] at this hjl
        rwa [show o + l.length * 3 + (j - l.length * 3) = o + j by omega] at this
    · refine grow (some ⟨g, o, none⟩) c rfl (by omega) ?_
      rw [hz1]
      refine run_firstCells_some w.drew 3 l.length ⟨g, o, none⟩ l.length c (flatA l) (flatA_len l) (fun j u hu => ?_)
      rw [Addr.add_lit]
      exact h5 j u hu
section
variable {ops : Array Oper} {rest : List Oper} {op : Oper} {a : Act} {w : World} {Q : Exit → Act → World → Prop}
theorem wpList_appendA (hgd : op.guard = none) (s x : Operand) (ho : op.op = .call { callee := .builtin .append, args := #[s, x], argTypes := #[45, 45] }) (base : Nat) (S l : List Aq) (v vx : Value) (hs : a.eval s = v) (hown : LRow base w v S) (hx : a.eval x = vx) (hk : PRow w vx l) (hS : S.length + l.length ≤ 1000) (hb : base ≤ w.heap.size)
    (h : ∀ v' w', LRow base w' v' (S ++ l) → w.grownBy w' v.ownBlock → (v'.ownBlock = v.ownBlock ∨ ∃ g, w.heap.size ≤ g ∧ v'.ownBlock = some g) → wpList Try.prog ops Q rest (a.put op.dst v') w') : wpList Try.prog ops Q (op :: rest) a w := by
  obtain ⟨v', w', hr, h1, h2, h3⟩ := run_appendA base S l v vx w op.type hown hk hS hb
  exact Go.Lib.wpList_append_run w hgd s x _ _ ho _ _ hs hx _ _ hr (h v' w' h1 h2 h3)
end
/-- Parts. -/
theorem LRow.front {base : Nat} {w : World} {g o n c : Nat} {l : List Aq} (h : LRow base w (.slice (some ⟨g, o, none⟩) n c) l) {i : Nat} (hi : i ≤ l.length) (c' : Nat) : PRow w (.slice (some ⟨g, o, none⟩) i c') (l.take i) := by
  rcases h with ⟨h, _⟩ | ⟨g', o', c1, e, h1, h2, h3, h4, h5, h6⟩
  · cases h
  · injection e with e1 _ _
    injection e1 with e1
    injection e1 with e1 e2 _
    subst e1; subst e2
    refine ⟨g, o, c', by rw [List.length_take, Nat.min_eq_left hi], fun j u hj => h5 j u ?_⟩
    have := (List.getElem?_eq_some_iff.1 hj).1
    conv => lhs; rw [← List.take_append_drop i l, flatA_append]
    rw [List.getElem?_append_left this]
    exact hj
theorem LRow.back {base : Nat} {w : World} {g o n c : Nat} {l : List Aq} (h : LRow base w (.slice (some ⟨g, o, none⟩) n c) l) {i : Nat} (hi : i ≤ l.length) (c' : Nat) : PRow w (.slice (some ⟨g, o + i * 3, none⟩) (l.length - i) c') (l.drop i) := by
  rcases h with ⟨h, _⟩ | ⟨g', o', c1, e, h1, h2, h3, h4, h5, h6⟩
  · cases h
  · injection e with e1 _ _
    injection e1 with e1
    injection e1 with e1 e2 _
    subst e1; subst e2
    refine ⟨g, o + i * 3, c', by rw [List.length_drop], fun j u hj => ?_⟩
    have := h5 (i * 3 + j) u (by
      conv => lhs; rw [← List.take_append_drop i l, flatA_append]
      have e : (flatA (l.take i)).length = i * 3 := by rw [flatA_len, List.length_take, Nat.min_eq_left hi]
      rw [List.getElem?_append_right (by omega), e, Nat.add_sub_cancel_left]
      exact hj)
    rwa [← Nat.add_assoc] at this
theorem LRow.tail {base : Nat} {w : World} {g o n c : Nat} {l : List Aq} (h : LRow base w (.slice (some ⟨g, o, none⟩) n c) l) (hl : 1 ≤ l.length) : LRow base w (.slice (some ⟨g, o + 3, none⟩) (n - 1) (c - 1)) (l.drop 1) := by
  have hp := h.back (i := 1) hl 0
  rcases h with ⟨h, _⟩ | ⟨g', o', c1, e, h1, h2, h3, h4, h5, h6⟩
  · cases h
  · injection e with e1 e3 e4
    injection e1 with e1
    injection e1 with e1 e2 _
    subst e1; subst e2; subst e3; subst e4
    obtain ⟨g2, o2, c2, e, hr⟩ := hp
    injection e with e1 _ _
    injection e1 with e1
    injection e1 with e1 e2 _
    subst e1; subst e2
    refine .inr ⟨g, o + 3, c - 1, by rw [List.length_drop], h1, h2, by rw [List.length_drop]; omega, by omega, hr, fun j hj => ?_⟩
    have := h6 (3 + j) (by omega)
    rwa [← Nat.add_assoc] at this
theorem LRow.one {base : Nat} {w : World} {g o n c : Nat} {l : List Aq} (h : LRow base w (.slice (some ⟨g, o, none⟩) n c) l) {j : Nat} {a : Aq} (hj : l[j]? = some a) : w.rangeAt g (o + j * 3) (aqv a) := by
  have hjl := (List.getElem?_eq_some_iff.1 hj).1
  obtain ⟨g2, o2, c2, e, hr⟩ := h.back (i := j) (Nat.le_of_lt hjl) 0
  injection e with e1 _ _
  injection e1 with e1
  injection e1 with e1 e2 _
  subst e1; subst e2
  intro i u hi
  refine hr i u ?_
  rw [List.drop_eq_getElem_cons hjl, (List.getElem?_eq_some_iff.1 hj).2]
  show (aqv a ++ flatA (l.drop (j + 1)))[i]? = _
  rw [List.getElem?_append_left (List.getElem?_eq_some_iff.1 hi).1]
  exact hi
/-- What is kept lies in another block than these asks. -/
def KApart (B : Nat) (w : World) (v lv : Value) (l : List Kp) : Prop := ∃ p c, v = .slice p l.length c ∧ l.length ≤ c ∧ c ≤ maxLen ∧ (l ≠ [] → ∃ g o, p = some ⟨g, o, none⟩ ∧ B ≤ g ∧ g < w.heap.size ∧ lv.ownBlock ≠ some g ∧ w.rangeAt g o (flatK l))
theorem KApart.row {B : Nat} {w : World} {v lv : Value} {l : List Kp} (h : KApart B w v lv l) : KRow B w v l := by
  obtain ⟨p, c, e, h1, h2, h3⟩ := h
  refine ⟨p, c, e, h1, h2, fun hn => ?_⟩
  obtain ⟨g, o, hp, hB, _, _, hr⟩ := h3 hn
  exact ⟨g, o, hp, hB, hr⟩
theorem KApart.none (B : Nat) (w : World) (lv : Value) : KApart B w (.slice none 0 0) lv [] := ⟨Option.none, 0, rfl, Nat.le_refl _, by unfold maxLen; omega, fun h => absurd rfl h⟩
theorem KRow.lt {w : World} {g o : Nat} {l : List Kp} (hn : l ≠ []) (hr : w.rangeAt g o (flatK l)) : g < w.heap.size := by
  obtain ⟨k, l', rfl⟩ : ∃ k l', l = k :: l' := by
    cases l with
    | nil => exact absurd rfl hn
    | cons k l' => exact ⟨k, l', rfl⟩
  exact block_lt_of_cell (hr 0 _ (by
    show ((kv k).toList ++ _)[0]? = _
    rw [List.getElem?_append_left (by rw [kvl_len]; omega), Array.getElem?_toList]
    exact kv_0 k))
/-- A row that is new lies apart from what is old. -/
theorem KRow.apart {B : Nat} {w : World} {v lv : Value} {l : List Kp} (h : KRow B w v l) (hl : ∀ g, lv.ownBlock = some g → g < B) : KApart B w v lv l := by
  obtain ⟨p, c, e, h1, h2, h3⟩ := h
  refine ⟨p, c, e, h1, h2, fun hn => ?_⟩
  obtain ⟨g, o, hp, hB, hr⟩ := h3 hn
  exact ⟨g, o, hp, hB, KRow.lt hn hr, fun e => absurd (hl g e) (by omega), hr⟩
theorem KApart.low {B B' : Nat} {w : World} {v lv : Value} {l : List Kp} (h : KApart B w v lv l) (hb : B' ≤ B) : KApart B' w v lv l := by
  obtain ⟨p, c, e, h1, h2, h3⟩ := h
  refine ⟨p, c, e, h1, h2, fun hn => ?_⟩
  obtain ⟨g, o, hp, hB, r⟩ := h3 hn
  exact ⟨g, o, hp, Nat.le_trans hb hB, r⟩
theorem KApart.grown {B : Nat} {w w' : World} {v lv lv' : Value} {l : List Kp} (h : KApart B w v lv l) (hg : w.grownBy w' lv.ownBlock) (hl : lv'.ownBlock = lv.ownBlock ∨ ∃ g, w.heap.size ≤ g ∧ lv'.ownBlock = some g) : KApart B w' v lv' l := by
  obtain ⟨p, c, e, h1, h2, h3⟩ := h
  refine ⟨p, c, e, h1, h2, fun hn => ?_⟩
  obtain ⟨g, o, hp, hB, hlt, hne, hr⟩ := h3 hn
  refine ⟨g, o, hp, hB, Nat.lt_of_lt_of_le hlt hg.size, ?_, range_same hr (hg.block g hlt (fun e => hne e.symm))⟩
  rcases hl with hl | ⟨g', hg', hl⟩
  · rw [hl]; exact hne
  · rw [hl]; intro e; injection e with e; omega
theorem KApart.later {B : Nat} {w w' : World} {v lv : Value} {l : List Kp} (h : KApart B w v lv l) (hb : Below w.heap.size w w') : KApart B w' v lv l := by
  obtain ⟨p, c, e, h1, h2, h3⟩ := h
  refine ⟨p, c, e, h1, h2, fun hn => ?_⟩
  obtain ⟨g, o, hp, hB, hlt, hne, hr⟩ := h3 hn
  exact ⟨g, o, hp, hB, Nat.lt_of_lt_of_le hlt hb.size, hne, range_same hr (hb.block g hlt)⟩
/-- .. and from asks that are newer. -/
theorem KApart.newer {B : Nat} {w w' : World} {v lv lv' : Value} {l : List Kp} (h : KApart B w v lv l) (hb : Below w.heap.size w w') (hl : ∀ g, lv'.ownBlock = some g → w.heap.size ≤ g) : KApart B w' v lv' l := by
  obtain ⟨p, c, e, h1, h2, h3⟩ := h
  refine ⟨p, c, e, h1, h2, fun hn => ?_⟩
  obtain ⟨g, o, hp, hB, hlt, hne, hr⟩ := h3 hn
  exact ⟨g, o, hp, hB, Nat.lt_of_lt_of_le hlt hb.size, fun e => absurd (hl g e) (by omega), range_same hr (hb.block g hlt)⟩
theorem KApart.as {B : Nat} {w : World} {v lv lv' : Value} {l : List Kp} (h : KApart B w v lv l) (e : lv'.ownBlock = lv.ownBlock) : KApart B w v lv' l := by
  unfold KApart
  rw [e]
  exact h
theorem KApart.set {B g5 : Nat} {w : World} {v lv : Value} {l : List Kp} (h : KApart B w v lv l) (hg : g5 < B) (xs : Array Value) : KApart B (w.setRow g5 xs) v lv l := by
  obtain ⟨p, c, e, h1, h2, h3⟩ := h
  refine ⟨p, c, e, h1, h2, fun hn => ?_⟩
  obtain ⟨g, o, hp, hB, hlt, hne, hr⟩ := h3 hn
  have eg := setRow_other w g5 g xs (by omega)
  have hr' := range_same hr eg
  exact ⟨g, o, hp, hB, KRow.lt hn hr', hne, hr'⟩
theorem LRow.set {base g5 : Nat} {w : World} {v : Value} {l : List Aq} (h : LRow base w v l) (hg : g5 < base) (xs : Array Value) : LRow base (w.setRow g5 xs) v l := by
  rcases h with h | ⟨g, o, c, e, h1, h2, h3, h4, h5, h6⟩
  · exact .inl h
  · have eg := setRow_other w g5 g xs (by omega)
    refine .inr ⟨g, o, c, e, h1, ?_, h3, h4, range_same h5 eg, there_same h6 eg⟩
    have := (Below.refl 0 w)
    exact Nat.lt_of_lt_of_le h2 (below_setRow this (Nat.zero_le _) xs).size
theorem LRow.low {B B' : Nat} {w : World} {v : Value} {l : List Aq} (h : LRow B w v l) (hb : B' ≤ B) : LRow B' w v l := by
  rcases h with h | ⟨g, o, c, e, h1, r⟩
  · exact .inl h
  · exact .inr ⟨g, o, c, e, Nat.le_trans hb h1, r⟩
theorem LRow.take {base : Nat} {w : World} {p : Option Addr} {n c : Nat} {l : List Aq} (h : LRow base w (.slice p n c) l) {i : Nat} (hi : i < l.length) : PRow w (.slice p i c) (l.take i) := by
  rcases id h with ⟨_, e⟩ | ⟨g', o', c1, e, _⟩
  · subst e; simp at hi
  · injection e with e1 e2 e3
    subst e1 e2 e3
    exact h.front (Nat.le_of_lt hi) c
theorem LRow.drop {base : Nat} {w : World} {p : Option Addr} {n c : Nat} {l : List Aq} (h : LRow base w (.slice p n c) l) {j : Nat} (hj : j ≤ l.length) (h0 : 0 < l.length) : PRow w (.slice (if c = j then p else Option.map (fun x => x.add (j * 3)) p) (l.length - j) (c - j)) (l.drop j) := by
  rcases id h with ⟨_, e⟩ | ⟨g', o', c1, e, _, _, hlc, _⟩
  · subst e; simp at h0
  · injection e with e1 e2 e3
    subst e1 e2 e3
    by_cases hc : c = j
    · have e0 : l.drop j = [] := List.drop_of_length_le (by omega)
      rw [if_pos hc, e0]
      exact ⟨g', o', _, by rw [show l.length - j = 0 by omega]; rfl, fun j u hj => by simp [flatA] at hj⟩
    · rw [if_neg hc]
      have e1 : Option.map (fun x => Addr.add x (j * 3)) (some ⟨g', o', none⟩) = some ⟨g', o' + j * 3, none⟩ := by
        show some ((⟨g', o', none⟩ : Addr).add (j * 3)) = _
        rw [in_add9]
      rw [e1]
      exact h.back hj (c - j)
theorem LRow.rest {base : Nat} {w : World} {p : Option Addr} {n c : Nat} {l : List Aq} (h : LRow base w (.slice p n c) l) (hl : 64 < n) : LRow base w (.slice (if c = 1 then p else Option.map (fun x => x.add 3) p) (n - 1) (c - 1)) (l.drop 1) ∧ (Value.slice (if c = 1 then p else Option.map (fun x => x.add 3) p) (n - 1) (c - 1)).ownBlock = (Value.slice p n c).ownBlock := by
  rcases id h with ⟨e, _⟩ | ⟨g', o', c1, e, _, _, hlc, _⟩
  · injection e with _ e2 _
    omega
  · injection e with e1 e2 e3
    subst e1 e2 e3
    rw [if_neg (by omega)]
    have e1 : Option.map (fun x => Addr.add x 3) (some ⟨g', o', none⟩) = some ⟨g', o' + 3, none⟩ := by
      show some ((⟨g', o', none⟩ : Addr).add 3) = _
      rw [in_add9]
    rw [e1]
    exact ⟨h.tail (by omega), rfl⟩
theorem PRow.one {w : World} {g : Nat} {a : Aq} (h : w.heap[g]? = some (.cells #[.int .i64 a.r, .int .i64 a.d, .int .i64 a.v] 47 (0, 0))) : PRow w (.slice (some ⟨g, 0, none⟩) 1 1) [a] :=
  ⟨g, 0, 1, rfl, fun j u hj => by
    rw [flatA_one] at hj
    refine (cell_of_row _ _ _ _ _ _ h).trans ?_
    rw [Nat.zero_add, ← Array.getElem?_toList]
    exact hj⟩
theorem PRow.later {w w' : World} {v : Value} {l : List Aq} (h : PRow w v l) (hb : Below w.heap.size w w') : PRow w' v l := by
  obtain ⟨g, o, c, e, hr⟩ := h
  exact ⟨g, o, c, e, rangeAt_below hr hb⟩
theorem LRow.lt {base : Nat} {w : World} {v : Value} {l : List Aq} (h : LRow base w v l) : ∀ g, v.ownBlock = some g → base ≤ g ∧ g < w.heap.size := by
  rcases h with ⟨rfl, _⟩ | ⟨g', o', c1, rfl, h1, h2, _⟩
  · intro g e
    simp [Value.ownBlock] at e
  · intro g e
    simp [Value.ownBlock] at e
    omega
theorem below_grown {base : Nat} {w w' : World} {v : Value} {l : List Aq} (h : LRow base w v l) (hg : w.grownBy w' v.ownBlock) (hb : base ≤ w.heap.size) : Below base w w' :=
  ⟨hg.os, hg.tape, hg.output, hg.size, fun k hk => hg.block k (by omega) (fun e => by have := (h.lt k e.symm).1; omega)⟩
/-- An ask that is kept. -/
def aq (k : Kp) : Aq := ⟨k.r, k.d, k.v⟩
theorem map_dropAt (l : List Kp) {n : Nat} {i : Int} (h : i = (n : Int)) : (dropAt l i).map aq = (l.map aq).take n ++ (l.map aq).drop (n + 1) := by
  subst h
  unfold dropAt
  rw [if_pos (by omega), Int.toNat_natCast, List.map_append, List.map_take, List.map_drop]
theorem dropAt_none (l : List Kp) {i : Int} (h : i = -1) : dropAt l i = l := by
  subst h
  unfold dropAt
  rw [if_neg (by omega)]
/-- What a good answer keeps, and whether it was run. -/
theorem once_get {cs : List Cd} {l : List Kp} (hl : l.length ≤ 64) {runs : Int} (h0 : 0 ≤ runs) (h1 : runs < 9223372036854775808) (v r d : Int) (he : (getP cs l runs v r d).er = 0) :
    decide ((getP cs l runs v r d).n = runs) = hitK l v r d ∧ (getP cs l runs v r d).l.length ≤ 64 ∧ ((getP cs l runs v r d).n ≤ runs + 1 ∧ (runs + 1 < 9223372036854775808 → 0 ≤ (getP cs l runs v r d).n)) ∧
    ((dropAt l (idxK r d l 0)).length + 1 ≤ 64 → (getP cs l runs v r d).l.map aq = (dropAt l (idxK r d l 0)).map aq ++ [(⟨r, d, v⟩ : Aq)]) ∧
    (64 < (dropAt l (idxK r d l 0)).length + 1 → (getP cs l runs v r d).l.map aq = ((dropAt l (idxK r d l 0)).map aq ++ [(⟨r, d, v⟩ : Aq)]).drop 1) := by
  have hdl : (dropAt l (idxK r d l 0)).length ≤ l.length := dropAt_len (by have := idxK_ge r d l 0; omega)
  unfold getP at he ⊢
  by_cases hh : hitK l v r d = true
  · rw [if_pos hh]
    obtain ⟨n, k, e, h2, h3, h4, h5, h6⟩ := hit_at hh
    rw [h6]
    have hn := (List.getElem?_eq_some_iff.1 h2).1
    have hd1 := dropAt_len1 (l := l) (i := idxK r d l 0) (by omega) (by omega)
    refine ⟨by rw [hh]; simp, ?_, ⟨by show runs ≤ runs + 1; omega, fun _ => h0⟩, fun _ => ?_, fun h => by omega⟩
    · show (dropAt l (idxK r d l 0) ++ [k]).length ≤ 64
      rw [List.length_append, List.length_singleton]
      omega
    · show (dropAt l (idxK r d l 0) ++ [k]).map aq = _
      rw [List.map_append, List.map_singleton]
      unfold aq
      rw [h3, h4, h5]
  · rw [if_neg hh] at he ⊢
    by_cases h2 : (runE cs r d).1 ≠ 0
    · rw [if_pos h2] at he
      exact absurd he h2
    · rw [if_neg h2]
      have hw : IntKind.i64.wrap (runs + 1) ≠ runs := by rw [IntKind.wrap_i64]; omega
      refine ⟨?_, lastN_len _, ⟨?_, fun h => ?_⟩, fun h => ?_, fun h => ?_⟩
      · rw [Bool.not_eq_true] at hh
        rw [hh]
        exact decide_eq_false hw
      · show IntKind.i64.wrap (runs + 1) ≤ runs + 1
        rw [IntKind.wrap_i64]
        omega
      · show 0 ≤ IntKind.i64.wrap (runs + 1)
        rw [IntKind.wrap_i64]
        omega
      · show (lastN _).map aq = _
        unfold lastN
        rw [List.length_append, List.length_singleton, show (dropAt l (idxK r d l 0)).length + 1 - 64 = 0 by omega, List.drop_zero, List.map_append]
        rfl
      · show (lastN _).map aq = _
        unfold lastN
        rw [List.length_append, List.length_singleton, show (dropAt l (idxK r d l 0)).length + 1 - 64 = 1 by omega, List.map_drop, List.map_append]
        rfl
theorem hit_none {l : List Kp} {v r d : Int} (h : idxK r d l 0 = -1) : hitK l v r d = false := by
  unfold hitK
  rw [h]
  rfl
theorem hit_some {l : List Kp} {v r d : Int} {n : Nat} {k : Kp} (h : idxK r d l 0 = (n : Int)) (hk : l[n]? = some k) : hitK l v r d = decide (k.v = v) := by
  unfold hitK
  rw [h, decide_eq_true (by omega), Bool.true_and, Int.toNat_natCast]
  simp [List.getD, hk]
end Go.Proofs.Ytaeengpppehlfaa

/- Two parts of the asks are put together: what is said meanwhile. -/
namespace Go.Proofs.Ytaeengpppehlfaa
open Go.RowKit Msk Vx

theorem LRow.addr {base : Nat} {w : World} {p : Option Addr} {n c : Nat} {l : List Aq} (h : LRow base w (.slice p n c) l) (h0 : 0 < l.length) : ∃ g o, p = some ⟨g, o, none⟩ := by
  rcases h with ⟨_, e⟩ | ⟨g', o', c1, e, _⟩
  · subst e; simp at h0
  · injection e with e1 _ _
    exact ⟨g', o', e1⟩
theorem LRow.drop1 {base : Nat} {w : World} {g o n c : Nat} {l : List Aq} (h : LRow base w (.slice (some ⟨g, o, none⟩) n c) l) {j : Nat} (hj : j ≤ l.length) (h0 : 0 < l.length) : PRow w (.slice (if c = j then some ⟨g, o, none⟩ else some ⟨g, o + j * 3, none⟩) (l.length - j) (c - j)) (l.drop j) := by
  have := h.drop hj h0
  have e1 : Option.map (fun x => Addr.add x (j * 3)) (some ⟨g, o, none⟩) = some ⟨g, o + j * 3, none⟩ := by
    show some ((⟨g, o, none⟩ : Addr).add (j * 3)) = _
    rw [in_add9]
  rw [e1] at this
  exact this
theorem LRow.fresh {base : Nat} {W : World} (h : base ≤ W.heap.size) : LRow base (W.alloc (.cells #[] 47)) (.slice (some ⟨W.heap.size, 0, none⟩) 0 0) [] :=
  .inr ⟨W.heap.size, 0, 0, rfl, h, by simp, Nat.le_refl _, by unfold maxLen; omega, fun j u hj => by simp [flatA] at hj, fun j hj => by omega⟩
theorem buildA0 (W : World) : (Instr.buildSlice 45 0 #[]).run Try.prog W = .ok (.slice (some ⟨W.heap.size, 0, none⟩) 0 0) (W.alloc (.cells #[] 47)) := by
  kernel_rfl
section
variable {op : Oper} {a : Act} {w : World} {K : Act → World → Prop} {Q : Exit → Act → World → Prop}
theorem wp_buildA0 (ho : op.op = .buildSlice 45 0 #[]) (h : K (a.put op.dst (.slice (some ⟨w.heap.size, 0, none⟩) 0 0)) (w.alloc (.cells #[] 47))) : op.wp Try.prog a w K Q := by
  unfold Oper.wp execOp
  have hb := buildA0 w
  simp only [ho, List.map_toArray, List.map_nil, Sem.run_bind, Sem.run_pure, Result.andThen_ok, hb]
  exact h
theorem wp_appendA (s x : Operand) (ho : op.op = .call { callee := .builtin .append, args := #[s, x], argTypes := #[45, 45] }) (base : Nat) (S l : List Aq) (v vx : Value) (hs : a.eval s = v) (hown : LRow base w v S) (hx : a.eval x = vx) (hk : PRow w vx l) (hS : S.length + l.length ≤ 1000) (hb : base ≤ w.heap.size)
    (h : ∀ v' w', LRow base w' v' (S ++ l) → w.grownBy w' v.ownBlock → (v'.ownBlock = v.ownBlock ∨ ∃ g, w.heap.size ≤ g ∧ v'.ownBlock = some g) → K (a.put op.dst v') w') : op.wp Try.prog a w K Q := by
  obtain ⟨v', w', hr, h1, h2, h3⟩ := run_appendA base S l v vx w op.type hown hk hS hb
  unfold Oper.wp
  simp [execOp, ho, resolve, invoke, builtin, hs, hx, hr, Result.andThen]
  exact h v' w' h1 h2 h3
end
/-- What the operations yield. -/
def bsp (vals : List Value) (base : Nat) (T D : List Aq) (L : Nat → Bool) (i : Nat) (v : Value) (W : World) : Prop :=
  if i = 0 then (L 4 = false → LRow base W v [])
  else if i = 4 then (L 9 = false → LRow base W v T)
  else if i = 9 then LRow base W v (T ++ D)
  else v = vals.getD i undef
section
variable {vals : List Value} {base : Nat} {T D : List Aq} {L L' : Nat → Bool} {W W' : World}
theorem bsp_at {i : Nat} {v : Value} (h : bsp vals base T D L i v W) (h1 : i ≠ 0) (h2 : i ≠ 4) (h3 : i ≠ 9) : v = vals.getD i undef := by
  unfold bsp at h
  rw [if_neg h1, if_neg h2, if_neg h3] at h
  exact h
theorem bsp_mk {i : Nat} (h1 : i ≠ 0) (h2 : i ≠ 4) (h3 : i ≠ 9) : bsp vals base T D L i (vals.getD i undef) W := by
  unfold bsp
  rw [if_neg h1, if_neg h2, if_neg h3]
theorem bsp_0 {v : Value} (h : bsp vals base T D L 0 v W) : L 4 = false → LRow base W v [] := by
  unfold bsp at h
  rw [if_pos rfl] at h
  exact h
theorem bsp_4 {v : Value} (h : bsp vals base T D L 4 v W) : L 9 = false → LRow base W v T := by
  unfold bsp at h
  rw [if_neg (by decide), if_pos rfl] at h
  exact h
theorem bsp_9 {v : Value} (h : bsp vals base T D L 9 v W) : LRow base W v (T ++ D) := by
  unfold bsp at h
  rw [if_neg (by decide), if_neg (by decide), if_pos rfl] at h
  exact h
theorem bsp_mk0 {v : Value} (h : LRow base W v []) : bsp vals base T D L 0 v W := by
  unfold bsp
  rw [if_pos rfl]
  exact fun _ => h
theorem bsp_mk4 {v : Value} (h : LRow base W v T) : bsp vals base T D L 4 v W := by
  unfold bsp
  rw [if_neg (by decide), if_pos rfl]
  exact fun _ => h
theorem bsp_mk9 {v : Value} (h : LRow base W v (T ++ D)) : bsp vals base T D L 9 v W := by
  unfold bsp
  rw [if_neg (by decide), if_neg (by decide), if_pos rfl]
  exact h
theorem bsp_keep (h4 : L' 4 = false → L 4 = false) (h9 : L' 9 = false → L 9 = false) (hb : Below W.heap.size W W') (j : Nat) (u : Value) (h : bsp vals base T D L j u W) : bsp vals base T D L' j u W' := by
  by_cases e0 : j = 0
  · subst e0
    unfold bsp
    rw [if_pos rfl]
    exact fun q => (bsp_0 h (h4 q)).later hb
  · by_cases e4 : j = 4
    · subst e4
      unfold bsp
      rw [if_neg (by decide), if_pos rfl]
      exact fun q => (bsp_4 h (h9 q)).later hb
    · by_cases e9 : j = 9
      · subst e9
        exact bsp_mk9 ((bsp_9 h).later hb)
      · rw [bsp_at h e0 e4 e9]
        exact bsp_mk e0 e4 e9
theorem bsp_app4 {j : Nat} (hj : j ≠ 4) (hj9 : j ≠ 9) (u : Value) (h : bsp vals base T D L j u W) : bsp vals base T D (fun k => decide (4 = k) || L k) j u W' := by
  by_cases e0 : j = 0
  · subst e0
    unfold bsp
    rw [if_pos rfl]
    exact fun q => by simp at q
  · rw [bsp_at h e0 hj hj9]
    exact bsp_mk e0 hj hj9
theorem bsp_app9 {j : Nat} (hj : j ≠ 9) (h4 : L 4 = true) (u : Value) (h : bsp vals base T D L j u W) : bsp vals base T D (fun k => decide (9 = k) || L k) j u W' := by
  by_cases e0 : j = 0
  · subst e0
    unfold bsp
    rw [if_pos rfl]
    exact fun q => by simp [h4] at q
  · by_cases e4 : j = 4
    · subst e4
      unfold bsp
      rw [if_neg (by decide), if_pos rfl]
      exact fun q => by simp at q
    · rw [bsp_at h e0 e4 hj]
      exact bsp_mk e0 e4 hj
end
end Go.Proofs.Ytaeengpppehlfaa
