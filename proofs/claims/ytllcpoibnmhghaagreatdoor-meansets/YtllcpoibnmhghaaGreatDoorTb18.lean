/- What wrongRule and parse.Wrong come to. -/
import Derived.Test.YtllcpoibnmhghaaGreatDoorTb15
import Derived.Test.YtllcpoibnmhghaaGreatDoorTb17
import Derived.Test.YtllcpoibnmhghaaGreatDoorTb02
namespace Lx

/-- What is wrong with a rule. -/
def ruleP (u : Ru) : Int := if Go.Proofs.YtllcpoibnmhghaaGreatDoor.namedL u.1 = false then 7 else (shapeP u.2 1 0).1
/-- What is wrong with rules, and at which one, from so many on. -/
def wrongL : List Ru → Nat → Int × Nat
  | [], _ => (0, 0)
  | u :: l, i => if ruleP u ≠ 0 then (ruleP u, i) else wrongL l (i + 1)
def wrongR (l : List Ru) : Int × Nat := if 40 < l.length then (5, 0) else wrongL l 0
theorem wrongL_step {l : List Ru} {j : Nat} {u : Ru} (h : l[j]? = some u) : wrongL (l.drop j) j = if ruleP u ≠ 0 then (ruleP u, j) else wrongL (l.drop (j + 1)) (j + 1) := by
  obtain ⟨h1, h2⟩ := List.getElem?_eq_some_iff.1 h
  rw [List.drop_eq_getElem_cons h1, h2]; rfl
end Lx
namespace Go.Proofs.YtllcpoibnmhghaaGreatDoor
open Go.RowKit Lx

/-- A rule that came in. -/
def RuleIn (w : World) (p : Ru × Value) : Prop := p.1.1.length ≤ 9223372036854775807 ∧ p.1.2.name.length ≤ 9223372036854775807 ∧ ∃ d, KidsB (fun k => k < w.heap.size) d w p.2 p.1.2.kids
theorem RuleIn.below {w w' : World} {p : Ru × Value} (h : RuleIn w p) (hb : Below w.heap.size w w') : RuleIn w' p := by
  obtain ⟨h1, h2, d, h3⟩ := h
  exact ⟨h1, h2, d, (h3.kept fun g _ hl => hb.block g hl).mono fun g hg => Nat.lt_of_lt_of_le hg hb.size⟩
/-- Rules that came in. -/
structure InR (w : World) (v : Value) (us : List (Ru × Value)) : Prop where
  row : RRow w v us
  len : us.length < 9223372036854775808
  all : ∀ p ∈ us, RuleIn w p
theorem InR.below {w w' : World} {v : Value} {us : List (Ru × Value)} (h : InR w v us) (hb : Below w.heap.size w w') : InR w' v us := ⟨h.row.below hb, h.len, fun p hp => (h.all p hp).below hb⟩
theorem flt_ret {fn : Func} (s : Nat) (h : fn.results = #[ResultVar.cell s 43]) {R : Ending → World → Prop} {a : Act} {w : World} (g : Nat) (er at_ : Int) (hd : a.defers = []) (h2 : a.tmps.getD s undef = .pointer (some ⟨g, 0, none⟩))
    (hg : w.heap[g]? = some (.cells #[.int .i64 er, .int .i64 at_] 43 (0, 0))) (hR : R (.returned (.agg #[.int .i64 er, .int .i64 at_])) w) : bodyPost Tryz.prog fn R .ret a w := by
  refine bodyPost_ret (v := .agg #[.int .i64 er, .int .i64 at_]) ?_ hd hR
  have h2' : a.tmps[s]?.getD undef = .pointer (some ⟨g, 0, none⟩) := by simpa using h2
  have hv := run_loadVar_row (P := Tryz.prog) w g 43 43 _ _ _ hg faultType rfl (by kernel_rfl)
  simp [results, h, h2', asAddr, hv]

set_option maxRecDepth 100000 in
set_option maxHeartbeats 1000000 in
theorem wrule_any (u : Ru) (p : Option Addr) (c : Nat) (w : World) (h : RuleIn w (u, .slice p u.2.kids.length c)) :
    Calls Tryz.prog 46 #[.agg #[.string ⟨u.1.toArray⟩, .int .i64 u.2.kind, .int .i64 u.2.a, .int .i64 u.2.b, .string ⟨u.2.name.toArray⟩, .slice p u.2.kids.length c]] w fun r w' => r = .returned (.int .i64 (ruleP u)) ∧ Below w.heap.size w w' := by
  obtain ⟨h1, h2, d, h3⟩ := h
  dsimp only at h1 h2 h3
  have hbA := (Below.refl w.heap.size w).alloc (Nat.le_refl _) (.cells #[.string ⟨u.1.toArray⟩, .int .i64 u.2.kind, .int .i64 u.2.a, .int .i64 u.2.b, .string ⟨u.2.name.toArray⟩, .slice p u.2.kids.length c] 38)
  have hxA := heap_alloc_new w (.cells #[.string ⟨u.1.toArray⟩, .int .i64 u.2.kind, .int .i64 u.2.a, .int .i64 u.2.b, .string ⟨u.2.name.toArray⟩, .slice p u.2.kids.length c] 38)
  generalize hwA : w.alloc (.cells #[.string ⟨u.1.toArray⟩, .int .i64 u.2.kind, .int .i64 u.2.a, .int .i64 u.2.b, .string ⟨u.2.name.toArray⟩, .slice p u.2.kids.length c] 38) = wA at *
  have z0 := (cell_of_row _ _ 0 _ _ _ hxA).trans rfl
  have cN := named_big ⟨u.1.toArray⟩ u.1 rfl h1 wA
  have HP : Hid (ruleP u = if namedL u.1 = false then 7 else (shapeP u.2 1 0).1) := rfl
  cases hnb : namedL u.1 with
  | false =>
    have HE : Hid (ruleP u = 7) := by show _ = _; rw [HP.out, if_pos hnb]
    rw [hnb] at cN
    clear HP h3 hxA
    go_enter Tryz.func46, Tryz.ntmps46
    go_wp2_with fail
    refine cN.mono ?_
    rintro r w1 ⟨rfl, hb1⟩
    have hbw := hbA.trans (hb1.mono hbA.size)
    clear cN hb1 hbA hwA z0
    go_wp2_with fail
    go_ret
    rw [HE.out]
    exact ⟨rfl, hbw⟩
  | true =>
    have HE : Hid (ruleP u = (shapeP u.2 1 0).1) := by show _ = _; rw [HP.out, if_neg (by simp [hnb])]
    rw [hnb] at cN
    have hszA : w.heap.size < wA.heap.size := lt_of_block hxA
    clear HP
    go_enter Tryz.func46, Tryz.ntmps46
    go_wp2_with fail
    refine cN.mono ?_
    rintro r w1 ⟨rfl, hb1⟩
    have hb1w := hbA.trans (hb1.mono hbA.size)
    have hsz1 := hb1.size
    have hx1 := (hb1.block _ (lt_of_block hxA)).trans hxA
    have hbC : Below w1.heap.size w1 (w1.alloc (.cells #[.int .i64 0] 3)) := (Below.refl _ _).alloc (Nat.le_refl _) _
    have hn2 := heap_alloc_new w1 (.cells #[.int .i64 0] 3)
    have hxC := (hbC.block _ (lt_of_block hx1)).trans hx1
    have hlx := lt_of_block hx1
    have hbCw := hb1w.trans (hbC.mono hb1w.size)
    generalize hwC : w1.alloc (.cells #[.int .i64 0] 3) = wC at *
    have z2 := (cell_of_row _ _ 0 _ _ _ hn2).trans rfl
    have y2 := frozen_of_row _ _ 0 _ _ hn2
    have hc2 : CntAt (wC.setCell ⟨w1.heap.size, 0, none⟩ (.int .i64 0)) w1.heap.size 0 := heap_setCell_same _ _ 0 _ _ _ hn2
    have hx2 := (heap_setCell_other wC ⟨w1.heap.size, 0, none⟩ w.heap.size (.int .i64 0) (by show w.heap.size ≠ w1.heap.size; omega)).trans hxC
    have hb2w : Below w.heap.size w (wC.setCell ⟨w1.heap.size, 0, none⟩ (.int .i64 0)) := hbCw.setCell (p := ⟨w1.heap.size, 0, none⟩) (by show w.heap.size ≤ w1.heap.size; omega) _
    have cE := wexpr_any (B := fun k => k < w.heap.size) (gn := w1.heap.size) (fun k hk => by omega) d u.2 (.slice p u.2.kids.length c) (wC.setCell ⟨w1.heap.size, 0, none⟩ (.int .i64 0)) 1 0 (h3.kept fun g hg _ => hb2w.block g hg) h2 hc2 (by omega) (by omega)
    unfold exV at cE
    clear cN h3 hc2 hx1 hb1 hbA hxA z0 hwA hbC hn2 hxC hbCw
    generalize hw2 : wC.setCell ⟨w1.heap.size, 0, none⟩ (.int .i64 0) = w2 at *
    have e1 := (cell_of_row _ _ 1 _ _ _ hx2).trans rfl
    have e2 := (cell_of_row _ _ 2 _ _ _ hx2).trans rfl
    have e3 := (cell_of_row _ _ 3 _ _ _ hx2).trans rfl
    have e4 := (cell_of_row _ _ 4 _ _ _ hx2).trans rfl
    have e5 := (cell_of_row _ _ 5 _ _ _ hx2).trans rfl
    go_wp2_with fail
    refine cE.mono ?_
    rintro r w3 ⟨rfl, -, hk3⟩
    have hb3w : Below w.heap.size w w3 := ⟨hk3.os.trans hb2w.os, hk3.tape.trans hb2w.tape, hk3.output.trans hb2w.output, Nat.le_trans hb2w.size hk3.size, fun k hk => (hk3.block k (by have := hb2w.size; omega) (fun e => by have := Option.some.inj e; omega)).trans (hb2w.block k hk)⟩
    clear cE hk3 hb2w hw2 e1 e2 e3 e4 e5 hx2
    go_wp2_with fail
    go_ret
    rw [HE.out]
    exact ⟨rfl, hb3w⟩

set_option maxRecDepth 100000 in
set_option maxHeartbeats 2000000 in
theorem wrong_any (us : List (Ru × Value)) (v : Value) (w : World) (h : InR w v us) :
    Calls Tryz.prog 34 #[v] w fun r w' => r = .returned (.agg #[.int .i64 (wrongR (us.map (fun p => p.1))).1, .int .i64 ((wrongR (us.map (fun p => p.1))).2 : Int)]) ∧ Below w.heap.size w w' := by
  have hlen := h.len
  have hform : ∃ p c, v = .slice p us.length c := by
    rcases h.row with ⟨rfl, p, c, hv⟩ | ⟨g, o, c, hv, _⟩
    · exact ⟨p, c, hv⟩
    · exact ⟨_, c, hv⟩
  obtain ⟨p, c, rfl⟩ := hform
  have hb0 := (Below.refl w.heap.size w).alloc (Nat.le_refl _) (.cells #[.int .i64 0, .int .i64 0] 43)
  have hr0 := heap_alloc_new w (.cells #[.int .i64 0, .int .i64 0] 43)
  generalize hX : wrongR (us.map (fun p => p.1)) = X
  have hX' := hX
  unfold wrongR at hX'
  rw [List.length_map] at hX'
  have HIN : Hid (InR w (.slice p us.length c) us) := h
  clear hX
  generalize hwA : w.alloc (.cells #[.int .i64 0, .int .i64 0] 43) = wA at *
  by_cases hm : 40 < us.length
  · have hm' : (40 : Int) < (us.length : Int) := by omega
    rw [if_pos hm] at hX'
    subst hX'
    clear HIN h
    go_enter Tryz.func34, Tryz.ntmps34
    go_wp2_with (refine wpList_store_row rfl 43 _ _ rfl _ _ rfl rfl _ _ hr0 (by kernel_rfl) (by simp) (by simp [Value.oneCell']) ?_)
    exact flt_ret 2 (by kernel_rfl) w.heap.size 5 0 rfl rfl (setRow_heap _ _ _ _ _ _ hr0) ⟨rfl, below_setRow hb0 (Nat.le_refl _) _⟩
  · have hm' : ¬ (40 : Int) < (us.length : Int) := by omega
    rw [if_neg hm] at hX'
    have HS : Hid (wrongL ((us.map (fun p => p.1)).drop 0) 0 = X) := hX'
    clear hX' h
    go_enter Tryz.func34, Tryz.ntmps34
    go_wp2_with fail
    clear hwA
    go_loopw [12] (fun t wr => ∃ j : Nat, t = .int .i64 (j : Int) ∧ j ≤ us.length ∧ wrongL ((us.map (fun p => p.1)).drop j) j = X ∧ wr.heap[w.heap.size]? = some (.cells #[.int .i64 0, .int .i64 0] 43 (0, 0)) ∧ Below w.heap.size w wr) (fun t _ => us.length - (intOf t).toNat)
    case atStart => exact ⟨0, rfl, by omega, HS.out, hr0, hb0⟩
    case round =>
      obtain ⟨j, rfl, hj, hXr, hrr, hbr⟩ := hrel
      clear HS hr0 hb0
      have hj0 : (0 : Int) ≤ (j : Int) := by omega
      have hj4 : (j : Int) ≤ 40 := by omega
      by_cases hlt : j < us.length
      · have hlt' : (j : Int) < (us.length : Int) := by omega
        obtain ⟨⟨u, sk⟩, hjk⟩ : ∃ k, us[j]? = some k := ⟨us[j], List.getElem?_eq_getElem hlt⟩
        have hju : (us.map (fun p => p.1))[j]? = some u := by rw [List.getElem?_map, hjk]; rfl
        rw [wrongL_step hju] at hXr
        have hin := HIN.out.all _ (List.mem_of_getElem? hjk)
        obtain ⟨pk, ck, hsk⟩ : ∃ p c, sk = .slice p u.2.kids.length c := by
          obtain ⟨_, _, d, hd⟩ := hin
          exact hd.form
        subst hsk
        rcases HIN.out.row with ⟨h, _⟩ | ⟨g, o, c', hsl, _, hcells⟩
        · rw [h] at hlt; simp at hlt
        injection hsl with e1 e2 e3
        subst e1
        subst e3
        obtain ⟨d0, d1, d2, d3, d4, d5⟩ := hcells j _ hjk
        dsimp only at d0 d1 d2 d3 d4 d5
        have f0 := (hbr.cell (block_lt_of_cell d0)).trans d0
        have f1 := (hbr.cell (block_lt_of_cell d1)).trans d1
        have f2 := (hbr.cell (block_lt_of_cell d2)).trans d2
        have f3 := (hbr.cell (block_lt_of_cell d3)).trans d3
        have f4 := (hbr.cell (block_lt_of_cell d4)).trans d4
        have f5 := (hbr.cell (block_lt_of_cell d5)).trans d5
        have hbB : Below wr.heap.size wr (wr.alloc (.cells #[.string ⟨u.1.toArray⟩, .int .i64 u.2.kind, .int .i64 u.2.a, .int .i64 u.2.b, .string ⟨u.2.name.toArray⟩, .slice pk u.2.kids.length ck] 38)) := (Below.refl _ _).alloc (Nat.le_refl _) _
        have hxB := heap_alloc_new wr (.cells #[.string ⟨u.1.toArray⟩, .int .i64 u.2.kind, .int .i64 u.2.a, .int .i64 u.2.b, .string ⟨u.2.name.toArray⟩, .slice pk u.2.kids.length ck] 38)
        have hbBw := hbr.trans (hbB.mono hbr.size)
        have hrB := (hbB.block _ (lt_of_block hrr)).trans hrr
        have cR := wrule_any u pk ck _ (hin.below hbBw)
        clear d0 d1 d2 d3 d4 d5 hcells hin hjk hju hbB hrr hbr
        have HXr : Hid ((if ruleP u ≠ 0 then (ruleP u, j) else wrongL ((us.map (fun p => p.1)).drop (j + 1)) (j + 1)) = X) := hXr
        clear hXr
        generalize ruleP u = R at *
        generalize hwB : wr.alloc (.cells #[.string ⟨u.1.toArray⟩, .int .i64 u.2.kind, .int .i64 u.2.a, .int .i64 u.2.b, .string ⟨u.2.name.toArray⟩, .slice pk u.2.kids.length ck] 38) = wB at *
        go_wp2_with (refine wpList_load_row rfl 38 _ rfl _ rfl _ _ _ _ hxB ruleType rfl (by kernel_rfl) ?_)
        refine cR.mono ?_
        rintro r w3 ⟨rfl, hb3⟩
        have hb3w := hbBw.trans (hb3.mono hbBw.size)
        have hr3 := (hb3.block _ (lt_of_block hrB)).trans hrB
        clear cR hb3 hbBw hrB hxB hwB f0 f1 f2 f3 f4 f5
        by_cases hy : R = 0
        · subst hy
          have hXX := HXr.out
          rw [if_neg (by simp)] at hXX
          have HN : Hid (wrongL ((us.map (fun p => p.1)).drop (j + 1)) (j + 1) = X) := hXX
          clear hXX HXr
          go_wp2_with fail
          go_roundw
          case rel => exact ⟨j + 1, by go_num, by omega, HN.out, hr3, hb3w⟩
          case measure => simp [intOf]; omega
        · have hyb : (R != 0) = true := by simpa using hy
          have hXX := HXr.out
          rw [if_pos hy] at hXX
          subst hXX
          clear HXr
          go_wp2_with (refine wpList_store_row rfl 43 _ _ rfl _ _ rfl rfl _ _ hr3 (by kernel_rfl) (by simp) (by simp [Value.oneCell']) ?_)
          exact flt_ret 2 (by kernel_rfl) w.heap.size R (j : Int) rfl rfl (setRow_heap _ _ _ _ _ _ hr3) ⟨rfl, below_setRow hb3w (Nat.le_refl _) _⟩
      · have hlt' : ¬ (j : Int) < (us.length : Int) := by omega
        rw [List.drop_eq_nil_of_le (by simp; omega)] at hXr
        have hXX : (0, 0) = X := hXr
        subst hXX
        clear hXr
        go_wp2_with (refine wpList_store_row rfl 43 _ _ rfl _ _ rfl rfl _ _ hrr (by kernel_rfl) (by simp) (by simp [Value.oneCell']) ?_)
        exact flt_ret 2 (by kernel_rfl) w.heap.size 0 0 rfl rfl (setRow_heap _ _ _ _ _ _ hrr) ⟨rfl, below_setRow hbr (Nat.le_refl _) _⟩
end Go.Proofs.YtllcpoibnmhghaaGreatDoor

/- Who is reached from whom: plain. Marks that are followed one by one, and all ways at once, are the same. -/
namespace Lx

/-- One way after the other, at least one. -/
abbrev Way (E : Nat → Nat → Bool) (i k : Nat) : Prop := Relation.TransGen (fun a b => E a b = true) i k
/-- All ways at once, through the first so many. -/
def wars (E : Nat → Nat → Bool) : Nat → Nat → Nat → Bool
  | 0, i, k => E i k
  | m + 1, i, k => wars E m i k || (wars E m i m && wars E m m k)
theorem wars_way {E : Nat → Nat → Bool} : ∀ (m i k : Nat), wars E m i k = true → Way E i k
  | 0, i, k, h => .single h
  | m + 1, i, k, h => by
    simp only [wars, Bool.or_eq_true, Bool.and_eq_true] at h
    rcases h with h | ⟨h1, h2⟩
    · exact wars_way m i k h
    · exact (wars_way m i m h1).trans (wars_way m m k h2)
theorem wars_mono {E : Nat → Nat → Bool} {m i k : Nat} (h : wars E m i k = true) : ∀ d, wars E (m + d) i k = true
  | 0 => h
  | d + 1 => by
    show wars E ((m + d) + 1) i k = true
    simp only [wars, wars_mono h d, Bool.true_or]
/-- Through m, and on. -/
theorem wars_cat {E : Nat → Nat → Bool} {m i j k : Nat} (hj : j < m) (h1 : wars E m i j = true) (h2 : wars E m j k = true) : wars E m i k = true := by
  induction m generalizing i j k with
  | zero => omega
  | succ m ih =>
    by_cases hjm : j = m
    · subst hjm
      simp only [wars, Bool.or_eq_true, Bool.and_eq_true] at h1 h2 ⊢
      have a : wars E j i j = true := by
        rcases h1 with h | ⟨h, _⟩ <;> exact h
      have b : wars E j j k = true := by
        rcases h2 with h | ⟨_, h⟩ <;> exact h
      exact .inr ⟨a, b⟩
    · have hj' : j < m := by omega
      simp only [wars, Bool.or_eq_true, Bool.and_eq_true] at h1 h2 ⊢
      rcases h1 with h1 | ⟨h1, h1'⟩
      · rcases h2 with h2 | ⟨h2, h2'⟩
        · exact .inl (ih hj' h1 h2)
        · exact .inr ⟨ih hj' h1 h2, h2'⟩
      · rcases h2 with h2 | ⟨h2, h2'⟩
        · exact .inr ⟨h1, ih hj' h1' h2⟩
        · exact .inr ⟨h1, h2'⟩
theorem way_wars {E : Nat → Nat → Bool} {n : Nat} (hE : ∀ i k, E i k = true → k < n) {i k : Nat} (h : Way E i k) : wars E n i k = true ∧ k < n := by
  induction h with
  | single h => exact ⟨by have := wars_mono (E := E) (m := 0) h n; simpa using this, hE _ _ h⟩
  | tail _ h ih =>
    refine ⟨wars_cat ih.2 ih.1 ?_, hE _ _ h⟩
    have := wars_mono (E := E) (m := 0) h n
    simpa using this
/-- One mark more. -/
def upd (m : Nat → Bool) (n : Nat) : Nat → Bool := fun k => decide (k = n) || m k
/-- Marks that are followed. -/
def fol (S : Nat → List Nat) : Nat → (Nat → Bool) → Nat → Nat → Bool
  | 0, m, _ => m
  | f + 1, m, r => (S r).foldl (fun m n => if m n = true then m else fol S f (upd m n) n) m
/-- How many are not marked, of the first so many. -/
def unm (m : Nat → Bool) : Nat → Nat
  | 0 => 0
  | n + 1 => (if m n = true then 0 else 1) + unm m n
theorem unm_le {m m' : Nat → Bool} (h : ∀ k, m k = true → m' k = true) : ∀ n, unm m' n ≤ unm m n
  | 0 => by simp [unm]
  | n + 1 => by
    have := unm_le h n
    simp only [unm]
    by_cases c : m n = true
    · rw [if_pos c, if_pos (h n c)]; omega
    · rw [if_neg c]; split <;> omega
theorem unm_upd {m : Nat → Bool} {k : Nat} (hk : m k = false) : ∀ n, k < n → unm (upd m k) n + 1 ≤ unm m n
  | 0, h => by omega
  | n + 1, h => by
    have hle := unm_le (m := m) (m' := upd m k) (fun q hq => by simp [upd, hq]) n
    simp only [unm]
    by_cases c : k = n
    · subst c
      rw [if_pos (by simp [upd]), if_neg (by rw [hk]; decide)]
      omega
    · have := unm_upd hk n (by omega)
      have e : upd m k n = m n := by simp [upd, show n ≠ k from fun e => c e.symm]
      rw [e]
      omega
/-- What holds of marks behind following a rule: no mark is gone; what it leads to is marked; so is what new marks lead to; what is new is reached. -/
structure Fol (S : Nat → List Nat) (m m' : Nat → Bool) (r : Nat) : Prop where
  up : ∀ k, m k = true → m' k = true
  next : ∀ n ∈ S r, m' n = true
  new : ∀ v, m' v = true → m v = false → ∀ n ∈ S v, m' n = true
  way : ∀ v, m' v = true → m v = false → Way (fun a b => (S a).contains b) r v
theorem fol_ok {S : Nat → List Nat} {n : Nat} (hS : ∀ r, ∀ k ∈ S r, k < n) : ∀ (f : Nat) (m : Nat → Bool) (r : Nat), unm m n + 1 ≤ f → Fol S m (fol S f m r) r
  | 0, _, _, h => by omega
  | f + 1, m, r, hf => by
    have aux : ∀ (l : List Nat), (∀ k ∈ l, k ∈ S r) → ∀ m1 : Nat → Bool, (∀ k, m k = true → m1 k = true) →
        (∀ k, m1 k = true → (l.foldl (fun m n => if m n = true then m else fol S f (upd m n) n) m1) k = true) ∧ (∀ k ∈ l, (l.foldl (fun m n => if m n = true then m else fol S f (upd m n) n) m1) k = true) ∧
        (∀ v, (l.foldl (fun m n => if m n = true then m else fol S f (upd m n) n) m1) v = true → m1 v = false → (∀ k ∈ S v, (l.foldl (fun m n => if m n = true then m else fol S f (upd m n) n) m1) k = true) ∧ Way (fun a b => (S a).contains b) r v) := by
      intro l
      induction l with
      | nil =>
        intro _ m1 _
        exact ⟨fun k h => h, fun k hk => (by cases hk), fun v h1 h2 => by rw [List.foldl_nil] at h1; rw [h1] at h2; cases h2⟩
      | cons q l ih =>
        intro hl m1 hm
        have hq := hl q List.mem_cons_self
        have hl' : ∀ k ∈ l, k ∈ S r := fun k hk => hl k (List.mem_cons_of_mem _ hk)
        simp only [List.foldl_cons]
        by_cases c : m1 q = true
        · rw [if_pos c]
          obtain ⟨a1, a2, a3⟩ := ih hl' m1 hm
          refine ⟨a1, fun k hk => ?_, a3⟩
          rcases List.mem_cons.1 hk with rfl | hk
          · exact a1 _ c
          · exact a2 k hk
        · rw [if_neg c]
          have c' : m1 q = false := by simpa using c
          have hu := unm_upd c' n (hS r q hq)
          have hle := unm_le hm n
          have F := fol_ok hS f (upd m1 q) q (by omega)
          have hup : ∀ k, m1 k = true → fol S f (upd m1 q) q k = true := fun k hk => F.up k (by simp [upd, hk])
          have hqm : fol S f (upd m1 q) q q = true := F.up q (by simp [upd])
          obtain ⟨a1, a2, a3⟩ := ih hl' (fol S f (upd m1 q) q) (fun k hk => hup k (hm k hk))
          have hone : Way (fun a b => (S a).contains b) r q := .single (by simpa using hq)
          refine ⟨fun k hk => a1 k (hup k hk), fun k hk => ?_, fun v h1 h2 => ?_⟩
          · rcases List.mem_cons.1 hk with rfl | hk
            · exact a1 _ hqm
            · exact a2 k hk
          · cases hv : fol S f (upd m1 q) q v with
            | false => exact a3 v h1 hv
            | true =>
              by_cases e : v = q
              · subst e
                exact ⟨fun k hk => a1 k (F.next k hk), hone⟩
              · have hvu : upd m1 q v = false := by simp [upd, e, h2]
                exact ⟨fun k hk => a1 k (F.new v hv hvu k hk), hone.trans (F.way v hv hvu)⟩
    obtain ⟨a1, a2, a3⟩ := aux (S r) (fun k hk => hk) m (fun k hk => hk)
    exact ⟨a1, a2, fun v h1 h2 => (a3 v h1 h2).1, fun v h1 h2 => (a3 v h1 h2).2⟩
/-- What is marked, from no mark on, is what is reached. -/
theorem fol_way {S : Nat → List Nat} {n : Nat} (hS : ∀ r, ∀ k ∈ S r, k < n) {f r v : Nat} (hf : n + 1 ≤ f) : fol S f (fun _ => false) r v = true ↔ Way (fun a b => (S a).contains b) r v := by
  have hz : unm (fun _ => false) n ≤ n := by
    have : ∀ n, unm (fun _ => false) n = n := by
      intro n
      induction n with
      | zero => rfl
      | succ n ih => simp [unm, ih]; omega
    rw [this]; omega
  have F := fol_ok hS f (fun _ => false) r (by omega)
  constructor
  · intro h
    exact F.way v h rfl
  · intro h
    induction h with
    | single h => exact F.next _ (by simpa using h)
    | tail _ h ih => exact F.new _ ih rfl _ (by simpa using h)
/-- The two are the same. -/
theorem fol_wars {S : Nat → List Nat} {n : Nat} (hS : ∀ r, ∀ k ∈ S r, k < n) {f r v : Nat} (hf : n + 1 ≤ f) : fol S f (fun _ => false) r v = wars (fun a b => (S a).contains b) n r v := by
  have h1 := fol_way hS (r := r) (v := v) hf
  cases h : wars (fun a b => (S a).contains b) n r v with
  | true => exact h1.2 (wars_way _ _ _ h)
  | false =>
    cases h2 : fol S f (fun _ => false) r v with
    | false => rfl
    | true =>
      have := (way_wars (n := n) (fun i k hk => hS i k (by simpa using hk)) (h1.1 h2)).1
      rw [h] at this; cases this
end Lx

/- Of whom rules speak: plain. -/
namespace Lx

/-- The first rule with a name, from so many on; below nought: there is none. -/
def atF : List Ru → Nat → List UInt8 → Int
  | [], _, _ => -1
  | u :: l, i, x => if u.1 = x then (i : Int) else atF l (i + 1) x
theorem atF_step {l : List Ru} {j : Nat} {u : Ru} {x : List UInt8} (h : l[j]? = some u) : atF (l.drop j) j x = if u.1 = x then (j : Int) else atF (l.drop (j + 1)) (j + 1) x := by
  obtain ⟨h1, h2⟩ := List.getElem?_eq_some_iff.1 h
  rw [List.drop_eq_getElem_cons h1, h2]; rfl
theorem atF_bd : ∀ (l : List Ru) (i : Nat) (x : List UInt8), -1 ≤ atF l i x ∧ atF l i x < i + l.length ∧ (0 ≤ atF l i x → (i : Int) ≤ atF l i x)
  | [], i, x => by simp [atF]; omega
  | u :: l, i, x => by
    have := atF_bd l (i + 1) x
    simp only [atF, List.length_cons]
    split
    · omega
    · omega
/-- Where it is told, that rule has the name, and it is the first. -/
theorem atF_at : ∀ (l : List Ru) (i k : Nat) (x : List UInt8), atF l i x = ((i + k : Nat) : Int) → ∃ u, l[k]? = some u ∧ u.1 = x
  | [], i, k, x, h => by simp [atF] at h; omega
  | u :: l, i, k, x, h => by
    simp only [atF] at h
    split at h
    · rename_i hx
      have : k = 0 := by omega
      subst this
      exact ⟨u, rfl, hx⟩
    · cases k with
      | zero =>
        have := atF_bd l (i + 1) x
        omega
      | succ k =>
        obtain ⟨v, h1, h2⟩ := atF_at l (i + 1) k x (by rw [h]; omega)
        exact ⟨v, by simpa using h1, h2⟩
def atP5 (l : List Ru) (x : List UInt8) : Int := atF l 0 x
theorem atP5_name {l : List Ru} {x : List UInt8} {k : Nat} (h : atP5 l x = (k : Int)) : ∃ u, l[k]? = some u ∧ u.1 = x := atF_at l 0 k x (by rw [Nat.zero_add]; exact h)
theorem atP5_bd (l : List Ru) (x : List UInt8) : -1 ≤ atP5 l x ∧ atP5 l x < l.length := by
  have := atF_bd l 0 x
  unfold atP5
  omega
/-- Does an expression speak of a name? -/
def spk (e : Ex) (x : List UInt8) : Bool := if e.kind = 10 then decide (e.name = x) else e.kids.attach.any fun k => spk k.1 x
  termination_by sizeOf e
  decreasing_by exact kid_lt k.2
def spkL (ks : List Ex) (x : List UInt8) : Bool := ks.any fun k => spk k x
theorem spk_eq (e : Ex) (x : List UInt8) : spk e x = if e.kind = 10 then decide (e.name = x) else spkL e.kids x := by
  rw [spk]
  congr 1
  unfold spkL
  rw [← List.attach_map_subtype_val e.kids, List.any_map]
  simp
/-- Does it speak of one that there is not? -/
def unk (e : Ex) (l : List Ru) : Bool := if e.kind = 10 then decide (atP5 l e.name < 0) else e.kids.attach.any fun k => unk k.1 l
  termination_by sizeOf e
  decreasing_by exact kid_lt k.2
def unkL (ks : List Ex) (l : List Ru) : Bool := ks.any fun k => unk k l
theorem unk_eq (e : Ex) (l : List Ru) : unk e l = if e.kind = 10 then decide (atP5 l e.name < 0) else unkL e.kids l := by
  rw [unk]
  congr 1
  unfold unkL
  rw [← List.attach_map_subtype_val e.kids, List.any_map]
  simp
/-- All names of which an expression speaks, in their order. -/
def nms (e : Ex) : List (List UInt8) := (if e.kind = 10 then [e.name] else []) ++ (e.kids.attach.map fun k => nms k.1).flatten
  termination_by sizeOf e
  decreasing_by exact kid_lt k.2
def nmsL (ks : List Ex) : List (List UInt8) := (ks.map nms).flatten
theorem nms_eq (e : Ex) : nms e = (if e.kind = 10 then [e.name] else []) ++ nmsL e.kids := by
  rw [nms]
  congr 2
  show List.map (nms ∘ Subtype.val) e.kids.attach = _
  rw [← List.map_map, List.attach_map_subtype_val]
/-- One number more, if it is not there yet. -/
def addN (acc : List Int) (n : Int) : List Int := if n ∈ acc then acc else acc ++ [n]
/-- Of whom an expression speaks, each once, in the order in which they are met. -/
def spoken (l : List Ru) (acc : List Int) (xs : List (List UInt8)) : List Int := xs.foldl (fun acc x => addN acc (atP5 l x)) acc
theorem addN_mem (acc : List Int) (n m : Int) : m ∈ addN acc n ↔ m ∈ acc ∨ m = n := by
  unfold addN
  split
  · rename_i h
    constructor
    · exact .inl
    · rintro (h1 | rfl)
      · exact h1
      · exact h
  · simp
theorem spoken_mem {l : List Ru} {m : Int} : ∀ (xs : List (List UInt8)) (acc : List Int), m ∈ spoken l acc xs ↔ m ∈ acc ∨ ∃ x ∈ xs, atP5 l x = m
  | [], acc => by simp [spoken]
  | y :: xs, acc => by
    have := spoken_mem (l := l) (m := m) xs (addN acc (atP5 l y))
    show m ∈ spoken l (addN acc (atP5 l y)) xs ↔ _
    rw [this, addN_mem]
    constructor
    · rintro ((h | h) | ⟨x, h1, h2⟩)
      · exact .inl h
      · exact .inr ⟨y, List.mem_cons_self, h.symm⟩
      · exact .inr ⟨x, List.mem_cons_of_mem _ h1, h2⟩
    · rintro (h | ⟨x, h1, h2⟩)
      · exact .inl (.inl h)
      · rcases List.mem_cons.1 h1 with rfl | h1
        · exact .inl (.inr h2.symm)
        · exact .inr ⟨x, h1, h2⟩
/-- Of whom each rule speaks. -/
def spkR (l : List Ru) (u : Ru) : List Int := spoken l [] (nms u.2)
theorem spoken_len {l : List Ru} : ∀ (xs : List (List UInt8)) (acc : List Int), acc.Nodup → (∀ m ∈ acc, -1 ≤ m ∧ m < l.length) → (spoken l acc xs).Nodup ∧ ∀ m ∈ spoken l acc xs, -1 ≤ m ∧ m < l.length
  | [], acc, h1, h2 => ⟨h1, h2⟩
  | y :: xs, acc, h1, h2 => by
    refine spoken_len xs (addN acc (atP5 l y)) ?_ ?_
    · unfold addN
      split
      · exact h1
      · rename_i h
        rw [List.nodup_append]
        refine ⟨h1, by simp, fun a ha b hb => ?_⟩
        simp at hb
        subst hb
        exact fun e => h (e ▸ ha)
    · intro m hm
      rcases (addN_mem _ _ _).1 hm with hm | rfl
      · exact h2 m hm
      · exact atP5_bd l y
end Lx

/- What the document's At, Speaks and Unknown come to. -/
namespace Go.Proofs.YtllcpoibnmhghaaGreatDoor
open Go.RowKit Lx

theorem hid5 {p : Prop} (h : p) : Hid p := h
/-- The cells of rules that came in. -/
theorem InR.cells {w : World} {us : List (Ru × Value)} {pv : Option Addr} {cv : Nat} (h : InR w (.slice pv us.length cv) us) : ∀ (j : Nat) (p : Ru × Value), us[j]? = some p → ∃ g o : Nat, pv = some ⟨g, o, none⟩ ∧
      w.cell? ⟨g, o + j * 6, none⟩ = some (.string ⟨p.1.1.toArray⟩) ∧ w.cell? ⟨g, o + j * 6 + 1, none⟩ = some (.int .i64 p.1.2.kind) ∧ w.cell? ⟨g, o + j * 6 + 2, none⟩ = some (.int .i64 p.1.2.a) ∧ w.cell? ⟨g, o + j * 6 + 3, none⟩ = some (.int .i64 p.1.2.b) ∧
      w.cell? ⟨g, o + j * 6 + 4, none⟩ = some (.string ⟨p.1.2.name.toArray⟩) ∧ w.cell? ⟨g, o + j * 6 + 5, none⟩ = some p.2 := fun j p hj => by
  rcases h.row with ⟨h0, _⟩ | ⟨g, o, c, hv', hl, hc⟩
  · rw [h0] at hj; simp at hj
  · injection hv' with e1
    exact ⟨g, o, e1, hc j p hj⟩
theorem InR.form {w : World} {v : Value} {us : List (Ru × Value)} (h : InR w v us) : ∃ p c, v = .slice p us.length c := by
  rcases h.row with ⟨rfl, p, c, hv⟩ | ⟨g, o, c, hv, _⟩
  · exact ⟨p, c, hv⟩
  · exact ⟨_, c, hv⟩
theorem name_same (x y : List UInt8) : (x == y) = decide (x = y) := by
  by_cases h : x = y
  · subst h; simp
  · simp [h]
end Go.Proofs.YtllcpoibnmhghaaGreatDoor
