/- What the document's Same comes to, of rules that lie in memory twice. -/
import Derived.Test.YtpmobjgnmidolaaDoorCu20
import Derived.Test.YtpmobjgnmidolaaDoorCu17
import Derived.Test.YtpmobjgnmidolaaDoorCu03
namespace Go.Proofs.YtpmobjgnmidolaaDoor
open Go.RowKit Lx

theorem flatR_at : ∀ (us : List (Ru × Value)) (j : Nat) (p : Ru × Value), us[j]? = some p → (flatR us)[j * 6]? = some (.string ⟨p.1.1.toArray⟩) ∧ (flatR us)[j * 6 + 1]? = some (.int .i64 p.1.2.kind) ∧ (flatR us)[j * 6 + 2]? = some (.int .i64 p.1.2.a) ∧ (flatR us)[j * 6 + 3]? = some (.int .i64 p.1.2.b) ∧ (flatR us)[j * 6 + 4]? = some (.string ⟨p.1.2.name.toArray⟩) ∧ (flatR us)[j * 6 + 5]? = some p.2
  | [], j, p, h => by simp at h
  | q :: us, 0, p, h => by
    have : q = p := by simpa using h
    subst this
    simp [flatR]
  | q :: us, j + 1, p, h => by
    have := flatR_at us j p (by simpa using h)
    have e : (j + 1) * 6 = j * 6 + 1 + 1 + 1 + 1 + 1 + 1 := by omega
    rw [e]
    simpa [flatR] using this
/-- A row of rules in memory. -/
def RRow (w : World) (v : Value) (us : List (Ru × Value)) : Prop :=
  (us = [] ∧ ∃ p c, v = .slice p 0 c) ∨ ∃ g o c : Nat, v = .slice (some ⟨g, o, none⟩) us.length c ∧ us.length < 9223372036854775808 ∧ ∀ (j : Nat) (p : Ru × Value), us[j]? = some p →
    w.cell? ⟨g, o + j * 6, none⟩ = some (.string ⟨p.1.1.toArray⟩) ∧ w.cell? ⟨g, o + j * 6 + 1, none⟩ = some (.int .i64 p.1.2.kind) ∧ w.cell? ⟨g, o + j * 6 + 2, none⟩ = some (.int .i64 p.1.2.a) ∧ w.cell? ⟨g, o + j * 6 + 3, none⟩ = some (.int .i64 p.1.2.b) ∧
    w.cell? ⟨g, o + j * 6 + 4, none⟩ = some (.string ⟨p.1.2.name.toArray⟩) ∧ w.cell? ⟨g, o + j * 6 + 5, none⟩ = some p.2
theorem RRow.below {w w' : World} {v : Value} {us : List (Ru × Value)} (h : RRow w v us) (hb : Below w.heap.size w w') : RRow w' v us := by
  rcases h with h | ⟨g, o, c, hv, hl, hc⟩
  · exact .inl h
  · refine .inr ⟨g, o, c, hv, hl, fun j p hj => ?_⟩
    obtain ⟨c0, c1, c2, c3, c4, c5⟩ := hc j p hj
    exact ⟨(hb.cell (block_lt_of_cell c0)).trans c0, (hb.cell (block_lt_of_cell c1)).trans c1, (hb.cell (block_lt_of_cell c2)).trans c2, (hb.cell (block_lt_of_cell c3)).trans c3, (hb.cell (block_lt_of_cell c4)).trans c4, (hb.cell (block_lt_of_cell c5)).trans c5⟩
theorem rrow_of_owns {w : World} {base : Nat} {v : Value} {us : List (Ru × Value)} (h : w.ownsRow base 52 6 v us.length (flatR us)) (hl : us.length < 9223372036854775808) : RRow w v us := by
  by_cases h0 : us.length = 0
  · obtain ⟨p, c, rfl⟩ := row_form h
    exact .inl ⟨List.length_eq_zero_iff.1 h0, p, c, by rw [h0]⟩
  · obtain ⟨g, cap, hv, hc⟩ := own_slice h (by omega)
    refine .inr ⟨g, 0, cap, hv, hl, fun j p hj => ?_⟩
    obtain ⟨f0, f1, f2, f3, f4, f5⟩ := flatR_at us j p hj
    rw [Nat.zero_add]
    exact ⟨hc _ _ f0, hc _ _ f1, hc _ _ f2, hc _ _ f3, hc _ _ f4, hc _ _ f5⟩
/-- Every rule's kids lie in memory. -/
def KidsR (B : Nat → Prop) (w : World) (us : List (Ru × Value)) : Prop := ∀ p ∈ us, ∃ d, KidsAt B d w p.2 p.1.2.kids
/-- So many values, one by one. -/
structure Fs42 (l : List Value) where
  (u0 u1 u2 u3 u4 u5 u6 u7 u8 u9 u10 u11 u12 u13 u14 u15 u16 u17 u18 u19 u20 u21 u22 u23 u24 u25 u26 u27 u28 u29 u30 u31 u32 u33 u34 u35 u36 u37 u38 u39 u40 u41 : Value)
  eq : l = [u0, u1, u2, u3, u4, u5, u6, u7, u8, u9, u10, u11, u12, u13, u14, u15, u16, u17, u18, u19, u20, u21, u22, u23, u24, u25, u26, u27, u28, u29, u30, u31, u32, u33, u34, u35, u36, u37, u38, u39, u40, u41]
set_option maxRecDepth 100000 in
theorem fs42 (l : List Value) (hl : l.length = 42) : Nonempty (Fs42 l) := allL 42 (fun l => Nonempty (Fs42 l)) (fun u0 u1 u2 u3 u4 u5 u6 u7 u8 u9 u10 u11 u12 u13 u14 u15 u16 u17 u18 u19 u20 u21 u22 u23 u24 u25 u26 u27 u28 u29 u30 u31 u32 u33 u34 u35 u36 u37 u38 u39 u40 u41 => ⟨⟨u0, u1, u2, u3, u4, u5, u6, u7, u8, u9, u10, u11, u12, u13, u14, u15, u16, u17, u18, u19, u20, u21, u22, u23, u24, u25, u26, u27, u28, u29, u30, u31, u32, u33, u34, u35, u36, u37, u38, u39, u40, u41, rfl⟩⟩) l hl
/-- What a value of the region is, once it is there. -/
def msp (ga oa ca gb ob cb n j : Nat) (nm : ByteArray) (k0 k1 k2 : Int) (xn : ByteArray) (pa pb : Option Addr) (m sa sb : Nat) (q : Nat) (x : Value) : Prop := match q with
  | 0 => x = .slice (some ⟨ga, oa, none⟩) n ca
  | 1 => x = .int .i64 (j : Int)
  | 2 => x = .pointer (some ⟨ga, oa + j * 6, none⟩)
  | 3 => x = .pointer (some ⟨ga, oa + j * 6, none⟩)
  | 4 => x = .string nm
  | 5 => x = .slice (some ⟨gb, ob, none⟩) n cb
  | 6 => x = .int .i64 (j : Int)
  | 7 => x = .pointer (some ⟨gb, ob + j * 6, none⟩)
  | 8 => x = .pointer (some ⟨gb, ob + j * 6, none⟩)
  | 9 => x = .string nm
  | 10 => x = .bool false
  | 11 => x = .bool false
  | 12 => x = .slice (some ⟨ga, oa, none⟩) n ca
  | 13 => x = .int .i64 (j : Int)
  | 14 => x = .pointer (some ⟨ga, oa + j * 6, none⟩)
  | 15 => x = .pointer (some ⟨ga, oa + j * 6 + 1, none⟩)
  | 16 => x = .agg #[.int .i64 k0, .int .i64 k1, .int .i64 k2, .string xn, .slice pa m sa]
  | 17 => x = .slice (some ⟨gb, ob, none⟩) n cb
  | 18 => x = .int .i64 (j : Int)
  | 19 => x = .pointer (some ⟨gb, ob + j * 6, none⟩)
  | 20 => x = .pointer (some ⟨gb, ob + j * 6 + 1, none⟩)
  | 21 => x = .agg #[.int .i64 k0, .int .i64 k1, .int .i64 k2, .string xn, .slice pb m sb]
  | 22 => x = .bool true
  | 23 => x = .bool false
  | 24 => x = .bool false
  | _ => True

end Go.Proofs.YtpmobjgnmidolaaDoor

/- What wrongRule and parse.Wrong come to. -/
namespace Lx

/-- What is wrong with a rule. -/
def ruleP (u : Ru) : Int := if Go.Proofs.YtpmobjgnmidolaaDoor.namedL u.1 = false then 7 else (shapeP u.2 1 0).1
/-- What is wrong with rules, and at which one, from so many on. -/
def wrongL : List Ru → Nat → Int × Nat
  | [], _ => (0, 0)
  | u :: l, i => if ruleP u ≠ 0 then (ruleP u, i) else wrongL l (i + 1)
def wrongR (l : List Ru) : Int × Nat := if 40 < l.length then (5, 0) else wrongL l 0
theorem wrongL_step {l : List Ru} {j : Nat} {u : Ru} (h : l[j]? = some u) : wrongL (l.drop j) j = if ruleP u ≠ 0 then (ruleP u, j) else wrongL (l.drop (j + 1)) (j + 1) := by
  obtain ⟨h1, h2⟩ := List.getElem?_eq_some_iff.1 h
  rw [List.drop_eq_getElem_cons h1, h2]; rfl
end Lx
namespace Go.Proofs.YtpmobjgnmidolaaDoor
open Go.RowKit Lx

/-- A rule that came in. -/
def RuleIn (w : World) (p : Ru × Value) : Prop := p.1.1.length ≤ 9223372036854775807 ∧ p.1.2.name.length ≤ 9223372036854775807 ∧ ∃ d, KidsB (fun k => k < w.heap.size) d w p.2 p.1.2.kids
theorem RuleIn.below {w w' : World} {p : Ru × Value} (h : RuleIn w p) (hb : Below w.heap.size w w') : RuleIn w' p := by
  obtain ⟨h1, h2, d, h3⟩ := h
  exact ⟨h1, h2, d, (h3.kept fun g _ hl => hb.block g hl).mono fun g hg => Nat.lt_of_lt_of_le hg hb.size⟩
/-- Rules that came in. -/
structure InR (w : World) (v : Value) (us : List (Ru × Value)) : Prop where
  row : RRow w v us
  len : us.length < 9223372036854775808
  all : ∀ p ∈ us, RuleIn w p
theorem InR.below {w w' : World} {v : Value} {us : List (Ru × Value)} (h : InR w v us) (hb : Below w.heap.size w w') : InR w' v us := ⟨h.row.below hb, h.len, fun p hp => (h.all p hp).below hb⟩
theorem flt_ret {fn : Func} (s : Nat) (h : fn.results = #[ResultVar.cell s 26]) {R : Ending → World → Prop} {a : Act} {w : World} (g : Nat) (er at_ : Int) (hd : a.defers = []) (h2 : a.tmps.getD s undef = .pointer (some ⟨g, 0, none⟩))
    (hg : w.heap[g]? = some (.cells #[.int .i64 er, .int .i64 at_] 26 (0, 0))) (hR : R (.returned (.agg #[.int .i64 er, .int .i64 at_])) w) : bodyPost Tryd.prog fn R .ret a w := by
  refine bodyPost_ret (v := .agg #[.int .i64 er, .int .i64 at_]) ?_ hd hR
  have h2' : a.tmps[s]?.getD undef = .pointer (some ⟨g, 0, none⟩) := by simpa using h2
  have hv := run_loadVar_row (P := Tryd.prog) w g 26 26 _ _ _ hg faultType rfl (by kernel_rfl)
  simp [results, h, h2', asAddr, hv]

set_option maxRecDepth 100000 in
set_option maxHeartbeats 1000000 in
theorem wrule_any (u : Ru) (p : Option Addr) (c : Nat) (w : World) (h : RuleIn w (u, .slice p u.2.kids.length c)) :
    Calls Tryd.prog 64 #[.agg #[.string ⟨u.1.toArray⟩, .int .i64 u.2.kind, .int .i64 u.2.a, .int .i64 u.2.b, .string ⟨u.2.name.toArray⟩, .slice p u.2.kids.length c]] w fun r w' => r = .returned (.int .i64 (ruleP u)) ∧ Below w.heap.size w w' := by
  obtain ⟨h1, h2, d, h3⟩ := h
  dsimp only at h1 h2 h3
  have hbA := (Below.refl w.heap.size w).alloc (Nat.le_refl _) (.cells #[.string ⟨u.1.toArray⟩, .int .i64 u.2.kind, .int .i64 u.2.a, .int .i64 u.2.b, .string ⟨u.2.name.toArray⟩, .slice p u.2.kids.length c] 52)
  have hxA := heap_alloc_new w (.cells #[.string ⟨u.1.toArray⟩, .int .i64 u.2.kind, .int .i64 u.2.a, .int .i64 u.2.b, .string ⟨u.2.name.toArray⟩, .slice p u.2.kids.length c] 52)
  generalize hwA : w.alloc (.cells #[.string ⟨u.1.toArray⟩, .int .i64 u.2.kind, .int .i64 u.2.a, .int .i64 u.2.b, .string ⟨u.2.name.toArray⟩, .slice p u.2.kids.length c] 52) = wA at *
  have z0 := (cell_of_row _ _ 0 _ _ _ hxA).trans rfl
  have cN := named_big ⟨u.1.toArray⟩ u.1 rfl h1 wA
  have HP : Hid (ruleP u = if namedL u.1 = false then 7 else (shapeP u.2 1 0).1) := rfl
  cases hnb : namedL u.1 with
  | false =>
    have HE : Hid (ruleP u = 7) := by show _ = _; rw [HP.out, if_pos hnb]
    rw [hnb] at cN
    clear HP h3 hxA
    go_enter Tryd.func64, Tryd.ntmps64
    go_wp2_with fail
    refine cN.mono ?_
    rintro r w1 ⟨rfl, hb1⟩
    have hbw := hbA.trans (hb1.mono hbA.size)
    clear cN hb1 hbA hwA z0
    go_wp2_with fail
    go_ret
    rw [HE.out]
    exact ⟨rfl, hbw⟩
  | true =>
    have HE : Hid (ruleP u = (shapeP u.2 1 0).1) := by show _ = _; rw [HP.out, if_neg (by simp [hnb])]
    rw [hnb] at cN
    have hszA : w.heap.size < wA.heap.size := lt_of_block hxA
    clear HP
    go_enter Tryd.func64, Tryd.ntmps64
    go_wp2_with fail
    refine cN.mono ?_
    rintro r w1 ⟨rfl, hb1⟩
    have hb1w := hbA.trans (hb1.mono hbA.size)
    have hsz1 := hb1.size
    have hx1 := (hb1.block _ (lt_of_block hxA)).trans hxA
    have hbC : Below w1.heap.size w1 (w1.alloc (.cells #[.int .i64 0] 3)) := (Below.refl _ _).alloc (Nat.le_refl _) _
    have hn2 := heap_alloc_new w1 (.cells #[.int .i64 0] 3)
    have hxC := (hbC.block _ (lt_of_block hx1)).trans hx1
    have hlx := lt_of_block hx1
    have hbCw := hb1w.trans (hbC.mono hb1w.size)
    generalize hwC : w1.alloc (.cells #[.int .i64 0] 3) = wC at *
    have z2 := (cell_of_row _ _ 0 _ _ _ hn2).trans rfl
    have y2 := frozen_of_row _ _ 0 _ _ hn2
    have hc2 : CntAt (wC.setCell ⟨w1.heap.size, 0, none⟩ (.int .i64 0)) w1.heap.size 0 := heap_setCell_same _ _ 0 _ _ _ hn2
    have hx2 := (heap_setCell_other wC ⟨w1.heap.size, 0, none⟩ w.heap.size (.int .i64 0) (by show w.heap.size ≠ w1.heap.size; omega)).trans hxC
    have hb2w : Below w.heap.size w (wC.setCell ⟨w1.heap.size, 0, none⟩ (.int .i64 0)) := hbCw.setCell (p := ⟨w1.heap.size, 0, none⟩) (by show w.heap.size ≤ w1.heap.size; omega) _
    have cE := wexpr_any (B := fun k => k < w.heap.size) (gn := w1.heap.size) (fun k hk => by omega) d u.2 (.slice p u.2.kids.length c) (wC.setCell ⟨w1.heap.size, 0, none⟩ (.int .i64 0)) 1 0 (h3.kept fun g hg _ => hb2w.block g hg) h2 hc2 (by omega) (by omega)
    unfold exV at cE
    clear cN h3 hc2 hx1 hb1 hbA hxA z0 hwA hbC hn2 hxC hbCw
    generalize hw2 : wC.setCell ⟨w1.heap.size, 0, none⟩ (.int .i64 0) = w2 at *
    have e1 := (cell_of_row _ _ 1 _ _ _ hx2).trans rfl
    have e2 := (cell_of_row _ _ 2 _ _ _ hx2).trans rfl
    have e3 := (cell_of_row _ _ 3 _ _ _ hx2).trans rfl
    have e4 := (cell_of_row _ _ 4 _ _ _ hx2).trans rfl
    have e5 := (cell_of_row _ _ 5 _ _ _ hx2).trans rfl
    go_wp2_with fail
    refine cE.mono ?_
    rintro r w3 ⟨rfl, -, hk3⟩
    have hb3w : Below w.heap.size w w3 := ⟨hk3.os.trans hb2w.os, hk3.tape.trans hb2w.tape, hk3.output.trans hb2w.output, Nat.le_trans hb2w.size hk3.size, fun k hk => (hk3.block k (by have := hb2w.size; omega) (fun e => by have := Option.some.inj e; omega)).trans (hb2w.block k hk)⟩
    clear cE hk3 hb2w hw2 e1 e2 e3 e4 e5 hx2
    go_wp2_with fail
    go_ret
    rw [HE.out]
    exact ⟨rfl, hb3w⟩

set_option maxRecDepth 100000 in
set_option maxHeartbeats 2000000 in
theorem wrong_any (us : List (Ru × Value)) (v : Value) (w : World) (h : InR w v us) :
    Calls Tryd.prog 36 #[v] w fun r w' => r = .returned (.agg #[.int .i64 (wrongR (us.map (fun p => p.1))).1, .int .i64 ((wrongR (us.map (fun p => p.1))).2 : Int)]) ∧ Below w.heap.size w w' := by
  have hlen := h.len
  have hform : ∃ p c, v = .slice p us.length c := by
    rcases h.row with ⟨rfl, p, c, hv⟩ | ⟨g, o, c, hv, _⟩
    · exact ⟨p, c, hv⟩
    · exact ⟨_, c, hv⟩
  obtain ⟨p, c, rfl⟩ := hform
  have hb0 := (Below.refl w.heap.size w).alloc (Nat.le_refl _) (.cells #[.int .i64 0, .int .i64 0] 26)
  have hr0 := heap_alloc_new w (.cells #[.int .i64 0, .int .i64 0] 26)
  generalize hX : wrongR (us.map (fun p => p.1)) = X
  have hX' := hX
  unfold wrongR at hX'
  rw [List.length_map] at hX'
  have HIN : Hid (InR w (.slice p us.length c) us) := h
  clear hX
  generalize hwA : w.alloc (.cells #[.int .i64 0, .int .i64 0] 26) = wA at *
  by_cases hm : 40 < us.length
  · have hm' : (40 : Int) < (us.length : Int) := by omega
    rw [if_pos hm] at hX'
    subst hX'
    clear HIN h
    go_enter Tryd.func36, Tryd.ntmps36
    go_wp2_with (refine wpList_store_row rfl 26 _ _ rfl _ _ rfl rfl _ _ hr0 (by kernel_rfl) (by simp) (by simp [Value.oneCell']) ?_)
    exact flt_ret 2 (by kernel_rfl) w.heap.size 5 0 rfl rfl (setRow_heap _ _ _ _ _ _ hr0) ⟨rfl, below_setRow hb0 (Nat.le_refl _) _⟩
  · have hm' : ¬ (40 : Int) < (us.length : Int) := by omega
    rw [if_neg hm] at hX'
    have HS : Hid (wrongL ((us.map (fun p => p.1)).drop 0) 0 = X) := hX'
    clear hX' h
    go_enter Tryd.func36, Tryd.ntmps36
    go_wp2_with fail
    clear hwA
    go_loopw [12] (fun t wr => ∃ j : Nat, t = .int .i64 (j : Int) ∧ j ≤ us.length ∧ wrongL ((us.map (fun p => p.1)).drop j) j = X ∧ wr.heap[w.heap.size]? = some (.cells #[.int .i64 0, .int .i64 0] 26 (0, 0)) ∧ Below w.heap.size w wr) (fun t _ => us.length - (intOf t).toNat)
    case atStart => exact ⟨0, rfl, by omega, HS.out, hr0, hb0⟩
    case round =>
      obtain ⟨j, rfl, hj, hXr, hrr, hbr⟩ := hrel
      clear HS hr0 hb0
      have hj0 : (0 : Int) ≤ (j : Int) := by omega
      have hj4 : (j : Int) ≤ 40 := by omega
      by_cases hlt : j < us.length
      · have hlt' : (j : Int) < (us.length : Int) := by omega
        obtain ⟨⟨u, sk⟩, hjk⟩ : ∃ k, us[j]? = some k := ⟨us[j], List.getElem?_eq_getElem hlt⟩
        have hju : (us.map (fun p => p.1))[j]? = some u := by rw [List.getElem?_map, hjk]; rfl
        rw [wrongL_step hju] at hXr
        have hin := HIN.out.all _ (List.mem_of_getElem? hjk)
        obtain ⟨pk, ck, hsk⟩ : ∃ p c, sk = .slice p u.2.kids.length c := by
          obtain ⟨_, _, d, hd⟩ := hin
          exact hd.form
        subst hsk
        rcases HIN.out.row with ⟨h, _⟩ | ⟨g, o, c', hsl, _, hcells⟩
        · rw [h] at hlt; simp at hlt
        injection hsl with e1 e2 e3
        subst e1
        subst e3
        obtain ⟨d0, d1, d2, d3, d4, d5⟩ := hcells j _ hjk
        dsimp only at d0 d1 d2 d3 d4 d5
        have f0 := (hbr.cell (block_lt_of_cell d0)).trans d0
        have f1 := (hbr.cell (block_lt_of_cell d1)).trans d1
        have f2 := (hbr.cell (block_lt_of_cell d2)).trans d2
        have f3 := (hbr.cell (block_lt_of_cell d3)).trans d3
        have f4 := (hbr.cell (block_lt_of_cell d4)).trans d4
        have f5 := (hbr.cell (block_lt_of_cell d5)).trans d5
        have hbB : Below wr.heap.size wr (wr.alloc (.cells #[.string ⟨u.1.toArray⟩, .int .i64 u.2.kind, .int .i64 u.2.a, .int .i64 u.2.b, .string ⟨u.2.name.toArray⟩, .slice pk u.2.kids.length ck] 52)) := (Below.refl _ _).alloc (Nat.le_refl _) _
        have hxB := heap_alloc_new wr (.cells #[.string ⟨u.1.toArray⟩, .int .i64 u.2.kind, .int .i64 u.2.a, .int .i64 u.2.b, .string ⟨u.2.name.toArray⟩, .slice pk u.2.kids.length ck] 52)
        have hbBw := hbr.trans (hbB.mono hbr.size)
        have hrB := (hbB.block _ (lt_of_block hrr)).trans hrr
        have cR := wrule_any u pk ck _ (hin.below hbBw)
        clear d0 d1 d2 d3 d4 d5 hcells hin hjk hju hbB hrr hbr
        have HXr : Hid ((if ruleP u ≠ 0 then (ruleP u, j) else wrongL ((us.map (fun p => p.1)).drop (j + 1)) (j + 1)) = X) := hXr
        clear hXr
        generalize ruleP u = R at *
        generalize hwB : wr.alloc (.cells #[.string ⟨u.1.toArray⟩, .int .i64 u.2.kind, .int .i64 u.2.a, .int .i64 u.2.b, .string ⟨u.2.name.toArray⟩, .slice pk u.2.kids.length ck] 52) = wB at *
        go_wp2_with (refine wpList_load_row rfl 52 _ rfl _ rfl _ _ _ _ hxB ruleType rfl (by kernel_rfl) ?_)
        refine cR.mono ?_
        rintro r w3 ⟨rfl, hb3⟩
        have hb3w := hbBw.trans (hb3.mono hbBw.size)
        have hr3 := (hb3.block _ (lt_of_block hrB)).trans hrB
        clear cR hb3 hbBw hrB hxB hwB f0 f1 f2 f3 f4 f5
        by_cases hy : R = 0
        · subst hy
          have hXX := HXr.out
          rw [if_neg (by simp)] at hXX
          have HN : Hid (wrongL ((us.map (fun p => p.1)).drop (j + 1)) (j + 1) = X) := hXX
          clear hXX HXr
          go_wp2_with fail
          go_roundw
          case rel => exact ⟨j + 1, by go_num, by omega, HN.out, hr3, hb3w⟩
          case measure => simp [intOf]; omega
        · have hyb : (R != 0) = true := by simpa using hy
          have hXX := HXr.out
          rw [if_pos hy] at hXX
          subst hXX
          clear HXr
          go_wp2_with (refine wpList_store_row rfl 26 _ _ rfl _ _ rfl rfl _ _ hr3 (by kernel_rfl) (by simp) (by simp [Value.oneCell']) ?_)
          exact flt_ret 2 (by kernel_rfl) w.heap.size R (j : Int) rfl rfl (setRow_heap _ _ _ _ _ _ hr3) ⟨rfl, below_setRow hb3w (Nat.le_refl _) _⟩
      · have hlt' : ¬ (j : Int) < (us.length : Int) := by omega
        rw [List.drop_eq_nil_of_le (by simp; omega)] at hXr
        have hXX : (0, 0) = X := hXr
        subst hXX
        clear hXr
        go_wp2_with (refine wpList_store_row rfl 26 _ _ rfl _ _ rfl rfl _ _ hrr (by kernel_rfl) (by simp) (by simp [Value.oneCell']) ?_)
        exact flt_ret 2 (by kernel_rfl) w.heap.size 0 0 rfl rfl (setRow_heap _ _ _ _ _ _ hrr) ⟨rfl, below_setRow hbr (Nat.le_refl _) _⟩
end Go.Proofs.YtpmobjgnmidolaaDoor

/- What the document's At, Speaks and Unknown come to. -/
namespace Go.Proofs.YtpmobjgnmidolaaDoor
open Go.RowKit Lx

theorem hid5 {p : Prop} (h : p) : Hid p := h
/-- The cells of rules that came in. -/
theorem InR.cells {w : World} {us : List (Ru × Value)} {pv : Option Addr} {cv : Nat} (h : InR w (.slice pv us.length cv) us) : ∀ (j : Nat) (p : Ru × Value), us[j]? = some p → ∃ g o : Nat, pv = some ⟨g, o, none⟩ ∧
      w.cell? ⟨g, o + j * 6, none⟩ = some (.string ⟨p.1.1.toArray⟩) ∧ w.cell? ⟨g, o + j * 6 + 1, none⟩ = some (.int .i64 p.1.2.kind) ∧ w.cell? ⟨g, o + j * 6 + 2, none⟩ = some (.int .i64 p.1.2.a) ∧ w.cell? ⟨g, o + j * 6 + 3, none⟩ = some (.int .i64 p.1.2.b) ∧
      w.cell? ⟨g, o + j * 6 + 4, none⟩ = some (.string ⟨p.1.2.name.toArray⟩) ∧ w.cell? ⟨g, o + j * 6 + 5, none⟩ = some p.2 := fun j p hj => by
  rcases h.row with ⟨h0, _⟩ | ⟨g, o, c, hv', hl, hc⟩
  · rw [h0] at hj; simp at hj
  · injection hv' with e1
    exact ⟨g, o, e1, hc j p hj⟩
theorem InR.form {w : World} {v : Value} {us : List (Ru × Value)} (h : InR w v us) : ∃ p c, v = .slice p us.length c := by
  rcases h.row with ⟨rfl, p, c, hv⟩ | ⟨g, o, c, hv, _⟩
  · exact ⟨p, c, hv⟩
  · exact ⟨_, c, hv⟩
theorem name_same (x y : List UInt8) : (x == y) = decide (x = y) := by
  by_cases h : x = y
  · subst h; simp
  · simp [h]
set_option maxRecDepth 100000 in
set_option maxHeartbeats 1000000 in
theorem at_any (us : List (Ru × Value)) (v : Value) (x : List UInt8) (w : World) (h : InR w v us) : Calls Tryd.prog 50 #[v, .string ⟨x.toArray⟩] w fun r w' => r = .returned (.int .i64 (atP5 (us.map (fun p => p.1)) x)) ∧ Below w.heap.size w w' := by
  obtain ⟨pv, cv, rfl⟩ := h.form
  have HK := hid5 h.cells
  have hlen := h.len
  have HA : Hid (∀ p ∈ us, ∃ q n c, p.2 = .slice q n c) := fun p hp => by
    obtain ⟨_, _, d, hd⟩ := h.all p hp
    obtain ⟨q, c, e⟩ := hd.form
    exact ⟨q, _, c, e⟩
  clear h
  go_enter Tryd.func50, Tryd.ntmps50
  go_wp2_with fail
  go_loopw [5, 6, 9] (fun _ _ t wr => ∃ j : Nat, t = .int .i64 (j : Int) ∧ j ≤ us.length ∧ atP5 (us.map (fun p => p.1)) x = atF ((us.map (fun p => p.1)).drop j) j x ∧ Below w.heap.size w wr) (fun _ _ t _ => us.length - (intOf t).toNat)
  case atStart => exact ⟨0, rfl, by omega, rfl, Below.refl _ _⟩
  case round =>
    obtain ⟨j, rfl, hj, hX, hbr⟩ := hrel
    have hj0 : (0 : Int) ≤ (j : Int) := by omega
    by_cases hlt : j < us.length
    · have hlt' : (j : Int) < (us.length : Int) := by omega
      obtain ⟨⟨u, sk⟩, hjk⟩ : ∃ p, us[j]? = some p := ⟨us[j], List.getElem?_eq_getElem hlt⟩
      have hum : (us.map (fun p => p.1))[j]? = some u := by rw [List.getElem?_map, hjk]; rfl
      rw [atF_step hum] at hX
      obtain ⟨g, o, hpe, c0, c1, c2, c3, c4, c5⟩ := HK.out j _ hjk
      obtain ⟨qs, ns, cs, hsk⟩ := HA.out _ (List.mem_of_getElem? hjk)
      dsimp only at c0 c1 c2 c3 c4 c5 hsk
      subst hsk hpe
      have d0 := (hbr.cell (block_lt_of_cell c0)).trans c0
      have d1 := (hbr.cell (block_lt_of_cell c1)).trans c1
      have d2 := (hbr.cell (block_lt_of_cell c2)).trans c2
      have d3 := (hbr.cell (block_lt_of_cell c3)).trans c3
      have d4 := (hbr.cell (block_lt_of_cell c4)).trans c4
      have d5 := (hbr.cell (block_lt_of_cell c5)).trans c5
      have hbA := hbr.alloc hbr.size (.cells #[.string ⟨u.1.toArray⟩, .int .i64 u.2.kind, .int .i64 u.2.a, .int .i64 u.2.b, .string ⟨u.2.name.toArray⟩, .slice qs ns cs] 52)
      have hns := name_same u.1 x
      clear hum hjk c0 c1 c2 c3 c4 c5
      by_cases hux : u.1 = x
      · rw [if_pos hux] at hX
        rw [decide_eq_true hux] at hns
        have HX := hid5 hX
        clear hX hux HK HA
        go_wp2_with fail
        go_ret
        exact ⟨by (rw [HX.out]) <;> rfl, hbA⟩
      · rw [if_neg hux] at hX
        rw [decide_eq_false hux] at hns
        have HX := hid5 hX
        clear hX hux
        go_wp2_with fail
        go_roundw
        case rel => exact ⟨j + 1, by go_num, by omega, HX.out, hbA⟩
        case measure => simp [intOf]; omega
    · have ej : j = us.length := by omega
      have hlt' : ¬ (j : Int) < (us.length : Int) := by omega
      have HX : Hid (atP5 (us.map (fun p => p.1)) x = -1) := by
        show _ = _
        rw [hX, List.drop_of_length_le (by simp; omega)]
        rfl
      clear hX HK HA ej
      go_wp2_with fail
      go_ret
      exact ⟨by (rw [HX.out]) <;> rfl, hbr⟩
end Go.Proofs.YtpmobjgnmidolaaDoor
