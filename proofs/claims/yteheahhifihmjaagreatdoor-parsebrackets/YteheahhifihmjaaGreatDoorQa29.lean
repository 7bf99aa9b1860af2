/- What wrongRule and parse.Wrong come to. -/
import Derived.Test.YteheahhifihmjaaGreatDoorQa21
import Derived.Test.YteheahhifihmjaaGreatDoorQa28
import Derived.Test.YteheahhifihmjaaGreatDoorQa16
namespace Lx

/-- What is wrong with a rule. -/
def ruleP (u : Ru) : Int := if Go.Proofs.YteheahhifihmjaaGreatDoor.namedL u.1 = false then 7 else (shapeP u.2 1 0).1
/-- What is wrong with rules, and at which one, from so many on. -/
def wrongL : List Ru → Nat → Int × Nat
  | [], _ => (0, 0)
  | u :: l, i => if ruleP u ≠ 0 then (ruleP u, i) else wrongL l (i + 1)
def wrongR (l : List Ru) : Int × Nat := if 40 < l.length then (5, 0) else wrongL l 0
theorem wrongL_step {l : List Ru} {j : Nat} {u : Ru} (h : l[j]? = some u) : wrongL (l.drop j) j = if ruleP u ≠ 0 then (ruleP u, j) else wrongL (l.drop (j + 1)) (j + 1) := by
  obtain ⟨h1, h2⟩ := List.getElem?_eq_some_iff.1 h
  rw [List.drop_eq_getElem_cons h1, h2]; rfl
end Lx
namespace Go.Proofs.YteheahhifihmjaaGreatDoor
open Go.RowKit Lx

/-- A rule that came in. -/
def RuleIn (w : World) (p : Ru × Value) : Prop := p.1.1.length ≤ 9223372036854775807 ∧ p.1.2.name.length ≤ 9223372036854775807 ∧ ∃ d, KidsB (fun k => k < w.heap.size) d w p.2 p.1.2.kids
theorem RuleIn.below {w w' : World} {p : Ru × Value} (h : RuleIn w p) (hb : Below w.heap.size w w') : RuleIn w' p := by
  obtain ⟨h1, h2, d, h3⟩ := h
  exact ⟨h1, h2, d, (h3.kept fun g _ hl => hb.block g hl).mono fun g hg => Nat.lt_of_lt_of_le hg hb.size⟩
/-- Rules that came in. -/
structure InR (w : World) (v : Value) (us : List (Ru × Value)) : Prop where
  row : RRow w v us
  len : us.length < 9223372036854775808
  all : ∀ p ∈ us, RuleIn w p
theorem InR.below {w w' : World} {v : Value} {us : List (Ru × Value)} (h : InR w v us) (hb : Below w.heap.size w w') : InR w' v us := ⟨h.row.below hb, h.len, fun p hp => (h.all p hp).below hb⟩
theorem flt_ret {fn : Func} (s : Nat) (h : fn.results = #[ResultVar.cell s 26]) {R : Ending → World → Prop} {a : Act} {w : World} (g : Nat) (er at_ : Int) (hd : a.defers = []) (h2 : a.tmps.getD s undef = .pointer (some ⟨g, 0, none⟩))
    (hg : w.heap[g]? = some (.cells #[.int .i64 er, .int .i64 at_] 26 (0, 0))) (hR : R (.returned (.agg #[.int .i64 er, .int .i64 at_])) w) : bodyPost Tryz.prog fn R .ret a w := by
  refine bodyPost_ret (v := .agg #[.int .i64 er, .int .i64 at_]) ?_ hd hR
  have h2' : a.tmps[s]?.getD undef = .pointer (some ⟨g, 0, none⟩) := by simpa using h2
  have hv := run_loadVar_row (P := Tryz.prog) w g 26 26 _ _ _ hg faultType rfl (by kernel_rfl)
  simp [results, h, h2', asAddr, hv]

set_option maxRecDepth 100000 in
set_option maxHeartbeats 1000000 in
theorem wrule_any (u : Ru) (p : Option Addr) (c : Nat) (w : World) (h : RuleIn w (u, .slice p u.2.kids.length c)) :
    Calls Tryz.prog 21 #[.agg #[.string ⟨u.1.toArray⟩, .int .i64 u.2.kind, .int .i64 u.2.a, .int .i64 u.2.b, .string ⟨u.2.name.toArray⟩, .slice p u.2.kids.length c]] w fun r w' => r = .returned (.int .i64 (ruleP u)) ∧ Below w.heap.size w w' := by
  obtain ⟨h1, h2, d, h3⟩ := h
  dsimp only at h1 h2 h3
  have hbA := (Below.refl w.heap.size w).alloc (Nat.le_refl _) (.cells #[.string ⟨u.1.toArray⟩, .int .i64 u.2.kind, .int .i64 u.2.a, .int .i64 u.2.b, .string ⟨u.2.name.toArray⟩, .slice p u.2.kids.length c] 40)
  have hxA := heap_alloc_new w (.cells #[.string ⟨u.1.toArray⟩, .int .i64 u.2.kind, .int .i64 u.2.a, .int .i64 u.2.b, .string ⟨u.2.name.toArray⟩, .slice p u.2.kids.length c] 40)
  generalize hwA : w.alloc (.cells #[.string ⟨u.1.toArray⟩, .int .i64 u.2.kind, .int .i64 u.2.a, .int .i64 u.2.b, .string ⟨u.2.name.toArray⟩, .slice p u.2.kids.length c] 40) = wA at *
  have z0 := (cell_of_row _ _ 0 _ _ _ hxA).trans rfl
  have cN := named_big ⟨u.1.toArray⟩ u.1 rfl h1 wA
  have HP : Hid (ruleP u = if namedL u.1 = false then 7 else (shapeP u.2 1 0).1) := rfl
  cases hnb : namedL u.1 with
  | false =>
    have HE : Hid (ruleP u = 7) := by show _ = _; rw [HP.out, if_pos hnb]
    rw [hnb] at cN
    clear HP h3 hxA
    go_enter Tryz.func21, Tryz.ntmps21
    go_wp2_with fail
    refine cN.mono ?_
    rintro r w1 ⟨rfl, hb1⟩
    have hbw := hbA.trans (hb1.mono hbA.size)
    clear cN hb1 hbA hwA z0
    go_wp2_with fail
    go_ret
    rw [HE.out]
    exact ⟨rfl, hbw⟩
  | true =>
    have HE : Hid (ruleP u = (shapeP u.2 1 0).1) := by show _ = _; rw [HP.out, if_neg (by simp [hnb])]
    rw [hnb] at cN
    have hszA : w.heap.size < wA.heap.size := lt_of_block hxA
    clear HP
    go_enter Tryz.func21, Tryz.ntmps21
    go_wp2_with fail
    refine cN.mono ?_
    rintro r w1 ⟨rfl, hb1⟩
    have hb1w := hbA.trans (hb1.mono hbA.size)
    have hsz1 := hb1.size
    have hx1 := (hb1.block _ (lt_of_block hxA)).trans hxA
    have hbC : Below w1.heap.size w1 (w1.alloc (.cells #[.int .i64 0] 3)) := (Below.refl _ _).alloc (Nat.le_refl _) _
    have hn2 := heap_alloc_new w1 (.cells #[.int .i64 0] 3)
    have hxC := (hbC.block _ (lt_of_block hx1)).trans hx1
    have hlx := lt_of_block hx1
    have hbCw := hb1w.trans (hbC.mono hb1w.size)
    generalize hwC : w1.alloc (.cells #[.int .i64 0] 3) = wC at *
    have z2 := (cell_of_row _ _ 0 _ _ _ hn2).trans rfl
    have y2 := frozen_of_row _ _ 0 _ _ hn2
    have hc2 : CntAt (wC.setCell ⟨w1.heap.size, 0, none⟩ (.int .i64 0)) w1.heap.size 0 := heap_setCell_same _ _ 0 _ _ _ hn2
    have hx2 := (heap_setCell_other wC ⟨w1.heap.size, 0, none⟩ w.heap.size (.int .i64 0) (by show w.heap.size ≠ w1.heap.size; omega)).trans hxC
    have hb2w : Below w.heap.size w (wC.setCell ⟨w1.heap.size, 0, none⟩ (.int .i64 0)) := hbCw.setCell (p := ⟨w1.heap.size, 0, none⟩) (by show w.heap.size ≤ w1.heap.size; omega) _
    have cE := wexpr_any (B := fun k => k < w.heap.size) (gn := w1.heap.size) (fun k hk => by omega) d u.2 (.slice p u.2.kids.length c) (wC.setCell ⟨w1.heap.size, 0, none⟩ (.int .i64 0)) 1 0 (h3.kept fun g hg _ => hb2w.block g hg) h2 hc2 (by omega) (by omega)
    unfold exV at cE
    clear cN h3 hc2 hx1 hb1 hbA hxA z0 hwA hbC hn2 hxC hbCw
    generalize hw2 : wC.setCell ⟨w1.heap.size, 0, none⟩ (.int .i64 0) = w2 at *
    have e1 := (cell_of_row _ _ 1 _ _ _ hx2).trans rfl
    have e2 := (cell_of_row _ _ 2 _ _ _ hx2).trans rfl
    have e3 := (cell_of_row _ _ 3 _ _ _ hx2).trans rfl
    have e4 := (cell_of_row _ _ 4 _ _ _ hx2).trans rfl
    have e5 := (cell_of_row _ _ 5 _ _ _ hx2).trans rfl
    go_wp2_with fail
    refine cE.mono ?_
    rintro r w3 ⟨rfl, -, hk3⟩
    have hb3w : Below w.heap.size w w3 := ⟨hk3.os.trans hb2w.os, hk3.tape.trans hb2w.tape, hk3.output.trans hb2w.output, Nat.le_trans hb2w.size hk3.size, fun k hk => (hk3.block k (by have := hb2w.size; omega) (fun e => by have := Option.some.inj e; omega)).trans (hb2w.block k hk)⟩
    clear cE hk3 hb2w hw2 e1 e2 e3 e4 e5 hx2
    go_wp2_with fail
    go_ret
    rw [HE.out]
    exact ⟨rfl, hb3w⟩

set_option maxRecDepth 100000 in
set_option maxHeartbeats 2000000 in
theorem wrong_any (us : List (Ru × Value)) (v : Value) (w : World) (h : InR w v us) :
    Calls Tryz.prog 11 #[v] w fun r w' => r = .returned (.agg #[.int .i64 (wrongR (us.map (fun p => p.1))).1, .int .i64 ((wrongR (us.map (fun p => p.1))).2 : Int)]) ∧ Below w.heap.size w w' := by
  have hlen := h.len
  have hform : ∃ p c, v = .slice p us.length c := by
    rcases h.row with ⟨rfl, p, c, hv⟩ | ⟨g, o, c, hv, _⟩
    · exact ⟨p, c, hv⟩
    · exact ⟨_, c, hv⟩
  obtain ⟨p, c, rfl⟩ := hform
  have hb0 := (Below.refl w.heap.size w).alloc (Nat.le_refl _) (.cells #[.int .i64 0, .int .i64 0] 26)
  have hr0 := heap_alloc_new w (.cells #[.int .i64 0, .int .i64 0] 26)
  generalize hX : wrongR (us.map (fun p => p.1)) = X
  have hX' := hX
  unfold wrongR at hX'
  rw [List.length_map] at hX'
  have HIN : Hid (InR w (.slice p us.length c) us) := h
  clear hX
  generalize hwA : w.alloc (.cells #[.int .i64 0, .int .i64 0] 26) = wA at *
  by_cases hm : 40 < us.length
  · have hm' : (40 : Int) < (us.length : Int) := by omega
    rw [if_pos hm] at hX'
    subst hX'
    clear HIN h
    go_enter Tryz.func11, Tryz.ntmps11
    go_wp2_with (refine wpList_store_row rfl 26 _ _ rfl _ _ rfl rfl _ _ hr0 (by kernel_rfl) (by simp) (by simp [Value.oneCell']) ?_)
    exact flt_ret 2 (by kernel_rfl) w.heap.size 5 0 rfl rfl (setRow_heap _ _ _ _ _ _ hr0) ⟨rfl, below_setRow hb0 (Nat.le_refl _) _⟩
  · have hm' : ¬ (40 : Int) < (us.length : Int) := by omega
    rw [if_neg hm] at hX'
    have HS : Hid (wrongL ((us.map (fun p => p.1)).drop 0) 0 = X) := hX'
    clear hX' h
    go_enter Tryz.func11, Tryz.ntmps11
    go_wp2_with fail
    clear hwA
    go_loopw [12] (fun t wr => ∃ j : Nat, t = .int .i64 (j : Int) ∧ j ≤ us.length ∧ wrongL ((us.map (fun p => p.1)).drop j) j = X ∧ wr.heap[w.heap.size]? = some (.cells #[.int .i64 0, .int .i64 0] 26 (0, 0)) ∧ Below w.heap.size w wr) (fun t _ => us.length - (intOf t).toNat)
    case atStart => exact ⟨0, rfl, by omega, HS.out, hr0, hb0⟩
    case round =>
      obtain ⟨j, rfl, hj, hXr, hrr, hbr⟩ := hrel
      clear HS hr0 hb0
      have hj0 : (0 : Int) ≤ (j : Int) := by omega
      have hj4 : (j : Int) ≤ 40 := by omega
      by_cases hlt : j < us.length
      · have hlt' : (j : Int) < (us.length : Int) := by omega
        obtain ⟨⟨u, sk⟩, hjk⟩ : ∃ k, us[j]? = some k := ⟨us[j], List.getElem?_eq_getElem hlt⟩
        have hju : (us.map (fun p => p.1))[j]? = some u := by rw [List.getElem?_map, hjk]; rfl
        rw [wrongL_step hju] at hXr
        have hin := HIN.out.all _ (List.mem_of_getElem? hjk)
        obtain ⟨pk, ck, hsk⟩ : ∃ p c, sk = .slice p u.2.kids.length c := by
          obtain ⟨_, _, d, hd⟩ := hin
          exact hd.form
        subst hsk
        rcases HIN.out.row with ⟨h, _⟩ | ⟨g, o, c', hsl, _, hcells⟩
        · rw [h] at hlt; simp at hlt
        injection hsl with e1 e2 e3
        subst e1
        subst e3
        obtain ⟨d0, d1, d2, d3, d4, d5⟩ := hcells j _ hjk
        dsimp only at d0 d1 d2 d3 d4 d5
        have f0 := (hbr.cell (block_lt_of_cell d0)).trans d0
        have f1 := (hbr.cell (block_lt_of_cell d1)).trans d1
        have f2 := (hbr.cell (block_lt_of_cell d2)).trans d2
        have f3 := (hbr.cell (block_lt_of_cell d3)).trans d3
        have f4 := (hbr.cell (block_lt_of_cell d4)).trans d4
        have f5 := (hbr.cell (block_lt_of_cell d5)).trans d5
        have hbB : Below wr.heap.size wr (wr.alloc (.cells #[.string ⟨u.1.toArray⟩, .int .i64 u.2.kind, .int .i64 u.2.a, .int .i64 u.2.b, .string ⟨u.2.name.toArray⟩, .slice pk u.2.kids.length ck] 40)) := (Below.refl _ _).alloc (Nat.le_refl _) _
        have hxB := heap_alloc_new wr (.cells #[.string ⟨u.1.toArray⟩, .int .i64 u.2.kind, .int .i64 u.2.a, .int .i64 u.2.b, .string ⟨u.2.name.toArray⟩, .slice pk u.2.kids.length ck] 40)
        have hbBw := hbr.trans (hbB.mono hbr.size)
        have hrB := (hbB.block _ (lt_of_block hrr)).trans hrr
        have cR := wrule_any u pk ck _ (hin.below hbBw)
        clear d0 d1 d2 d3 d4 d5 hcells hin hjk hju hbB hrr hbr
        have HXr : Hid ((if ruleP u ≠ 0 then (ruleP u, j) else wrongL ((us.map (fun p => p.1)).drop (j + 1)) (j + 1)) = X) := hXr
        clear hXr
        generalize ruleP u = R at *
        generalize hwB : wr.alloc (.cells #[.string ⟨u.1.toArray⟩, .int .i64 u.2.kind, .int .i64 u.2.a, .int .i64 u.2.b, .string ⟨u.2.name.toArray⟩, .slice pk u.2.kids.length ck] 40) = wB at *
        go_wp2_with (refine wpList_load_row rfl 40 _ rfl _ rfl _ _ _ _ hxB ruleType rfl (by kernel_rfl) ?_)
        refine cR.mono ?_
        rintro r w3 ⟨rfl, hb3⟩
        have hb3w := hbBw.trans (hb3.mono hbBw.size)
        have hr3 := (hb3.block _ (lt_of_block hrB)).trans hrB
        clear cR hb3 hbBw hrB hxB hwB f0 f1 f2 f3 f4 f5
        by_cases hy : R = 0
        · subst hy
          have hXX := HXr.out
          rw [if_neg (by simp)] at hXX
          have HN : Hid (wrongL ((us.map (fun p => p.1)).drop (j + 1)) (j + 1) = X) := hXX
          clear hXX HXr
          go_wp2_with fail
          go_roundw
          case rel => exact ⟨j + 1, by go_num, by omega, HN.out, hr3, hb3w⟩
          case measure => simp [intOf]; omega
        · have hyb : (R != 0) = true := by simpa using hy
          have hXX := HXr.out
          rw [if_pos hy] at hXX
          subst hXX
          clear HXr
          go_wp2_with (refine wpList_store_row rfl 26 _ _ rfl _ _ rfl rfl _ _ hr3 (by kernel_rfl) (by simp) (by simp [Value.oneCell']) ?_)
          exact flt_ret 2 (by kernel_rfl) w.heap.size R (j : Int) rfl rfl (setRow_heap _ _ _ _ _ _ hr3) ⟨rfl, below_setRow hb3w (Nat.le_refl _) _⟩
      · have hlt' : ¬ (j : Int) < (us.length : Int) := by omega
        rw [List.drop_eq_nil_of_le (by simp; omega)] at hXr
        have hXX : (0, 0) = X := hXr
        subst hXX
        clear hXr
        go_wp2_with (refine wpList_store_row rfl 26 _ _ rfl _ _ rfl rfl _ _ hrr (by kernel_rfl) (by simp) (by simp [Value.oneCell']) ?_)
        exact flt_ret 2 (by kernel_rfl) w.heap.size 0 0 rfl rfl (setRow_heap _ _ _ _ _ _ hrr) ⟨rfl, below_setRow hbr (Nat.le_refl _) _⟩
end Go.Proofs.YteheahhifihmjaaGreatDoor

/- The builder that Print writes into, and what hold comes to. -/
namespace Go.Proofs.YteheahhifihmjaaGreatDoor
open Go.RowKit Lx

/-- The builder in its block holds these bytes. -/
def BSt (B b : Nat) (l : List UInt8) (w : World) : Prop := Lib.IsBuilderF 46 5 B b (Lib.byteCells l) w
/-- What lies below, and what is no row of bytes, stays. -/
structure BK (B b : Nat) (w w' : World) : Prop where
  below : Below B w w'
  others : Lib.OthersKept 5 (some b) w w'
theorem BK.refl (B b : Nat) (w : World) : BK B b w w := ⟨Below.refl _ _, Lib.OthersKept.refl _ _ _⟩
theorem BK.trans {B b : Nat} {w w1 w2 : World} (h : BK B b w w1) (k : BK B b w1 w2) : BK B b w w2 := ⟨h.below.trans k.below, h.others.trans k.others⟩
theorem BK.of_below {B b : Nat} {w w' : World} (h : Below w.heap.size w w') (hB : B ≤ w.heap.size) : BK B b w w' :=
  ⟨h.mono hB, fun k _ hk _ _ => (h.block k (Array.getElem?_eq_some_iff.1 hk).1).trans hk⟩
theorem own_f_below {w w' : World} {base : Nat} {e : TypeId} {size : Nat} {v : Value} {n : Nat} {xs : List Value} (h : w.ownsRowF base e size v n xs) (hb : Below w.heap.size w w') : w'.ownsRowF base e size v n xs := by
  obtain ⟨h1, h2⟩ := h
  refine ⟨h1, ?_⟩
  rcases h2 with h2 | ⟨g, cap, cur, fz, hv, hg, hh, r⟩
  · exact .inl h2
  · exact .inr ⟨g, cap, cur, fz, hv, hg, (hb.block _ (Array.getElem?_eq_some_iff.1 hh).1).trans hh, r⟩
theorem at_f_below {B b : Nat} {p : Value} {bs : List Value} {w w' : World} (h : Lib.BuilderAtF 46 5 B b p bs w) (hb : Below w.heap.size w w') : Lib.BuilderAtF 46 5 B b p bs w' := by
  obtain ⟨h1, v, h2, h3, h4⟩ := h
  exact ⟨h1, v, (hb.block _ (Array.getElem?_eq_some_iff.1 h2).1).trans h2, own_f_below h3 hb, h4⟩
theorem BSt.below {B b : Nat} {l : List UInt8} {w w' : World} (h : BSt B b l w) (hb : Below w.heap.size w w') : BSt B b l w' := by
  rcases h with h | h
  · exact .inl (at_f_below h hb)
  · exact .inr (at_f_below h hb)
theorem BSt.lt {B b : Nat} {l : List UInt8} {w : World} (h : BSt B b l w) : B ≤ b ∧ b < w.heap.size := by
  rcases h with h | h
  · exact ⟨h.1, h.lt⟩
  · exact ⟨h.1, h.lt⟩
theorem BSt.le {B b : Nat} {l : List UInt8} {w : World} (h : BSt B b l w) : B ≤ w.heap.size := by have := h.lt; omega
/-- What a writer comes to. -/
def OutT (B b : Nat) (l t : List UInt8) (w : World) (e : Ending) (w' : World) : Prop := e = .returned (.tuple #[]) ∧ BSt B b (l ++ t) w' ∧ BK B b w w'
theorem put_any {B b : Nat} {l : List UInt8} {w : World} (x : List UInt8) (h : BSt B b l w) (hlen : l.length + x.length ≤ 140737488355328) :
    Calls Tryz.prog 13 #[.pointer (some ⟨b, 0, none⟩), .string ⟨x.toArray⟩] w fun e w' => e = .returned (.tuple #[.int .i64 (⟨x.toArray⟩ : ByteArray).size, .nilIface]) ∧ BSt B b (l ++ x) w' ∧ BK B b w w' := by
  have hs : (⟨x.toArray⟩ : ByteArray).size = x.length := by simp [ByteArray.size]
  refine (wstr B b (Lib.byteCells l) ⟨x.toArray⟩ w h (by rw [Lib.byteCells_length, hs]; exact hlen) h.le).mono ?_
  rintro e w' ⟨rfl, h1, h2, h3⟩
  refine ⟨rfl, .inr ?_, h2, h3⟩
  have : Lib.byteCells (l ++ x) = Lib.byteCells l ++ Lib.strCells ⟨x.toArray⟩ := by simp [Lib.byteCells, Lib.strCells]
  rw [this]
  exact h1
/-- The tables lie below. -/
def PTb (B : Nat) (w : World) : Prop := ∀ w', Below B w w' → CTab w' ∧ DTab w' ∧ PowT w'
theorem PTb.on {B : Nat} {w w' : World} (h : PTb B w) (hb : Below B w w') : PTb B w' := fun _ h' => h _ (hb.trans h')
set_option maxRecDepth 100000 in
set_option maxHeartbeats 1000000 in
theorem hold_any (k : Int) (w : World) : Calls Tryz.prog 23 #[.int .i64 k] w fun e w' => e = .returned (.int .i64 (holdP k : Int)) ∧ w' = w := by
  have H : Hid (holdP k = if k = 6 ∨ k = 7 then 0 else if k = 8 then 1 else if k = 4 ∨ k = 5 then 2 else 3) := rfl
  by_cases c6 : k = 6
  · subst c6
    go_enter Tryz.func23, Tryz.ntmps23
    go_wp2_with fail
    go_ret
    exact ⟨rfl, rfl⟩
  by_cases c7 : k = 7
  · subst c7
    go_enter Tryz.func23, Tryz.ntmps23
    go_wp2_with fail
    go_ret
    exact ⟨rfl, rfl⟩
  by_cases c8 : k = 8
  · subst c8
    go_enter Tryz.func23, Tryz.ntmps23
    go_wp2_with fail
    go_ret
    exact ⟨rfl, rfl⟩
  by_cases c4 : k = 4
  · subst c4
    go_enter Tryz.func23, Tryz.ntmps23
    go_wp2_with fail
    go_ret
    exact ⟨rfl, rfl⟩
  by_cases c5 : k = 5
  · subst c5
    go_enter Tryz.func23, Tryz.ntmps23
    go_wp2_with fail
    go_ret
    exact ⟨rfl, rfl⟩
  have HE : Hid (holdP k = 3) := by
    show _ = _
    rw [H.out, if_neg (by omega), if_neg (by omega), if_neg (by omega)]
  have b6 : (k == 6) = false := by simpa using c6
  have b7 : (k == 7) = false := by simpa using c7
  have b8 : (k == 8) = false := by simpa using c8
  have b4 : (k == 4) = false := by simpa using c4
  have b5 : (k == 5) = false := by simpa using c5
  clear H c4 c5 c6 c7 c8
  go_enter Tryz.func23, Tryz.ntmps23
  go_wp2_with fail
  go_ret
  rw [HE.out]
  exact ⟨rfl, rfl⟩
end Go.Proofs.YteheahhifihmjaaGreatDoor
