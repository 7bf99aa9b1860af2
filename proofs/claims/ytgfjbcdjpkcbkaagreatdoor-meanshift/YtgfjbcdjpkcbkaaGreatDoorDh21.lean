/- What is said while the second sum of MeanShift is put together, in whatever order. -/
import Derived.Test.YtgfjbcdjpkcbkaaGreatDoorDh20
import Derived.Test.YtgfjbcdjpkcbkaaGreatDoorDh05
import Derived.Deep.CutRange
namespace Go.Proofs.YtgfjbcdjpkcbkaaGreatDoor
open Go.RowKit Lx Msk
def exH (e : Ex) (pe : Option Addr) (ce : Nat) : Array Value := #[.int .i64 e.kind, .int .i64 e.a, .int .i64 e.b, .string ⟨e.name.toArray⟩, .slice pe e.kids.length ce]
def ShV (W : World) (m : Int) (e : Ex) (pe : Option Addr) (ce : Nat) (v : Value) : Prop := ∃ g : Nat, v = .agg #[.int .i64 9, .int .i64 m, .int .i64 0, .string ⟨#[]⟩, .slice (some ⟨g, 0, none⟩) 1 1] ∧ W.heap[g]? = some (.cells (exH e pe ce) 31 (0, 0))
theorem ShV.below {W W' : World} {m : Int} {e : Ex} {pe : Option Addr} {ce : Nat} {v : Value} (h : ShV W m e pe ce v) (hb : Below W.heap.size W W') : ShV W' m e pe ce v := by
  obtain ⟨g, h1, h2⟩ := h
  exact ⟨g, h1, (hb.block _ (lt_of_block h2)).trans h2⟩
def TwV (W : World) (E : Ex) (v : Value) : Prop := ∃ g : Nat, v = .agg #[.int .i64 6, .int .i64 0, .int .i64 0, .string ⟨#[]⟩, .slice (some ⟨g, 0, none⟩) 2 2] ∧ RuleIn W ((zzn, E), .slice (some ⟨g, 0, none⟩) 2 2)
theorem TwV.below {W W' : World} {E : Ex} {v : Value} (h : TwV W E v) (hb : Below W.heap.size W W') : TwV W' E v := by
  obtain ⟨g, h1, h2⟩ := h
  exact ⟨g, h1, h2.below hb⟩
structure HJ (w0 : World) (b : Nat) (l : List Ru) (day m : Int) (e e' : Ex) (pe pe' : Option Addr) (ce ce' : Nat) (E : Ex) (f : Nat → Bool) (ok : Bool) (L : Nat → Bool) (φ : Nat → Value) (W : World) : Prop where
  bel : L 19 = false → Below w0.heap.size w0 W
  sto : L 19 = true → ∃ W0, Below w0.heap.size w0 W0 ∧ W = W0.setRow b (mv f)
  s6 : L 6 = true → L 13 = false → ShV W m e pe ce (φ 109)
  s12 : L 12 = true → L 13 = false → ShV W m e' pe' ce' (φ 115)
  s13 : L 13 = true → L 15 = false → TwV W E (φ 116)
  inf : L 15 = true → ok = true → (mflt (l ++ [(zzn, E)]) day).1 = 0 ∧ f = meanP (l ++ [(zzn, E)]) (wkB day) day l.length
  s15 : L 15 = true → φ 118 = .tuple #[.agg (mv f), .bool ok]
  s16 : L 16 = true → φ 102 = .tuple #[.agg (mv f), .bool ok]
  s17 : L 17 = true → φ 119 = .agg (mv f)
  s18 : L 18 = true → φ 120 = .bool ok
  s20 : L 20 = true → φ 19 = .bool ok
section
variable {w0 W W' : World} {b : Nat} {l : List Ru} {day m : Int} {e e' : Ex} {pe pe' : Option Addr} {ce ce' : Nat} {E : Ex} {f : Nat → Bool} {ok : Bool} {L : Nat → Bool} {φ : Nat → Value}
theorem orH {i k : Nat} {b : Bool} (hne : i ≠ k) : (decide (i = k) || b) = b := by simp [hne]
theorem HJ.on (h : HJ w0 b l day m e e' pe pe' ce ce' E f ok L φ W) (i s : Nat) (u : Value) (hi : decide (i ∉ [6, 12, 13, 15, 16, 17, 18, 19, 20]) = true) (hs : decide (s ∉ [109, 115, 116, 118, 102, 119, 120, 19]) = true) : HJ w0 b l day m e e' pe pe' ce ce' E f ok (fun k => decide (i = k) || L k) (putF φ (some s) u) W := by
  have hi := of_decide_eq_true hi
  have hs := of_decide_eq_true hs
  simp at hi hs
  obtain ⟨i6, i12, i13, i15, i16, i17, i18, i19, i20⟩ := hi
  obtain ⟨s109, s115, s116, s118, s102, s119, s120, s19⟩ := hs
  refine ⟨fun q => ?_, fun q => ?_, fun q r => ?_, fun q r => ?_, fun q r => ?_, fun q => ?_, fun q => ?_, fun q => ?_, fun q => ?_, fun q => ?_, fun q => ?_⟩
  · rw [orH i19] at q; exact h.bel q
  · rw [orH i19] at q; exact h.sto q
  · rw [orH i6] at q; rw [orH i13] at r; rw [putF_ne s109]; exact h.s6 q r
  · rw [orH i12] at q; rw [orH i13] at r; rw [putF_ne s115]; exact h.s12 q r
  · rw [orH i13] at q; rw [orH i15] at r; rw [putF_ne s116]; exact h.s13 q r
  · rw [orH i15] at q; exact h.inf q
  · rw [orH i15] at q; rw [putF_ne s118]; exact h.s15 q
  · rw [orH i16] at q; rw [putF_ne s102]; exact h.s16 q
  · rw [orH i17] at q; rw [putF_ne s119]; exact h.s17 q
  · rw [orH i18] at q; rw [putF_ne s120]; exact h.s18 q
  · rw [orH i20] at q; rw [putF_ne s19]; exact h.s20 q
theorem HJ.c6 (h : HJ w0 b l day m e e' pe pe' ce ce' E f ok L φ W) (h13 : L 13 = false) (h15 : L 15 = false) (h16 : L 16 = false) (h17 : L 17 = false) (h18 : L 18 = false) (h19 : L 19 = false) (h20 : L 20 = false) (u : Value) (hu : ShV W' m e pe ce u) (hb : Below W.heap.size W W') : HJ w0 b l day m e e' pe pe' ce ce' E f ok (fun k => decide (6 = k) || L k) (putF φ (some 109) u) W' := by
  have hbw := h.bel h19
  refine ⟨fun _ => hbw.trans (hb.mono hbw.size), fun q => ?_, fun _ _ => ?_, fun q r => ?_, fun q r => ?_, fun q => ?_, fun q => ?_, fun q => ?_, fun q => ?_, fun q => ?_, fun q => ?_⟩
  · rw [orH (by decide), h19] at q; cases q
  · rw [putF_eq]; exact hu
  · rw [orH (by decide)] at q; rw [putF_ne (by decide)]; exact (h.s12 q h13).below hb
  · rw [orH (by decide), h13] at q; cases q
  · rw [orH (by decide), h15] at q; cases q
  · rw [orH (by decide), h15] at q; cases q
  · rw [orH (by decide), h16] at q; cases q
  · rw [orH (by decide), h17] at q; cases q
  · rw [orH (by decide), h18] at q; cases q
  · rw [orH (by decide), h20] at q; cases q
theorem HJ.c12 (h : HJ w0 b l day m e e' pe pe' ce ce' E f ok L φ W) (h13 : L 13 = false) (h15 : L 15 = false) (h16 : L 16 = false) (h17 : L 17 = false) (h18 : L 18 = false) (h19 : L 19 = false) (h20 : L 20 = false) (u : Value) (hu : ShV W' m e' pe' ce' u) (hb : Below W.heap.size W W') : HJ w0 b l day m e e' pe pe' ce ce' E f ok (fun k => decide (12 = k) || L k) (putF φ (some 115) u) W' := by
  have hbw := h.bel h19
  refine ⟨fun _ => hbw.trans (hb.mono hbw.size), fun q => ?_, fun q r => ?_, fun _ _ => ?_, fun q r => ?_, fun q => ?_, fun q => ?_, fun q => ?_, fun q => ?_, fun q => ?_, fun q => ?_⟩
  · rw [orH (by decide), h19] at q; cases q
  · rw [orH (by decide)] at q; rw [putF_ne (by decide)]; exact (h.s6 q h13).below hb
  · rw [putF_eq]; exact hu
  · rw [orH (by decide), h13] at q; cases q
  · rw [orH (by decide), h15] at q; cases q
  · rw [orH (by decide), h15] at q; cases q
  · rw [orH (by decide), h16] at q; cases q
  · rw [orH (by decide), h17] at q; cases q
  · rw [orH (by decide), h18] at q; cases q
  · rw [orH (by decide), h20] at q; cases q
theorem HJ.c13 (h : HJ w0 b l day m e e' pe pe' ce ce' E f ok L φ W) (h15 : L 15 = false) (h16 : L 16 = false) (h17 : L 17 = false) (h18 : L 18 = false) (h19 : L 19 = false) (h20 : L 20 = false) (u : Value) (hu : TwV W' E u) (hb : Below W.heap.size W W') : HJ w0 b l day m e e' pe pe' ce ce' E f ok (fun k => decide (13 = k) || L k) (putF φ (some 116) u) W' := by
  have hbw := h.bel h19
  refine ⟨fun _ => hbw.trans (hb.mono hbw.size), fun q => ?_, fun q r => ?_, fun q r => ?_, fun _ _ => ?_, fun q => ?_, fun q => ?_, fun q => ?_, fun q => ?_, fun q => ?_, fun q => ?_⟩
  · rw [orH (by decide), h19] at q; cases q
  · simp at r
  · simp at r
  · rw [putF_eq]; exact hu
  · rw [orH (by decide), h15] at q; cases q
  · rw [orH (by decide), h15] at q; cases q
  · rw [orH (by decide), h16] at q; cases q
  · rw [orH (by decide), h17] at q; cases q
  · rw [orH (by decide), h18] at q; cases q
  · rw [orH (by decide), h20] at q; cases q
theorem HJ.c15 (h : HJ w0 b l day m e e' pe pe' ce ce' E f ok L φ W) (h13 : L 13 = true) (h16 : L 16 = false) (h17 : L 17 = false) (h18 : L 18 = false) (h19 : L 19 = false) (h20 : L 20 = false) (f' : Nat → Bool) (ok' : Bool) (hf : ok' = true → (mflt (l ++ [(zzn, E)]) day).1 = 0 ∧ f' = meanP (l ++ [(zzn, E)]) (wkB day) day l.length) (hb : Below W.heap.size W W') : HJ w0 b l day m e e' pe pe' ce ce' E f' ok' (fun k => decide (15 = k) || L k) (putF φ (some 118) (.tuple #[.agg (mv f'), .bool ok'])) W' := by
  have hbw := h.bel h19
  refine ⟨fun _ => hbw.trans (hb.mono hbw.size), fun q => ?_, fun q r => ?_, fun q r => ?_, fun q r => ?_, fun _ => hf, fun _ => putF_eq, fun q => ?_, fun q => ?_, fun q => ?_, fun q => ?_⟩
  · rw [orH (by decide), h19] at q; cases q
  · rw [orH (by decide), h13] at r; cases r
  · rw [orH (by decide), h13] at r; cases r
  · simp at r
  · rw [orH (by decide), h16] at q; cases q
  · rw [orH (by decide), h17] at q; cases q
  · rw [orH (by decide), h18] at q; cases q
  · rw [orH (by decide), h20] at q; cases q
theorem HJ.late (h : HJ w0 b l day m e e' pe pe' ce ce' E f ok L φ W) (h13 : L 13 = true) (h15 : L 15 = true) (i s : Nat) (u : Value) (hi : (i = 16 ∧ s = 102 ∧ u = .tuple #[.agg (mv f), .bool ok]) ∨ (i = 17 ∧ s = 119 ∧ u = .agg (mv f)) ∨ (i = 18 ∧ s = 120 ∧ u = .bool ok) ∨ (i = 20 ∧ s = 19 ∧ u = .bool ok)) : HJ w0 b l day m e e' pe pe' ce ce' E f ok (fun k => decide (i = k) || L k) (putF φ (some s) u) W := by
  have i19 : i ≠ 19 := by omega
  have i13 : i ≠ 13 := by omega
  have i15 : i ≠ 15 := by omega
  have s118 : s ≠ 118 := by omega
  refine ⟨fun q => ?_, fun q => ?_, fun q r => ?_, fun q r => ?_, fun q r => ?_, fun q => h.inf h15, fun q => ?_, fun q => ?_, fun q => ?_, fun q => ?_, fun q => ?_⟩
  · rw [orH i19] at q; exact h.bel q
  · rw [orH i19] at q; exact h.sto q
  · rw [orH i13, h13] at r; cases r
  · rw [orH i13, h13] at r; cases r
  · rw [orH i15, h15] at r; cases r
  · rw [putF_ne s118]; exact h.s15 h15
  · rcases hi with ⟨rfl, rfl, rfl⟩ | ⟨rfl, rfl, rfl⟩ | ⟨rfl, rfl, rfl⟩ | ⟨rfl, rfl, rfl⟩
    · exact putF_eq
    all_goals rw [orH (by decide)] at q; rw [putF_ne (by decide)]; exact h.s16 q
  · rcases hi with ⟨rfl, rfl, rfl⟩ | ⟨rfl, rfl, rfl⟩ | ⟨rfl, rfl, rfl⟩ | ⟨rfl, rfl, rfl⟩
    · rw [orH (by decide)] at q; rw [putF_ne (by decide)]; exact h.s17 q
    · exact putF_eq
    all_goals rw [orH (by decide)] at q; rw [putF_ne (by decide)]; exact h.s17 q
  · rcases hi with ⟨rfl, rfl, rfl⟩ | ⟨rfl, rfl, rfl⟩ | ⟨rfl, rfl, rfl⟩ | ⟨rfl, rfl, rfl⟩
    · rw [orH (by decide)] at q; rw [putF_ne (by decide)]; exact h.s18 q
    · rw [orH (by decide)] at q; rw [putF_ne (by decide)]; exact h.s18 q
    · exact putF_eq
    · rw [orH (by decide)] at q; rw [putF_ne (by decide)]; exact h.s18 q
  · rcases hi with ⟨rfl, rfl, rfl⟩ | ⟨rfl, rfl, rfl⟩ | ⟨rfl, rfl, rfl⟩ | ⟨rfl, rfl, rfl⟩
    · rw [orH (by decide)] at q; rw [putF_ne (by decide)]; exact h.s20 q
    · rw [orH (by decide)] at q; rw [putF_ne (by decide)]; exact h.s20 q
    · rw [orH (by decide)] at q; rw [putF_ne (by decide)]; exact h.s20 q
    · exact putF_eq
theorem HJ.store (h : HJ w0 b l day m e e' pe pe' ce ce' E f ok L φ W) (h13 : L 13 = true) (h15 : L 15 = true) (h19 : L 19 = false) : HJ w0 b l day m e e' pe pe' ce ce' E f ok (fun k => decide (19 = k) || L k) (putF φ none undef) (W.setRow b (mv f)) := by
  rw [putF_none]
  refine ⟨fun q => by simp at q, fun _ => ⟨W, h.bel h19, rfl⟩, fun q r => ?_, fun q r => ?_, fun q r => ?_, fun _ => h.inf h15, fun _ => h.s15 h15, fun q => ?_, fun q => ?_, fun q => ?_, fun q => ?_⟩
  · rw [orH (by decide), h13] at r; cases r
  · rw [orH (by decide), h13] at r; cases r
  · rw [orH (by decide), h15] at r; cases r
  · rw [orH (by decide)] at q; exact h.s16 q
  · rw [orH (by decide)] at q; exact h.s17 q
  · rw [orH (by decide)] at q; exact h.s18 q
  · rw [orH (by decide)] at q; exact h.s20 q
end
end Go.Proofs.YtgfjbcdjpkcbkaaGreatDoor

/- What the law MeanShift comes to. Written by genmh.py. -/
namespace Go.Proofs.YtgfjbcdjpkcbkaaGreatDoor
open Go.RowKit Lx Msk
theorem neq_sameH (f : Nat → Bool) (w : World) : (binOp .neq 43 (.agg (mv f)) (.agg (mv f))).run Tryz.prog w = .ok (.bool false) w := by
  rw [neq_mask, eqm_true fun _ _ => rfl]
  rfl
set_option maxRecDepth 100000 in
set_option maxHeartbeats 16000000 in
theorem mshift_walk (us : List (Ru × Value)) (v : Value) (e e' : Ex) (pe pe' : Option Addr) (ce ce' : Nat) (x y day : Int) (w : World) (h : InR w v us) (hE : RuleIn w ((zzn, e), .slice pe e.kids.length ce)) (hE' : RuleIn w ((zzn, e'), .slice pe' e'.kids.length ce')) (h80 : us.length * 80 ≤ 140737488351232) (hnil : ∀ n c, v = .slice none n c → c = 0) (hPT : PT2 w) :
    Calls Tryz.prog 4 #[v, .agg #[.int .i64 e.kind, .int .i64 e.a, .int .i64 e.b, .string ⟨e.name.toArray⟩, .slice pe e.kids.length ce], .agg #[.int .i64 e'.kind, .int .i64 e'.a, .int .i64 e'.b, .string ⟨e'.name.toArray⟩, .slice pe' e'.kids.length ce'], .int .i64 x, .int .i64 y, .int .i64 day] w fun r w' => r = .returned (.bool true) ∧ Below w.heap.size w w' := by
  obtain ⟨l, hl⟩ : ∃ l, us.map (fun p => p.1) = l := ⟨_, rfl⟩
  have hll : l.length = us.length := by rw [← hl, List.length_map]
  obtain ⟨pv, cv, rfl⟩ := h.form
  have hp0 : pv = none → cv = 0 := fun e => hnil us.length cv (by rw [e])
  have hz := mv_lit
  have bA : Below w.heap.size w ((w.alloc (.cells #[.int .i64 e.kind, .int .i64 e.a, .int .i64 e.b, .string ⟨e.name.toArray⟩, .slice pe e.kids.length ce] 31)).alloc (.cells #[.int .i64 e'.kind, .int .i64 e'.a, .int .i64 e'.b, .string ⟨e'.name.toArray⟩, .slice pe' e'.kids.length ce'] 31)) := ((Below.refl _ _).alloc (Nat.le_refl _) _).alloc (by simp) _
  have nA0 : ((w.alloc (.cells #[.int .i64 e.kind, .int .i64 e.a, .int .i64 e.b, .string ⟨e.name.toArray⟩, .slice pe e.kids.length ce] 31)).alloc (.cells #[.int .i64 e'.kind, .int .i64 e'.a, .int .i64 e'.b, .string ⟨e'.name.toArray⟩, .slice pe' e'.kids.length ce'] 31)).heap[w.heap.size]? = some (.cells #[.int .i64 e.kind, .int .i64 e.a, .int .i64 e.b, .string ⟨e.name.toArray⟩, .slice pe e.kids.length ce] 31 (0, 0)) := by (repeat (first | refine blk_old _ _ _ (by simp only [size_alloc]; omega) ?_ | exact blk_new _ _ _ (by first | rfl | simp only [size_alloc])))
  have nB0 : ((w.alloc (.cells #[.int .i64 e.kind, .int .i64 e.a, .int .i64 e.b, .string ⟨e.name.toArray⟩, .slice pe e.kids.length ce] 31)).alloc (.cells #[.int .i64 e'.kind, .int .i64 e'.a, .int .i64 e'.b, .string ⟨e'.name.toArray⟩, .slice pe' e'.kids.length ce'] 31)).heap[w.heap.size + 1]? = some (.cells #[.int .i64 e'.kind, .int .i64 e'.a, .int .i64 e'.b, .string ⟨e'.name.toArray⟩, .slice pe' e'.kids.length ce'] 31 (0, 0)) := by (repeat (first | refine blk_old _ _ _ (by simp only [size_alloc]; omega) ?_ | exact blk_new _ _ _ (by first | rfl | simp only [size_alloc])))
  generalize hwA : (w.alloc (.cells #[.int .i64 e.kind, .int .i64 e.a, .int .i64 e.b, .string ⟨e.name.toArray⟩, .slice pe e.kids.length ce] 31)).alloc (.cells #[.int .i64 e'.kind, .int .i64 e'.a, .int .i64 e'.b, .string ⟨e'.name.toArray⟩, .slice pe' e'.kids.length ce'] 31) = wA at *
  have c0 := alive6_any wA (hPT.below bA)
  have HOF : Hid (∀ (q : Ex) (pq : Option Addr) (cq : Nat) (W : World), Below w.heap.size w W → RuleIn W ((zzn, q), .slice pq q.kids.length cq) → Calls Tryz.prog 11 #[.slice pv us.length cv, .agg #[.int .i64 q.kind, .int .i64 q.a, .int .i64 q.b, .string ⟨q.name.toArray⟩, .slice pq q.kids.length cq], .int .i64 day] W (OutOf l q l.length day W)) := fun q pq cq W hW hr => by
    rw [hll]
    exact of6_any us pv cv q pq cq day l W (h.below hW) hr h80 hp0 hl
  have HEA := hid5 hE
  have HEB := hid5 hE'
  clear h hE hE' hl hll hPT hnil hp0 h80
  by_cases hr : 1 ≤ x ∧ 1 ≤ y ∧ x + y < 1440
  · obtain ⟨x0, y0, xy⟩ := hr
    obtain ⟨z, hzz⟩ : ∃ z, x + y = z := ⟨_, rfl⟩
    have hx1 : ¬ x < 1 := by omega
    have hy1 : ¬ y < 1 := by omega
    have hx2 : ¬ 1440 ≤ x := by omega
    have hy2 : ¬ 1440 ≤ y := by omega
    have hz2 : ¬ 1440 ≤ z := by omega
    have hwz : IntKind.i64.wrap z = z := by rw [IntKind.wrap_i64]; omega
    have HX : Hid (1 ≤ x ∧ 1 ≤ y ∧ x + y < 1440) := ⟨x0, y0, xy⟩
    clear x0 y0 xy
    go_enter Tryz.func4, Tryz.ntmps4
    go_wp2_with fail
    refine c0.mono ?_
    rintro r w0 ⟨rfl, hbx⟩
    have hb0 := bA.trans (hbx.mono bA.size)
    have nA1 := (hbx.block _ (lt_of_block nA0)).trans nA0
    have nB1 := (hbx.block _ (lt_of_block nB0)).trans nB0
    have bS := (Below.refl w0.heap.size w0).alloc (Nat.le_refl _) (.cells #[.int .i64 1, .int .i64 (-1)] 3)
    have nS := heap_alloc_new w0 (.cells #[.int .i64 1, .int .i64 (-1)] 3)
    have hbS := hb0.trans (bS.mono hb0.size)
    have nA2 := (bS.block _ (lt_of_block nA1)).trans nA1
    have nB2 := (bS.block _ (lt_of_block nB1)).trans nB1
    clear c0 hbx nA0 nB0 nA1 nB1 hwA bA hb0 bS
    generalize hwS : w0.alloc (.cells #[.int .i64 1, .int .i64 (-1)] 3) = wS at *
    have s0 := (cell_of_row _ _ 0 _ _ _ nS).trans rfl
    have s1 := (cell_of_row _ _ 1 _ _ _ nS).trans rfl
    go_wp2_with fail
    clear hwS
    go_loopw [15, 16, 17, 18, 19, 44] (fun _ _ _ _ _ t wr => ∃ j : Nat, t = .int .i64 (j : Int) ∧ j ≤ 2 ∧ Below wS.heap.size wS wr) (fun _ _ _ _ _ t _ => 2 - (intOf t).toNat)
    case atStart => exact ⟨0, rfl, by omega, Below.refl _ _⟩
    case round =>
      obtain ⟨j, rfl, hj, hbr⟩ := hrel
      have hj0 : (0 : Int) ≤ (j : Int) := by omega
      by_cases hjn : j < 2
      · have hlt' : (j : Int) < 2 := by omega
        obtain ⟨s, hs, hsc⟩ : ∃ s : Int, (s = 1 ∨ s = -1) ∧ wS.cell? ⟨w0.heap.size, j, none⟩ = some (.int .i64 s) := by
          have : j = 0 ∨ j = 1 := by omega
          rcases this with rfl | rfl
          · exact ⟨1, .inl rfl, s0⟩
          · exact ⟨-1, .inr rfl, s1⟩
        have hsc := (hbr.cell (block_lt_of_cell hsc)).trans hsc
        obtain ⟨m, hm⟩ : ∃ m, s * x = m := ⟨_, rfl⟩
        obtain ⟨n, hn⟩ : ∃ n, s * y = n := ⟨_, rfl⟩
        obtain ⟨k, hk⟩ : ∃ k, s * z = k := ⟨_, rfl⟩
        have hX := HX.out
        have hsgn : ((0 < m ∧ 0 < n) ∨ (m < 0 ∧ n < 0)) ∧ k = m + n ∧ -1440 < m ∧ m < 1440 ∧ -1440 < n ∧ n < 1440 ∧ -1440 < k ∧ k < 1440 := by
          rcases hs with rfl | rfl <;> omega
        obtain ⟨hsg, hkk, m0, m1, n0, n1, k0, k1⟩ := hsgn
        have HSG := hid5 hsg
        have HKK := hid5 hkk
        have hwm : IntKind.i64.wrap m = m := by rw [IntKind.wrap_i64]; omega
        have hwn : IntKind.i64.wrap n = n := by rw [IntKind.wrap_i64]; omega
        have hwk : IntKind.i64.wrap k = k := by rw [IntKind.wrap_i64]; omega
        have nA := (hbr.block _ (lt_of_block nA2)).trans nA2
        have nB := (hbr.block _ (lt_of_block nB2)).trans nB2
        have hbw := hbS.trans (hbr.mono hbS.size)
        have HBR := hid5 hbr
        clear hs hX hsg hkk m0 m1 n0 n1 k0 k1 hbr
        have b1 := by_any m e pe ce wr
        go_wp2_with (first | (refine wpList_load_row rfl 31 _ rfl _ rfl _ _ _ _ nA exprType5 rfl (by kernel_rfl) ?_))
        refine b1.mono ?_
        rintro r v1 ⟨g1, rfl, hg1, bb1⟩
        have hb1 := hbw.trans (bb1.mono hbw.size)
        have b2 : Calls Tryz.prog 10 #[.agg #[.int .i64 9, .int .i64 m, .int .i64 0, .string ⟨#[]⟩, .slice (some ⟨g1, 0, none⟩) 1 1], .int .i64 n] v1 fun r w' => ∃ g : Nat, r = .returned (.agg #[.int .i64 9, .int .i64 n, .int .i64 0, .string ⟨#[]⟩, .slice (some ⟨g, 0, none⟩) 1 1]) ∧ w'.heap[g]? = some (.cells #[.int .i64 9, .int .i64 m, .int .i64 0, .string ⟨#[]⟩, .slice (some ⟨g1, 0, none⟩) 1 1] 31 (0, 0)) ∧ Below v1.heap.size v1 w' := by_any n (shE m e) (some ⟨g1, 0, none⟩) 1 v1
        clear b1
        go_wp2_with fail
        refine b2.mono ?_
        rintro r v2 ⟨g2, rfl, hg2, bb2⟩
        have hb2 := hb1.trans (bb2.mono hb1.size)
        have hg1' := (bb2.block _ (lt_of_block hg1)).trans hg1
        have d1 : Calls Tryz.prog 11 #[.slice pv us.length cv, .agg #[.int .i64 9, .int .i64 n, .int .i64 0, .string ⟨#[]⟩, .slice (some ⟨g2, 0, none⟩) 1 1], .int .i64 day] v2 (OutOf l (shE n (shE m e)) l.length day v2) := HOF.out (shE n (shE m e)) (some ⟨g2, 0, none⟩) 1 v2 hb2 (ruleIn_wrap (e := shE m e) (pe := some ⟨g1, 0, none⟩) (ce := 1) 9 n 0 (ruleIn_wrap 9 m 0 (HEA.out.below hb2) hg1') hg2)
        have bq := bb1.trans (bb2.mono bb1.size)
        clear b2 hg1 hg1' hg2 bb1 bb2 hb1
        go_wp2_with fail
        refine d1.mono ?_
        rintro r w1 hout
        obtain ⟨f1, ok1, rfl, ho1, bb⟩ := hout.flat
        have HO1 := hid5 ho1
        clear hout ho1 d1
        have hn1 := hb2.trans (bb.mono hb2.size)
        have bq1 := bq.trans (bb.mono bq.size)
        clear bb
        have ba1 := (Below.refl w1.heap.size w1).alloc (Nat.le_refl _) (.cells (mv fun _ => false) 43)
        have na1 := heap_alloc_new w1 (.cells (mv fun _ => false) 43)
        have bm1 := below_setRow ba1 (Nat.le_refl _) (mv f1)
        have m1 := setRow_heap _ _ _ (mv f1) _ _ na1
        have hm1 := hn1.trans (bm1.mono hn1.size)
        have bp1 := bq1.trans (bm1.mono bq1.size)
        generalize hwa1 : w1.alloc (.cells (mv fun _ => false) 43) = w1a at *
        generalize hwm1 : w1a.setRow w1.heap.size (mv f1) = w1m at *
        have nA' := (bp1.block _ (lt_of_block nA)).trans nA
        clear nA
        have nA := nA'
        clear nA'
        have nB' := (bp1.block _ (lt_of_block nB)).trans nB
        clear nB
        have nB := nB'
        clear nB'
        have HB1 := hid5 (HBR.out.trans (bp1.mono HBR.out.size))
        have hge1 : wS.heap.size ≤ w1.heap.size := Nat.le_trans HBR.out.size bq1.size
        clear bm1 ba1 hn1 bq1 bp1 bq hb2 hbw HBR
        have b3 := by_any k e pe ce w1m
        go_wp2_with (first | (refine wpList_store_row rfl 43 _ _ rfl _ _ rfl rfl _ _ na1 (maskSize _) (by simp [mv_size]) (mv_all _) ?_) | (refine wpList_load_row rfl 31 _ rfl _ rfl _ _ _ _ nA exprType5 rfl (by kernel_rfl) ?_))
        clear na1 hwa1 hwm1
        refine b3.mono ?_
        rintro r v3 ⟨g3, rfl, hg3, bb3⟩
        have hb3 := hm1.trans (bb3.mono hm1.size)
        have d2 : Calls Tryz.prog 11 #[.slice pv us.length cv, .agg #[.int .i64 9, .int .i64 k, .int .i64 0, .string ⟨#[]⟩, .slice (some ⟨g3, 0, none⟩) 1 1], .int .i64 day] v3 (OutOf l (shE k e) l.length day v3) := HOF.out (shE k e) (some ⟨g3, 0, none⟩) 1 v3 hb3 (ruleIn_wrap 9 k 0 (HEA.out.below hb3) hg3)
        clear b3 hg3
        go_wp2_with fail
        refine d2.mono ?_
        rintro r w2 hout
        obtain ⟨f2, ok2, rfl, ho2, bb⟩ := hout.flat
        have HO2 := hid5 ho2
        clear hout ho2 d2
        have hn2 := hb3.trans (bb.mono hb3.size)
        have bq2 := bb3.trans (bb.mono bb3.size)
        clear bb
        have ba2 := (Below.refl w2.heap.size w2).alloc (Nat.le_refl _) (.cells (mv fun _ => false) 43)
        have na2 := heap_alloc_new w2 (.cells (mv fun _ => false) 43)
        have bm2 := below_setRow ba2 (Nat.le_refl _) (mv f2)
        have m2 := setRow_heap _ _ _ (mv f2) _ _ na2
        have hm2 := hn2.trans (bm2.mono hn2.size)
        have bp2 := bq2.trans (bm2.mono bq2.size)
        generalize hwa2 : w2.alloc (.cells (mv fun _ => false) 43) = w2a at *
        generalize hwm2 : w2a.setRow w2.heap.size (mv f2) = w2m at *
        have nA' := (bp2.block _ (lt_of_block nA)).trans nA
        clear nA
        have nA := nA'
        clear nA'
        have nB' := (bp2.block _ (lt_of_block nB)).trans nB
        clear nB
        have nB := nB'
        clear nB'
        have m1o := m1
        have m1' := (bp2.block _ (lt_of_block m1)).trans m1
        clear m1
        have m1 := m1'
        clear m1'
        have HB2 := hid5 (HB1.out.trans (bp2.mono HB1.out.size))
        have hge2 : wS.heap.size ≤ w2.heap.size := Nat.le_trans HB1.out.size bq2.size
        have hlt12 : w1.heap.size < w2.heap.size := Nat.lt_of_lt_of_le (lt_of_block m1o) bq2.size
        clear bm2 ba2 hn2 bq2 bp2 bb3 hb3 hm1 HB1 m1o
        have HEQ : Hid (ok1 = true → ok2 = true → f1 = f2) := fun a b => by
          obtain ⟨q1, e1⟩ := HO1.out a
          obtain ⟨q2, e2⟩ := HO2.out b
          rw [e1, e2]
          rw [HKK.out] at q2 ⊢
          exact shift_both HSG.out q1 q2
        clear HO1 HO2
        go_upto_region 11 with (refine wpList_store_row rfl 43 _ _ rfl _ _ rfl rfl _ _ na2 (maskSize _) (by simp [mv_size]) (mv_all _) ?_)
        clear na2 hwa2 hwm2
        go_cut [87] from 79 to 87 (fun v wr => v = .bool false ∧ wr = w2m)
        case first =>
          cases ok1 with
          | false =>
            clear HEQ
            go_wp2_with fail
            go_meet
            case rel => exact ⟨rfl, rfl⟩
          | true =>
            cases ok2 with
            | false =>
              clear HEQ
              go_wp2_with fail
              go_meet
              case rel => exact ⟨rfl, rfl⟩
            | true =>
              obtain rfl := HEQ.out rfl rfl
              have hq := fun W => neq_sameH f1 W
              go_wp2_with (first | (refine load_g (by rfl) _ (by rfl) w1.heap.size (by rfl) f1 ?r ?_; (case r => exact m1)) | (refine load_g (by rfl) _ (by rfl) w2.heap.size (by rfl) f1 ?r ?_; (case r => exact m2)))
              go_meet
              case rel => exact ⟨rfl, rfl⟩
        case rest =>
        obtain ⟨rfl, rfl⟩ := hcut
        clear HEQ
        have b4 := two_any 6 e e' pe pe' ce ce' wc
        go_wp2_with (first | (refine wpList_load_row rfl 31 _ rfl _ rfl _ _ _ _ nA exprType5 rfl (by kernel_rfl) ?_) | (refine wpList_load_row rfl 31 _ rfl _ rfl _ _ _ _ nB exprType5 rfl (by kernel_rfl) ?_))
        refine b4.mono ?_
        rintro r v4 ⟨g4, rfl, hg4, bb4⟩
        have hb4 := hm2.trans (bb4.mono hm2.size)
        have b5 : Calls Tryz.prog 10 #[.agg #[.int .i64 6, .int .i64 0, .int .i64 0, .string ⟨#[]⟩, .slice (some ⟨g4, 0, none⟩) 2 2], .int .i64 m] v4 fun r w' => ∃ g : Nat, r = .returned (.agg #[.int .i64 9, .int .i64 m, .int .i64 0, .string ⟨#[]⟩, .slice (some ⟨g, 0, none⟩) 1 1]) ∧ w'.heap[g]? = some (.cells #[.int .i64 6, .int .i64 0, .int .i64 0, .string ⟨#[]⟩, .slice (some ⟨g4, 0, none⟩) 2 2] 31 (0, 0)) ∧ Below v4.heap.size v4 w' := by_any m (twoE 6 e e') (some ⟨g4, 0, none⟩) 2 v4
        clear b4
        go_wp2_with fail
        refine b5.mono ?_
        rintro r v5 ⟨g5, rfl, hg5, bb5⟩
        have hb5 := hb4.trans (bb5.mono hb4.size)
        have hg4' := (bb5.block _ (lt_of_block hg4)).trans hg4
        have d3 : Calls Tryz.prog 11 #[.slice pv us.length cv, .agg #[.int .i64 9, .int .i64 m, .int .i64 0, .string ⟨#[]⟩, .slice (some ⟨g5, 0, none⟩) 1 1], .int .i64 day] v5 (OutOf l (shE m (twoE 6 e e')) l.length day v5) := HOF.out (shE m (twoE 6 e e')) (some ⟨g5, 0, none⟩) 1 v5 hb5 (ruleIn_wrap (e := twoE 6 e e') (pe := some ⟨g4, 0, none⟩) (ce := 2) 9 m 0 (ruleIn_two 6 (HEA.out.below hb5) (HEB.out.below hb5) hg4') hg5)
        have bqq := bb4.trans (bb5.mono bb4.size)
        clear b5 hg4 hg4' hg5 bb4 bb5 hb4
        go_wp2_with fail
        refine d3.mono ?_
        rintro r w3 hout
        obtain ⟨f3, ok3, rfl, ho3, bb⟩ := hout.flat
        have HO3 := hid5 ho3
        clear hout ho3 d3
        have hn3 := hb5.trans (bb.mono hb5.size)
        have bq3 := bqq.trans (bb.mono bqq.size)
        clear bb
        have m1 := (bq3.block _ (lt_of_block m1)).trans m1
        have m2 := (bq3.block _ (lt_of_block m2)).trans m2
        have nA := (bq3.block _ (lt_of_block nA)).trans nA
        have nB := (bq3.block _ (lt_of_block nB)).trans nB
        have HB3 := hid5 (below_setRow (HB2.out.trans (bq3.mono HB2.out.size)) hge1 (mv f3))
        have hwsz := hbS.size
        have lA := lt_of_block nA2
        have lB := lt_of_block nB2
        have hbw3 := below_setRow hn3 (show w.heap.size ≤ w1.heap.size by omega) (mv f3)
        have nA := (setRow_other w3 w1.heap.size w.heap.size (mv f3) (by omega)).trans nA
        have nB := (setRow_other w3 w1.heap.size (w.heap.size + 1) (mv f3) (by omega)).trans nB
        have m2 := (setRow_other w3 w1.heap.size w2.heap.size (mv f3) (by omega)).trans m2
        have m1s := m1
        have m1 := setRow_heap _ _ _ (mv f3) _ _ m1s
        clear bq3 bqq hb5 HB2 hm2 hwsz lA lB hn3
        generalize hwx : w3.setRow w1.heap.size (mv f3) = wx at *
        go_wp2_with (first | (refine wpList_store_row rfl 43 _ _ rfl _ _ rfl rfl _ _ m1s (maskSize _) (by simp [mv_size]) (mv_all _) ?_))
        clear hwx m1s
        have HA := hid5 nA
        have HBn := hid5 nB
        have HM1 := hid5 m1
        have HM2 := hid5 m2
        have HBW := hid5 hbw3
        refine wp_region_Z (fun L φ W => ∃ f ok, HJ wx w2.heap.size l day m e e' pe pe' ce ce' (twoE 6 (shE m e) (shE m e')) f ok L φ W) (fun L hL => ⟨fun _ => false, false, (fun _ => (Below.refl _ _).drew), (fun e => by rw [hL 19 (by decide)] at e; cases e), (fun e => by rw [hL 6 (by decide)] at e; cases e), (fun e => by rw [hL 12 (by decide)] at e; cases e), (fun e => by rw [hL 13 (by decide)] at e; cases e), (fun e => by rw [hL 15 (by decide)] at e; cases e), (fun e => by rw [hL 15 (by decide)] at e; cases e), (fun e => by rw [hL 16 (by decide)] at e; cases e), (fun e => by rw [hL 17 (by decide)] at e; cases e), (fun e => by rw [hL 18 (by decide)] at e; cases e), (fun e => by rw [hL 20 (by decide)] at e; cases e)⟩) (by kernel_rfl) (by kernel_rfl) (by kernel_rfl) (by kernel_rfl) [(some 103, some (.slice pv us.length cv)), (some 104, some (.func (Fn.func 10) #[] #[])), (some 105, some (.agg #[.int .i64 e.kind, .int .i64 e.a, .int .i64 e.b, .string ⟨e.name.toArray⟩, .slice pe e.kids.length ce])), (some 106, some (.int .i64 s)), (some 107, some (.int .i64 x)), (some 108, some (.int .i64 m)), (some 109, none), (some 110, some (.func (Fn.func 10) #[] #[])), (some 111, some (.agg #[.int .i64 e'.kind, .int .i64 e'.a, .int .i64 e'.b, .string ⟨e'.name.toArray⟩, .slice pe' e'.kids.length ce'])), (some 112, some (.int .i64 s)), (some 113, some (.int .i64 x)), (some 114, some (.int .i64 m)), (some 115, none), (some 116, none), (some 117, some (.int .i64 day)), (some 118, none), (some 102, none), (some 119, none), (some 120, none), (none, none), (some 19, none)] (by kernel_rfl) (by kernel_rfl) [103, 104, 105, 106, 107, 108, 109, 110, 111, 112, 113, 114, 115, 116, 117, 118, 102, 119, 120, 19] (by kernel_rfl) ?_ ?_
        · intro i' d' x' o' L A W2 ho hv hLi hdep hc hJ hkept hhas
          obtain ⟨f0, ok0, hJ⟩ := hJ
          match i', ho, hv, hLi with
          | 0, ho, hv, hLi =>
            cases Option.some.inj ho
            cases Option.some.inj hv
            have h0 : A.tmps[0]?.getD undef = .slice pv us.length cv := (gd A 0).trans (hkept 0 (by kernel_rfl))
            refine wpOp_step rfl (fun K hK => ?_)
            go_simp
            exact hK _ _ ⟨_, rfl, fun u hu => by cases Option.some.inj hu; rfl, f0, ok0, hJ.on 0 103 _ (by decide) (by decide)⟩
          | 1, ho, hv, hLi =>
            cases Option.some.inj ho
            cases Option.some.inj hv
            have h13 : A.tmps[13]?.getD undef = .func (Fn.func 10) #[] #[] := (gd A 13).trans (hkept 13 (by kernel_rfl))
            refine wpOp_step rfl (fun K hK => ?_)
            go_simp
            exact hK _ _ ⟨_, rfl, fun u hu => by cases Option.some.inj hu; rfl, f0, ok0, hJ.on 1 104 _ (by decide) (by decide)⟩
          | 2, ho, hv, hLi =>
            cases Option.some.inj ho
            cases Option.some.inj hv
            have h19 : L 19 = false := by
              cases hq : L 19 with
              | false => rfl
              | true =>
                have := hc 19 _ rfl hq ⟨2, .phase⟩ (by simp) rfl
                rw [hLi] at this; cases this
            have h7 : A.eval (.tmp 7) = .pointer (some ⟨w.heap.size, 0, none⟩) := hkept 7 (by kernel_rfl)
            refine wpOp_step rfl (fun K hK => ?_)
            show Oper.wp _ _ _ _ _ _
            refine wp_load_row 31 _ rfl _ h7 _ _ _ _ (((hJ.bel h19).block _ (lt_of_block HA.out)).trans HA.out) exprType5 rfl (by kernel_rfl) ?_
            exact hK _ _ ⟨_, rfl, fun u hu => by cases Option.some.inj hu; rfl, f0, ok0, hJ.on 2 105 _ (by decide) (by decide)⟩
          | 3, ho, hv, hLi =>
            cases Option.some.inj ho
            cases Option.some.inj hv
            have h15 : A.tmps[15]?.getD undef = .int .i64 s := (gd A 15).trans (hkept 15 (by kernel_rfl))
            refine wpOp_step rfl (fun K hK => ?_)
            go_simp
            exact hK _ _ ⟨_, rfl, fun u hu => by cases Option.some.inj hu; rfl, f0, ok0, hJ.on 3 106 _ (by decide) (by decide)⟩
          | 4, ho, hv, hLi =>
            cases Option.some.inj ho
            cases Option.some.inj hv
            have h3 : A.tmps[3]?.getD undef = .int .i64 x := (gd A 3).trans (hkept 3 (by kernel_rfl))
            refine wpOp_step rfl (fun K hK => ?_)
            go_simp
            exact hK _ _ ⟨_, rfl, fun u hu => by cases Option.some.inj hu; rfl, f0, ok0, hJ.on 4 107 _ (by decide) (by decide)⟩
          | 5, ho, hv, hLi =>
            cases Option.some.inj ho
            cases Option.some.inj hv
            have h106 : A.tmps[106]?.getD undef = .int .i64 s := (gd A 106).trans (hhas 3 106 _ rfl (hdep ⟨3, .data⟩ (by simp) rfl))
            have h107 : A.tmps[107]?.getD undef = .int .i64 x := (gd A 107).trans (hhas 4 107 _ rfl (hdep ⟨4, .data⟩ (by simp) rfl))
            refine wpOp_step rfl (fun K hK => ?_)
            go_simp
            exact hK _ _ ⟨_, rfl, fun u hu => by cases Option.some.inj hu; rfl, f0, ok0, hJ.on 5 108 _ (by decide) (by decide)⟩
          | 6, ho, hv, hLi =>
            cases Option.some.inj ho
            cases Option.some.inj hv
            have h13 : L 13 = false := by
              cases hq : L 13 with
              | false => rfl
              | true =>
                have := hc 13 _ rfl hq ⟨6, .data⟩ (by simp) rfl
                rw [hLi] at this; cases this
            have h15 : L 15 = false := by
              cases hq : L 15 with
              | false => rfl
              | true =>
                have := hc 15 _ rfl hq ⟨13, .data⟩ (by simp) rfl
                rw [h13] at this; cases this
            have h16 : L 16 = false := by
              cases hq : L 16 with
              | false => rfl
              | true =>
                have := hc 16 _ rfl hq ⟨15, .data⟩ (by simp) rfl
                rw [h15] at this; cases this
            have h17 : L 17 = false := by
              cases hq : L 17 with
              | false => rfl
              | true =>
                have := hc 17 _ rfl hq ⟨16, .data⟩ (by simp) rfl
                rw [h16] at this; cases this
            have h18 : L 18 = false := by
              cases hq : L 18 with
              | false => rfl
              | true =>
                have := hc 18 _ rfl hq ⟨16, .data⟩ (by simp) rfl
                rw [h16] at this; cases this
            have h19 : L 19 = false := by
              cases hq : L 19 with
              | false => rfl
              | true =>
                have := hc 19 _ rfl hq ⟨17, .data⟩ (by simp) rfl
                rw [h17] at this; cases this
            have h20 : L 20 = false := by
              cases hq : L 20 with
              | false => rfl
              | true =>
                have := hc 20 _ rfl hq ⟨18, .data⟩ (by simp) rfl
                rw [h18] at this; cases this
            have hf : A.tmps[104]?.getD undef = .func (Fn.func 10) #[] #[] := (gd A 104).trans (hhas 1 104 _ rfl (hdep ⟨1, .data⟩ (by simp) rfl))
            have hl : A.tmps[105]?.getD undef = .agg #[.int .i64 e.kind, .int .i64 e.a, .int .i64 e.b, .string ⟨e.name.toArray⟩, .slice pe e.kids.length ce] := (gd A 105).trans (hhas 2 105 _ rfl (hdep ⟨2, .data⟩ (by simp) rfl))
            have hm' : A.tmps[108]?.getD undef = .int .i64 m := (gd A 108).trans (hhas 5 108 _ rfl (hdep ⟨5, .data⟩ (by simp) rfl))
            have cc := by_any m e pe ce W2
            refine wpOp_step rfl (fun K hK => ?_)
            go_simp
            refine cc.mono ?_
            rintro r' W' ⟨g, rfl, hg, hb'⟩
            exact hK _ _ ⟨_, rfl, fun u hu => by (cases hu), f0, ok0, hJ.c6 h13 h15 h16 h17 h18 h19 h20 _ ⟨g, rfl, hg⟩ hb'⟩
          | 7, ho, hv, hLi =>
            cases Option.some.inj ho
            cases Option.some.inj hv
            have h13 : A.tmps[13]?.getD undef = .func (Fn.func 10) #[] #[] := (gd A 13).trans (hkept 13 (by kernel_rfl))
            refine wpOp_step rfl (fun K hK => ?_)
            go_simp
            exact hK _ _ ⟨_, rfl, fun u hu => by cases Option.some.inj hu; rfl, f0, ok0, hJ.on 7 110 _ (by decide) (by decide)⟩
          | 8, ho, hv, hLi =>
            cases Option.some.inj ho
            cases Option.some.inj hv
            have h19 : L 19 = false := by
              cases hq : L 19 with
              | false => rfl
              | true =>
                have := hc 19 _ rfl hq ⟨8, .phase⟩ (by simp) rfl
                rw [hLi] at this; cases this
            have h8 : A.eval (.tmp 8) = .pointer (some ⟨w.heap.size + 1, 0, none⟩) := hkept 8 (by kernel_rfl)
            refine wpOp_step rfl (fun K hK => ?_)
            show Oper.wp _ _ _ _ _ _
            refine wp_load_row 31 _ rfl _ h8 _ _ _ _ (((hJ.bel h19).block _ (lt_of_block HBn.out)).trans HBn.out) exprType5 rfl (by kernel_rfl) ?_
            exact hK _ _ ⟨_, rfl, fun u hu => by cases Option.some.inj hu; rfl, f0, ok0, hJ.on 8 111 _ (by decide) (by decide)⟩
          | 9, ho, hv, hLi =>
            cases Option.some.inj ho
            cases Option.some.inj hv
            have h15 : A.tmps[15]?.getD undef = .int .i64 s := (gd A 15).trans (hkept 15 (by kernel_rfl))
            refine wpOp_step rfl (fun K hK => ?_)
            go_simp
            exact hK _ _ ⟨_, rfl, fun u hu => by cases Option.some.inj hu; rfl, f0, ok0, hJ.on 9 112 _ (by decide) (by decide)⟩
          | 10, ho, hv, hLi =>
            cases Option.some.inj ho
            cases Option.some.inj hv
            have h3 : A.tmps[3]?.getD undef = .int .i64 x := (gd A 3).trans (hkept 3 (by kernel_rfl))
            refine wpOp_step rfl (fun K hK => ?_)
            go_simp
            exact hK _ _ ⟨_, rfl, fun u hu => by cases Option.some.inj hu; rfl, f0, ok0, hJ.on 10 113 _ (by decide) (by decide)⟩
          | 11, ho, hv, hLi =>
            cases Option.some.inj ho
            cases Option.some.inj hv
            have h112 : A.tmps[112]?.getD undef = .int .i64 s := (gd A 112).trans (hhas 9 112 _ rfl (hdep ⟨9, .data⟩ (by simp) rfl))
            have h113 : A.tmps[113]?.getD undef = .int .i64 x := (gd A 113).trans (hhas 10 113 _ rfl (hdep ⟨10, .data⟩ (by simp) rfl))
            refine wpOp_step rfl (fun K hK => ?_)
            go_simp
            exact hK _ _ ⟨_, rfl, fun u hu => by cases Option.some.inj hu; rfl, f0, ok0, hJ.on 11 114 _ (by decide) (by decide)⟩
          | 12, ho, hv, hLi =>
            cases Option.some.inj ho
            cases Option.some.inj hv
            have h13 : L 13 = false := by
              cases hq : L 13 with
              | false => rfl
              | true =>
                have := hc 13 _ rfl hq ⟨12, .data⟩ (by simp) rfl
                rw [hLi] at this; cases this
            have h15 : L 15 = false := by
              cases hq : L 15 with
              | false => rfl
              | true =>
                have := hc 15 _ rfl hq ⟨13, .data⟩ (by simp) rfl
                rw [h13] at this; cases this
            have h16 : L 16 = false := by
              cases hq : L 16 with
              | false => rfl
              | true =>
                have := hc 16 _ rfl hq ⟨15, .data⟩ (by simp) rfl
                rw [h15] at this; cases this
            have h17 : L 17 = false := by
              cases hq : L 17 with
              | false => rfl
              | true =>
                have := hc 17 _ rfl hq ⟨16, .data⟩ (by simp) rfl
                rw [h16] at this; cases this
            have h18 : L 18 = false := by
              cases hq : L 18 with
              | false => rfl
              | true =>
                have := hc 18 _ rfl hq ⟨16, .data⟩ (by simp) rfl
                rw [h16] at this; cases this
            have h19 : L 19 = false := by
              cases hq : L 19 with
              | false => rfl
              | true =>
                have := hc 19 _ rfl hq ⟨17, .data⟩ (by simp) rfl
                rw [h17] at this; cases this
            have h20 : L 20 = false := by
              cases hq : L 20 with
              | false => rfl
              | true =>
                have := hc 20 _ rfl hq ⟨18, .data⟩ (by simp) rfl
                rw [h18] at this; cases this
            have hf : A.tmps[110]?.getD undef = .func (Fn.func 10) #[] #[] := (gd A 110).trans (hhas 7 110 _ rfl (hdep ⟨7, .data⟩ (by simp) rfl))
            have hl : A.tmps[111]?.getD undef = .agg #[.int .i64 e'.kind, .int .i64 e'.a, .int .i64 e'.b, .string ⟨e'.name.toArray⟩, .slice pe' e'.kids.length ce'] := (gd A 111).trans (hhas 8 111 _ rfl (hdep ⟨8, .data⟩ (by simp) rfl))
            have hm' : A.tmps[114]?.getD undef = .int .i64 m := (gd A 114).trans (hhas 11 114 _ rfl (hdep ⟨11, .data⟩ (by simp) rfl))
            have cc := by_any m e' pe' ce' W2
            refine wpOp_step rfl (fun K hK => ?_)
            go_simp
            refine cc.mono ?_
            rintro r' W' ⟨g, rfl, hg, hb'⟩
            exact hK _ _ ⟨_, rfl, fun u hu => by (cases hu), f0, ok0, hJ.c12 h13 h15 h16 h17 h18 h19 h20 _ ⟨g, rfl, hg⟩ hb'⟩
          | 13, ho, hv, hLi =>
            cases Option.some.inj ho
            cases Option.some.inj hv
            have h15 : L 15 = false := by
              cases hq : L 15 with
              | false => rfl
              | true =>
                have := hc 15 _ rfl hq ⟨13, .data⟩ (by simp) rfl
                rw [hLi] at this; cases this
            have h16 : L 16 = false := by
              cases hq : L 16 with
              | false => rfl
              | true =>
                have := hc 16 _ rfl hq ⟨15, .data⟩ (by simp) rfl
                rw [h15] at this; cases this
            have h17 : L 17 = false := by
              cases hq : L 17 with
              | false => rfl
              | true =>
                have := hc 17 _ rfl hq ⟨16, .data⟩ (by simp) rfl
                rw [h16] at this; cases this
            have h18 : L 18 = false := by
              cases hq : L 18 with
              | false => rfl
              | true =>
                have := hc 18 _ rfl hq ⟨16, .data⟩ (by simp) rfl
                rw [h16] at this; cases this
            have h19 : L 19 = false := by
              cases hq : L 19 with
              | false => rfl
              | true =>
                have := hc 19 _ rfl hq ⟨17, .data⟩ (by simp) rfl
                rw [h17] at this; cases this
            have h20 : L 20 = false := by
              cases hq : L 20 with
              | false => rfl
              | true =>
                have := hc 20 _ rfl hq ⟨18, .data⟩ (by simp) rfl
                rw [h18] at this; cases this
            obtain ⟨g1, e109, k1⟩ := hJ.s6 (hdep ⟨6, .data⟩ (by simp) rfl) hLi
            obtain ⟨g2, e115, k2⟩ := hJ.s12 (hdep ⟨12, .data⟩ (by simp) rfl) hLi
            have h109 : A.tmps[109]?.getD undef = .agg #[.int .i64 9, .int .i64 m, .int .i64 0, .string ⟨#[]⟩, .slice (some ⟨g1, 0, none⟩) 1 1] := (gd A 109).trans e109
            have h115 : A.tmps[115]?.getD undef = .agg #[.int .i64 9, .int .i64 m, .int .i64 0, .string ⟨#[]⟩, .slice (some ⟨g2, 0, none⟩) 1 1] := (gd A 115).trans e115
            have hbJ := hJ.bel h19
            have cc : Calls Tryz.prog 12 #[.int .i64 6, .agg #[.int .i64 9, .int .i64 m, .int .i64 0, .string ⟨#[]⟩, .slice (some ⟨g1, 0, none⟩) 1 1], .agg #[.int .i64 9, .int .i64 m, .int .i64 0, .string ⟨#[]⟩, .slice (some ⟨g2, 0, none⟩) 1 1]] W2 fun r w' => ∃ g : Nat, r = .returned (.agg #[.int .i64 6, .int .i64 0, .int .i64 0, .string ⟨#[]⟩, .slice (some ⟨g, 0, none⟩) 2 2]) ∧ w'.heap[g]? = some (.cells #[.int .i64 9, .int .i64 m, .int .i64 0, .string ⟨#[]⟩, .slice (some ⟨g1, 0, none⟩) 1 1, .int .i64 9, .int .i64 m, .int .i64 0, .string ⟨#[]⟩, .slice (some ⟨g2, 0, none⟩) 1 1] 31 (0, 0)) ∧ Below W2.heap.size W2 w' := two_any 6 (shE m e) (shE m e') (some ⟨g1, 0, none⟩) (some ⟨g2, 0, none⟩) 1 1 W2
            refine wpOp_step rfl (fun K hK => ?_)
            go_simp
            refine cc.mono ?_
            rintro r' W' ⟨g, rfl, hg, hb'⟩
            have hbW := HBW.out.trans (hbJ.mono HBW.out.size)
            have hbW' := hbW.trans (hb'.mono hbW.size)
            have k1' := (hb'.block _ (lt_of_block k1)).trans k1
            have k2' := (hb'.block _ (lt_of_block k2)).trans k2
            exact hK _ _ ⟨_, rfl, fun u hu => by (cases hu), f0, ok0, hJ.c13 h15 h16 h17 h18 h19 h20 _ ⟨g, rfl, ruleIn_two (e := shE m e) (e' := shE m e') (pe := some ⟨g1, 0, none⟩) (pe' := some ⟨g2, 0, none⟩) (ce := 1) (ce' := 1) 6 (ruleIn_wrap 9 m 0 (HEA.out.below hbW') k1') (ruleIn_wrap 9 m 0 (HEB.out.below hbW') k2') hg⟩ hb'⟩
          | 14, ho, hv, hLi =>
            cases Option.some.inj ho
            cases Option.some.inj hv
            have h5 : A.tmps[5]?.getD undef = .int .i64 day := (gd A 5).trans (hkept 5 (by kernel_rfl))
            refine wpOp_step rfl (fun K hK => ?_)
            go_simp
            exact hK _ _ ⟨_, rfl, fun u hu => by cases Option.some.inj hu; rfl, f0, ok0, hJ.on 14 117 _ (by decide) (by decide)⟩
          | 15, ho, hv, hLi =>
            cases Option.some.inj ho
            cases Option.some.inj hv
            have h16 : L 16 = false := by
              cases hq : L 16 with
              | false => rfl
              | true =>
                have := hc 16 _ rfl hq ⟨15, .data⟩ (by simp) rfl
                rw [hLi] at this; cases this
            have h17 : L 17 = false := by
              cases hq : L 17 with
              | false => rfl
              | true =>
                have := hc 17 _ rfl hq ⟨16, .data⟩ (by simp) rfl
                rw [h16] at this; cases this
            have h18 : L 18 = false := by
              cases hq : L 18 with
              | false => rfl
              | true =>
                have := hc 18 _ rfl hq ⟨16, .data⟩ (by simp) rfl
                rw [h16] at this; cases this
            have h19 : L 19 = false := by
              cases hq : L 19 with
              | false => rfl
              | true =>
                have := hc 19 _ rfl hq ⟨17, .data⟩ (by simp) rfl
                rw [h17] at this; cases this
            have h20 : L 20 = false := by
              cases hq : L 20 with
              | false => rfl
              | true =>
                have := hc 20 _ rfl hq ⟨18, .data⟩ (by simp) rfl
                rw [h18] at this; cases this
            have h13 : L 13 = true := hdep ⟨13, .data⟩ (by simp) rfl
            obtain ⟨g, e116, hri⟩ := hJ.s13 h13 hLi
            have h103 : A.tmps[103]?.getD undef = .slice pv us.length cv := (gd A 103).trans (hhas 0 103 _ rfl (hdep ⟨0, .data⟩ (by simp) rfl))
            have h116 : A.tmps[116]?.getD undef = .agg #[.int .i64 6, .int .i64 0, .int .i64 0, .string ⟨#[]⟩, .slice (some ⟨g, 0, none⟩) 2 2] := (gd A 116).trans e116
            have h117 : A.tmps[117]?.getD undef = .int .i64 day := (gd A 117).trans (hhas 14 117 _ rfl (hdep ⟨14, .data⟩ (by simp) rfl))
            have hbJ := hJ.bel h19
            have hbW := HBW.out.trans (hbJ.mono HBW.out.size)
            have cc : Calls Tryz.prog 11 #[.slice pv us.length cv, .agg #[.int .i64 6, .int .i64 0, .int .i64 0, .string ⟨#[]⟩, .slice (some ⟨g, 0, none⟩) 2 2], .int .i64 day] W2 (OutOf l (twoE 6 (shE m e) (shE m e')) l.length day W2) := HOF.out (twoE 6 (shE m e) (shE m e')) (some ⟨g, 0, none⟩) 2 W2 hbW hri
            refine wpOp_step rfl (fun K hK => ?_)
            go_simp
            refine cc.mono ?_
            rintro r' W' hout
            obtain ⟨f', ok', rfl, ho', hb'⟩ := hout.flat
            exact hK _ _ ⟨_, rfl, fun u hu => by (cases hu), f', ok', hJ.c15 h13 h16 h17 h18 h19 h20 f' ok' ho' hb'⟩
          | 16, ho, hv, hLi =>
            cases Option.some.inj ho
            cases Option.some.inj hv
            have hd15 : L 15 = true := hdep ⟨15, .data⟩ (by simp) rfl
            have hd13 : L 13 = true := hc 15 _ rfl hd15 ⟨13, .data⟩ (by simp) rfl
            have e118 := hJ.s15 hd15
            have h118 : A.tmps[118]?.getD undef = .tuple #[.agg (mv f0), .bool ok0] := (gd A 118).trans e118
            refine wpOp_step rfl (fun K hK => ?_)
            go_simp
            exact hK _ _ ⟨_, rfl, fun u hu => by (cases hu), f0, ok0, hJ.late hd13 hd15 16 102 _ (.inl ⟨rfl, rfl, rfl⟩)⟩
          | 17, ho, hv, hLi =>
            cases Option.some.inj ho
            cases Option.some.inj hv
            have hd16 : L 16 = true := hdep ⟨16, .data⟩ (by simp) rfl
            have hd15 : L 15 = true := hc 16 _ rfl hd16 ⟨15, .data⟩ (by simp) rfl
            have hd13 : L 13 = true := hc 15 _ rfl hd15 ⟨13, .data⟩ (by simp) rfl
            have e102 := hJ.s16 hd16
            have h102 : A.tmps[102]?.getD undef = .tuple #[.agg (mv f0), .bool ok0] := (gd A 102).trans e102
            refine wpOp_step rfl (fun K hK => ?_)
            go_simp
            exact hK _ _ ⟨_, rfl, fun u hu => by (cases hu), f0, ok0, hJ.late hd13 hd15 17 119 _ (.inr (.inl ⟨rfl, rfl, rfl⟩))⟩
          | 18, ho, hv, hLi =>
            cases Option.some.inj ho
            cases Option.some.inj hv
            have hd16 : L 16 = true := hdep ⟨16, .data⟩ (by simp) rfl
            have hd15 : L 15 = true := hc 16 _ rfl hd16 ⟨15, .data⟩ (by simp) rfl
            have hd13 : L 13 = true := hc 15 _ rfl hd15 ⟨13, .data⟩ (by simp) rfl
            have e102 := hJ.s16 hd16
            have h102 : A.tmps[102]?.getD undef = .tuple #[.agg (mv f0), .bool ok0] := (gd A 102).trans e102
            refine wpOp_step rfl (fun K hK => ?_)
            go_simp
            exact hK _ _ ⟨_, rfl, fun u hu => by (cases hu), f0, ok0, hJ.late hd13 hd15 18 120 _ (.inr (.inr (.inl ⟨rfl, rfl, rfl⟩)))⟩
          | 19, ho, hv, hLi =>
            cases Option.some.inj ho
            cases Option.some.inj hv
            have hd17 : L 17 = true := hdep ⟨17, .data⟩ (by simp) rfl
            have hd16 : L 16 = true := hc 17 _ rfl hd17 ⟨16, .data⟩ (by simp) rfl
            have hd15 : L 15 = true := hc 16 _ rfl hd16 ⟨15, .data⟩ (by simp) rfl
            have hd13 : L 13 = true := hc 15 _ rfl hd15 ⟨13, .data⟩ (by simp) rfl
            have h119 : A.eval (.tmp 119) = .agg (mv f0) := hJ.s17 hd17
            have h18 : A.eval (.tmp 18) = .pointer (some ⟨w2.heap.size, 0, none⟩) := hkept 18 (by kernel_rfl)
            have hbJ := hJ.bel hLi
            have hbk := (hbJ.block _ (lt_of_block HM2.out)).trans HM2.out
            refine wpOp_step rfl (fun K hK => ?_)
            show Oper.wp _ _ _ _ _ _
            refine wp_store_row 43 _ _ rfl _ _ h18 h119 _ _ hbk (maskSize _) (by simp [mv_size]) (mv_all _) ?_
            exact hK _ _ ⟨undef, rfl, fun u hu => by (cases hu), f0, ok0, hJ.store hd13 hd15 hLi⟩
          | 20, ho, hv, hLi =>
            cases Option.some.inj ho
            cases Option.some.inj hv
            have hd18 : L 18 = true := hdep ⟨18, .data⟩ (by simp) rfl
            have hd16 : L 16 = true := hc 18 _ rfl hd18 ⟨16, .data⟩ (by simp) rfl
            have hd15 : L 15 = true := hc 16 _ rfl hd16 ⟨15, .data⟩ (by simp) rfl
            have hd13 : L 13 = true := hc 15 _ rfl hd15 ⟨13, .data⟩ (by simp) rfl
            have e120 := hJ.s18 hd18
            have h120 : A.tmps[120]?.getD undef = .bool ok0 := (gd A 120).trans e120
            refine wpOp_step rfl (fun K hK => ?_)
            go_simp
            exact hK _ _ ⟨_, rfl, fun u hu => by (cases hu), f0, ok0, hJ.late hd13 hd15 20 19 _ (.inr (.inr (.inr ⟨rfl, rfl, rfl⟩)))⟩
          | kk + 21, ho, hv, hLi => simp at hv
        · intro L A W2 hL hJ hhas hput
          obtain ⟨f4, ok4, hJ⟩ := hJ
          have e118 := hJ.s15 (hL 15 (by decide))
          have e102 := hJ.s16 (hL 16 (by decide))
          have e119 := hJ.s17 (hL 17 (by decide))
          have e120 := hJ.s18 (hL 18 (by decide))
          have e19 := hJ.s20 (hL 20 (by decide))
          obtain ⟨W0, hb0, rfl⟩ := hJ.sto (hL 19 (by decide))
          have hinf := hJ.inf (hL 15 (by decide))
          obtain ⟨q109, e109⟩ : ∃ q, A.tmps.getD 109 undef = q := ⟨_, rfl⟩
          obtain ⟨q115, e115⟩ : ∃ q, A.tmps.getD 115 undef = q := ⟨_, rfl⟩
          obtain ⟨q116, e116⟩ : ∃ q, A.tmps.getD 116 undef = q := ⟨_, rfl⟩
          have hA := hput [(103, .slice pv us.length cv), (104, .func (Fn.func 10) #[] #[]), (105, .agg #[.int .i64 e.kind, .int .i64 e.a, .int .i64 e.b, .string ⟨e.name.toArray⟩, .slice pe e.kids.length ce]), (106, .int .i64 s), (107, .int .i64 x), (108, .int .i64 m), (109, q109), (110, .func (Fn.func 10) #[] #[]), (111, .agg #[.int .i64 e'.kind, .int .i64 e'.a, .int .i64 e'.b, .string ⟨e'.name.toArray⟩, .slice pe' e'.kids.length ce']), (112, .int .i64 s), (113, .int .i64 x), (114, .int .i64 m), (115, q115), (116, q116), (117, .int .i64 day), (118, .tuple #[.agg (mv f4), .bool ok4]), (102, .tuple #[.agg (mv f4), .bool ok4]), (119, .agg (mv f4)), (120, .bool ok4), (19, .bool ok4)] rfl (fun j s u hj => match j, hj with
            | 0, hj => by cases Option.some.inj hj; exact hhas 0 103 _ rfl
            | 1, hj => by cases Option.some.inj hj; exact hhas 1 104 _ rfl
            | 2, hj => by cases Option.some.inj hj; exact hhas 2 105 _ rfl
            | 3, hj => by cases Option.some.inj hj; exact hhas 3 106 _ rfl
            | 4, hj => by cases Option.some.inj hj; exact hhas 4 107 _ rfl
            | 5, hj => by cases Option.some.inj hj; exact hhas 5 108 _ rfl
            | 6, hj => by cases Option.some.inj hj; exact e109
            | 7, hj => by cases Option.some.inj hj; exact hhas 7 110 _ rfl
            | 8, hj => by cases Option.some.inj hj; exact hhas 8 111 _ rfl
            | 9, hj => by cases Option.some.inj hj; exact hhas 9 112 _ rfl
            | 10, hj => by cases Option.some.inj hj; exact hhas 10 113 _ rfl
            | 11, hj => by cases Option.some.inj hj; exact hhas 11 114 _ rfl
            | 12, hj => by cases Option.some.inj hj; exact e115
            | 13, hj => by cases Option.some.inj hj; exact e116
            | 14, hj => by cases Option.some.inj hj; exact hhas 14 117 _ rfl
            | 15, hj => by cases Option.some.inj hj; exact e118
            | 16, hj => by cases Option.some.inj hj; exact e102
            | 17, hj => by cases Option.some.inj hj; exact e119
            | 18, hj => by cases Option.some.inj hj; exact e120
            | 19, hj => by cases Option.some.inj hj; exact e19
            | kk + 20, hj => by simp at hj)
          change Exit.then _ _ Exit.normal _ _
          subst hA
          simp only [putAll_cons, putAll_nil, Act.put, List.setIfInBounds_toArray, List.set_cons_succ, List.set_cons_zero]
          have m2 := setRow_heap _ _ _ (mv f4) _ _ ((hb0.block _ (lt_of_block HM2.out)).trans HM2.out)
          have m1 := (setRow_other W0 w2.heap.size w1.heap.size (mv f4) (by omega)).trans ((hb0.block _ (lt_of_block HM1.out)).trans HM1.out)
          have HB4 := hid5 (below_setRow (HB3.out.trans (hb0.mono HB3.out.size)) hge2 (mv f4))
          have HEQ : Hid (ok3 = true → ok4 = true → f3 = f4) := fun a b => by
            obtain ⟨q1, e1⟩ := HO3.out a
            obtain ⟨q2, e2⟩ := hinf b
            rw [e1, e2]
            exact shift_sum q1 q2
          clear hJ hput hhas hL e118 e102 e119 e120 e19 e109 e115 e116 hinf hb0 HO3 HA HBn HM1 HM2 HBW HB3
          generalize hwy : W0.setRow w2.heap.size (mv f4) = wy at *
          go_upto_region 15 with fail
          go_cut [129] from 121 to 129 (fun v wr => v = .bool false ∧ wr = wy)
          case first =>
            cases ok3 with
            | false =>
              clear HEQ
              go_wp2_with fail
              go_meet
              case rel => exact ⟨rfl, rfl⟩
            | true =>
              cases ok4 with
              | false =>
                clear HEQ
                go_wp2_with fail
                go_meet
                case rel => exact ⟨rfl, rfl⟩
              | true =>
                obtain rfl := HEQ.out rfl rfl
                have hq := fun W => neq_sameH f3 W
                go_wp2_with (first | (refine load_g (by rfl) _ (by rfl) w1.heap.size (by rfl) f3 ?r ?_; (case r => exact m1)) | (refine load_g (by rfl) _ (by rfl) w2.heap.size (by rfl) f3 ?r ?_; (case r => exact m2)))
                go_meet
                case rel => exact ⟨rfl, rfl⟩
          case rest =>
            obtain ⟨rfl, rfl⟩ := hcut
            clear HEQ
            go_wp2_with fail
            go_roundw
            case rel => exact ⟨j + 1, by go_num, by omega, HB4.out⟩
            case measure => simp [intOf]; omega
      · have hlt' : ¬ (j : Int) < 2 := by omega
        have HBe := hid5 (hbS.trans (hbr.mono hbS.size))
        clear hbr
        go_wp2_with fail
        go_ret
        exact ⟨rfl, HBe.out⟩
  · have HBx := hid5 bA
    clear HOF HEA HEB nA0 nB0
    obtain ⟨z, hzz⟩ : ∃ z, IntKind.i64.wrap (x + y) = z := ⟨_, rfl⟩
    have HZ : Hid (x < 1440 → y < 1440 → 1 ≤ x → 1 ≤ y → z = x + y) := fun a b c d => by
      rw [← hzz, IntKind.wrap_i64]
      omega
    have HR := hid5 hr
    clear hr
    by_cases h1 : x < 1
    · go_enter Tryz.func4, Tryz.ntmps4
      go_wp2_with fail
      refine c0.mono ?_
      rintro r w0 ⟨rfl, hbx⟩
      have HB0 := hid5 (HBx.out.trans (hbx.mono HBx.out.size))
      clear c0 hbx
      go_wp2_with fail
      go_ret
      exact ⟨rfl, HB0.out⟩
    by_cases h2 : y < 1
    · go_enter Tryz.func4, Tryz.ntmps4
      go_wp2_with fail
      refine c0.mono ?_
      rintro r w0 ⟨rfl, hbx⟩
      have HB0 := hid5 (HBx.out.trans (hbx.mono HBx.out.size))
      clear c0 hbx
      go_wp2_with fail
      go_ret
      exact ⟨rfl, HB0.out⟩
    by_cases h3 : 1440 ≤ z
    · go_enter Tryz.func4, Tryz.ntmps4
      go_wp2_with fail
      refine c0.mono ?_
      rintro r w0 ⟨rfl, hbx⟩
      have HB0 := hid5 (HBx.out.trans (hbx.mono HBx.out.size))
      clear c0 hbx
      go_wp2_with fail
      go_ret
      exact ⟨rfl, HB0.out⟩
    by_cases h4 : 1440 ≤ x
    · go_enter Tryz.func4, Tryz.ntmps4
      go_wp2_with fail
      refine c0.mono ?_
      rintro r w0 ⟨rfl, hbx⟩
      have HB0 := hid5 (HBx.out.trans (hbx.mono HBx.out.size))
      clear c0 hbx
      go_wp2_with fail
      go_ret
      exact ⟨rfl, HB0.out⟩
    by_cases h5 : 1440 ≤ y
    · go_enter Tryz.func4, Tryz.ntmps4
      go_wp2_with fail
      refine c0.mono ?_
      rintro r w0 ⟨rfl, hbx⟩
      have HB0 := hid5 (HBx.out.trans (hbx.mono HBx.out.size))
      clear c0 hbx
      go_wp2_with fail
      go_ret
      exact ⟨rfl, HB0.out⟩
    · exact absurd (HZ.out (by omega) (by omega) (by omega) (by omega)) (fun e => HR.out (by omega))
end Go.Proofs.YtgfjbcdjpkcbkaaGreatDoor
