/- What the law MeanNames comes to. Written by genmv.py. -/
import Derived.Test.YtgfjbcdjpkcbkaaGreatDoorDu18
import Derived.Test.YtgfjbcdjpkcbkaaGreatDoorDu20
import Derived.Test.YtgfjbcdjpkcbkaaGreatDoorDu19
import Derived.Test.YtgfjbcdjpkcbkaaGreatDoorDu05
import Derived.Laws.StructEq
import Derived.Deep.CutRange
import Derived.Test.YtgfjbcdjpkcbkaaGreatDoorDu07
import Derived.Test.YtgfjbcdjpkcbkaaGreatDoorDu02
import Derived.Test.YtgfjbcdjpkcbkaaGreatDoorCards
import Derived.Test.YtgfjbcdjpkcbkaaGreatDoorTie
import Derived.ProofKit
import Derived.LaidMore
import Derived.OpenShut
import Derived.Stop.Joined
import Derived.SevenTiedAt
import Derived.Lib.SmallJoins
import Derived.Lib.LaidTab
namespace Go.Proofs.YtgfjbcdjpkcbkaaGreatDoor
open Go.RowKit Lx Msk
theorem eqFaultU (a b : Int) (w : World) : (Op.equalIn 10000 26 (.agg #[.int .i64 a, .int .i64 b]) (.agg #[.int .i64 a, .int .i64 b])).run Tryz.prog w = .ok true w := by
  rw [run_equalIn_struct w 9999 26 _ _ (by kernel_rfl) (by kernel_rfl)]
  simp [Program.fieldsOf, Tryz.underlying26, Op.eqFields]
  go_simp
theorem eqlFaultU (a b : Int) (w : World) : (binOp .eql 26 (.agg #[.int .i64 a, .int .i64 b]) (.agg #[.int .i64 a, .int .i64 b])).run Tryz.prog w = .ok (.bool true) w := by
  rw [run_eql_struct, eqFaultU]; simp [Result.andThen]
theorem faultT6u : Tryz.prog.underlying 26 = some (.struct (Tryz.prog.fieldsOf 26)) := by kernel_rfl
attribute [local go_sem] eqlFaultU
theorem ruleInfoU : (Tryz.prog.info? 33).map (fun i => (i.zero, i.size, i.bytes)) = some (some (.agg #[.string ⟨#[]⟩, .int .i64 0, .int .i64 0, .int .i64 0, .string ⟨#[]⟩, .slice none 0 0]), 6, 80) := by kernel_rfl
theorem rulesTypeU : Tryz.prog.underlying 22 = some (.slice 33) := by kernel_rfl
structure RuS (w0 wP : World) (ls : List Ru) (q : Value) (j : Nat) (wr : World) (xs : List (Ru × Value)) : Prop where
  map : xs.map (fun p => p.1) = ls.take j
  own : wr.ownsRow wP.heap.size 33 6 q j (flatR xs)
  all : ∀ p ∈ xs, p.1.1.length ≤ 9223372036854775807 ∧ p.1.2.name.length ≤ 9223372036854775807 ∧ ∃ D, KidsB (fun k => k < wr.heap.size ∧ q.ownBlock ≠ some k) D wr p.2 p.1.2.kids
  bel : Below wP.heap.size wP wr
theorem RuS.next {w0 wP wr W w' : World} {ls : List Ru} {q v' : Value} {j D : Nat} {xs : List (Ru × Value)} {nm : List UInt8} {E : Ex} {sl : Value} (h : RuS w0 wP ls q j wr xs) (hb : Below wr.heap.size wr W) (hls : ls[j]? = some (nm, E)) (hnm : nm.length ≤ 9223372036854775807) (hnE : E.name.length ≤ 9223372036854775807)
    (ht : KidsB (fun k => (k < w0.heap.size ∨ wr.heap.size ≤ k) ∧ k < W.heap.size) D W sl E.kids) (h0 : w0.heap.size ≤ wP.heap.size) (hown : w'.ownsRow wP.heap.size 33 6 v' (j + 1) (flatR xs ++ [.string ⟨nm.toArray⟩, .int .i64 E.kind, .int .i64 E.a, .int .i64 E.b, .string ⟨E.name.toArray⟩, sl])) (hgrow : W.grownBy w' q.ownBlock)
    (hfr : v'.ownBlock = q.ownBlock ∨ ∃ g, v'.ownBlock = some g ∧ W.heap.size ≤ g) : RuS w0 wP ls v' (j + 1) w' (xs ++ [((nm, E), sl)]) := by
  have hlo := h.own.lt
  have hsz := hb.size
  have hgs := hgrow.size
  have hbW := h.bel.trans (hb.mono h.bel.size)
  have new : ∀ k, k < W.heap.size → q.ownBlock ≠ some k → k < w'.heap.size ∧ v'.ownBlock ≠ some k := fun k hk hne => by
    refine ⟨by omega, fun e => ?_⟩
    rcases hfr with hf | ⟨g, hg, hg2⟩
    · exact hne (by rw [← hf]; exact e)
    · rw [hg] at e
      cases e
      omega
  refine ⟨?_, ?_, fun p hp => ?_, hbW.grown hgrow hbW.size (fun b hb' => (hlo b hb').1)⟩
  · rw [List.map_append, h.map, List.take_add_one, hls]
    rfl
  · rw [flatR_snoc]
    exact hown
  · rcases List.mem_append.1 hp with hp | hp
    · obtain ⟨q1, q2, D', q3⟩ := h.all p hp
      refine ⟨q1, q2, D', ?_⟩
      exact ((q3.kept (w' := W) fun g _ hl => hb.block g hl).kept (w' := w') fun g hg hl => hgrow.block g hl fun e => hg.2 e.symm).mono fun g hg => new g (by have := hg.1; omega) hg.2
    · have ep : p = ((nm, E), sl) := by simpa using hp
      subst ep
      have hne : ∀ g, ((g < w0.heap.size ∨ wr.heap.size ≤ g) ∧ g < W.heap.size) → q.ownBlock ≠ some g := fun g hg e => by
        have := hlo g e
        omega
      exact ⟨hnm, hnE, D, (ht.kept (w' := w') fun g hg hl => hgrow.block g hl fun e => hne g hg e.symm).mono fun g hg => new g hg.2 (hne g hg)⟩
theorem RuS.inR {w0 wP wr : World} {ls : List Ru} {q : Value} {xs : List (Ru × Value)} (h : RuS w0 wP ls q ls.length wr xs) (hl : ls.length ≤ 40) : InR wr q xs ∧ xs.map (fun p => p.1) = ls := by
  have hm : xs.map (fun p => p.1) = ls := by rw [h.map, List.take_length]
  have hx : xs.length = ls.length := by rw [← hm, List.length_map]
  refine ⟨⟨rrow_of_owns (by rw [hx]; exact h.own) (by omega), by omega, fun p hp => ?_⟩, hm⟩
  obtain ⟨q1, q2, D, q3⟩ := h.all p hp
  exact ⟨q1, q2, D, q3.mono fun g hg => hg.1⟩
def TrX (w0 wX : World) (E : Ex) (W : World) (sl : Value) : Prop := (∃ p c, sl = .slice p E.kids.length c) ∧ ∃ D, KidsB (fun k => (k < w0.heap.size ∨ wX.heap.size ≤ k) ∧ k < W.heap.size) D W sl E.kids
theorem TrX.below {w0 wX W W' : World} {E : Ex} {sl : Value} (h : TrX w0 wX E W sl) (hb : Below W.heap.size W W') : TrX w0 wX E W' sl := by
  obtain ⟨h1, D, h2⟩ := h
  exact ⟨h1, D, (h2.kept fun g _ hl => hb.block g hl).mono fun g hg => ⟨hg.1, by have := hb.size; have := hg.2; omega⟩⟩
structure MV (w0 wX : World) (nm : List UInt8) (E : Ex) (q v : Value) (R : Value → World → Prop) (L : Nat → Bool) (φ : Nat → Value) (W : World) : Prop where
  bel : L 9 = false → Below wX.heap.size wX W
  s0 : L 10 = false → φ 8 = q
  s6 : L 6 = true → L 8 = false → ∃ sl, φ 44 = .agg #[.int .i64 E.kind, .int .i64 E.a, .int .i64 E.b, .string ⟨E.name.toArray⟩, sl] ∧ TrX w0 wX E W sl
  s7 : L 7 = true → L 8 = false → ∃ sl, φ 45 = .agg #[.string ⟨nm.toArray⟩, .int .i64 E.kind, .int .i64 E.a, .int .i64 E.b, .string ⟨E.name.toArray⟩, sl] ∧ TrX w0 wX E W sl
  s8 : L 8 = true → L 9 = false → ∃ sl g, φ 46 = .slice (some ⟨g, 0, none⟩) 1 1 ∧ W.heap[g]? = some (.cells #[.string ⟨nm.toArray⟩, .int .i64 E.kind, .int .i64 E.a, .int .i64 E.b, .string ⟨E.name.toArray⟩, sl] 33 (0, 0)) ∧ TrX w0 wX E W sl
  s9 : L 9 = true → φ 47 = v ∧ R v W
  s10 : L 10 = true → φ 8 = v
section
variable {w0 wX W W' : World} {nm : List UInt8} {E : Ex} {q v : Value} {R : Value → World → Prop} {L : Nat → Bool} {φ : Nat → Value}
theorem orV {i k : Nat} {b : Bool} (hne : i ≠ k) : (decide (i = k) || b) = b := by simp [hne]
theorem MV.on (h : MV w0 wX nm E q v R L φ W) (i s : Nat) (u : Value) (hi : decide (i ∉ [6, 7, 8, 9, 10]) = true) (hs : decide (s ∉ [8, 44, 45, 46, 47]) = true) : MV w0 wX nm E q v R (fun k => decide (i = k) || L k) (putF φ (some s) u) W := by
  have hi := of_decide_eq_true hi
  have hs := of_decide_eq_true hs
  simp at hi hs
  obtain ⟨i6, i7, i8, i9, i10⟩ := hi
  obtain ⟨t8, t44, t45, t46, t47⟩ := hs
  refine ⟨fun r => ?_, fun r => ?_, fun r s => ?_, fun r s => ?_, fun r s => ?_, fun r => ?_, fun r => ?_⟩
  · rw [orV i9] at r; exact h.bel r
  · rw [orV i10] at r; rw [putF_ne t8]; exact h.s0 r
  · rw [orV i6] at r; rw [orV i8] at s; rw [putF_ne t44]; exact h.s6 r s
  · rw [orV i7] at r; rw [orV i8] at s; rw [putF_ne t45]; exact h.s7 r s
  · rw [orV i8] at r; rw [orV i9] at s; rw [putF_ne t46]; exact h.s8 r s
  · rw [orV i9] at r; rw [putF_ne t47]; exact h.s9 r
  · rw [orV i10] at r; rw [putF_ne t8]; exact h.s10 r
theorem MV.c6 (h : MV w0 wX nm E q v R L φ W) (h7 : L 7 = false) (h8 : L 8 = false) (h9 : L 9 = false) (h10 : L 10 = false) (sl : Value) (ht : TrX w0 wX E W' sl) (hb : Below W.heap.size W W') : MV w0 wX nm E q v R (fun k => decide (6 = k) || L k) (putF φ (some 44) (.agg #[.int .i64 E.kind, .int .i64 E.a, .int .i64 E.b, .string ⟨E.name.toArray⟩, sl])) W' := by
  have hbw := h.bel h9
  refine ⟨fun _ => hbw.trans (hb.mono hbw.size), fun r => ?_, fun _ _ => ⟨sl, putF_eq, ht⟩, fun r s => ?_, fun r s => ?_, fun r => ?_, fun r => ?_⟩
  · rw [putF_ne (by decide)]; exact h.s0 h10
  · rw [orV (by decide), h7] at r; cases r
  · rw [orV (by decide), h8] at r; cases r
  · rw [orV (by decide), h9] at r; cases r
  · rw [orV (by decide), h10] at r; cases r
theorem MV.c7 (h : MV w0 wX nm E q v R L φ W) (h8 : L 8 = false) (h9 : L 9 = false) (h10 : L 10 = false) (sl : Value) (ht : TrX w0 wX E W sl) : MV w0 wX nm E q v R (fun k => decide (7 = k) || L k) (putF φ (some 45) (.agg #[.string ⟨nm.toArray⟩, .int .i64 E.kind, .int .i64 E.a, .int .i64 E.b, .string ⟨E.name.toArray⟩, sl])) W := by
  refine ⟨fun _ => h.bel h9, fun r => ?_, fun r s => ?_, fun _ _ => ⟨sl, putF_eq, ht⟩, fun r s => ?_, fun r => ?_, fun r => ?_⟩
  · rw [putF_ne (by decide)]; exact h.s0 h10
  · rw [orV (by decide)] at r; rw [putF_ne (by decide)]; exact h.s6 r h8
  · rw [orV (by decide), h8] at r; cases r
  · rw [orV (by decide), h9] at r; cases r
  · rw [orV (by decide), h10] at r; cases r
theorem MV.c8 (h : MV w0 wX nm E q v R L φ W) (h9 : L 9 = false) (h10 : L 10 = false) (sl : Value) (ht : TrX w0 wX E W sl) : MV w0 wX nm E q v R (fun k => decide (8 = k) || L k) (putF φ (some 46) (.slice (some ⟨W.heap.size, 0, none⟩) 1 1)) (W.alloc (.cells #[.string ⟨nm.toArray⟩, .int .i64 E.kind, .int .i64 E.a, .int .i64 E.b, .string ⟨E.name.toArray⟩, sl] 33)) := by
  have hbw := h.bel h9
  have hb := (Below.refl W.heap.size W).alloc (Nat.le_refl _) (.cells #[.string ⟨nm.toArray⟩, .int .i64 E.kind, .int .i64 E.a, .int .i64 E.b, .string ⟨E.name.toArray⟩, sl] 33)
  refine ⟨fun _ => hbw.trans (hb.mono hbw.size), fun r => ?_, fun r s => ?_, fun r s => ?_, fun _ _ => ⟨sl, _, putF_eq, heap_alloc_new W _, ht.below hb⟩, fun r => ?_, fun r => ?_⟩
  · rw [putF_ne (by decide)]; exact h.s0 h10
  · simp at s
  · simp at s
  · rw [orV (by decide), h9] at r; cases r
  · rw [orV (by decide), h10] at r; cases r
theorem MV.c9 (h : MV w0 wX nm E q v R L φ W) (h8 : L 8 = true) (h10 : L 10 = false) (v' : Value) (hR : R v' W') : MV w0 wX nm E q v' R (fun k => decide (9 = k) || L k) (putF φ (some 47) v') W' := by
  refine ⟨fun r => by simp at r, fun r => ?_, fun r s => ?_, fun r s => ?_, fun r s => by simp at s, fun _ => ⟨putF_eq, hR⟩, fun r => ?_⟩
  · rw [putF_ne (by decide)]; exact h.s0 h10
  · rw [orV (by decide), h8] at s; cases s
  · rw [orV (by decide), h8] at s; cases s
  · rw [orV (by decide), h10] at r; cases r
theorem MV.c10 (h : MV w0 wX nm E q v R L φ W) (h8 : L 8 = true) (h9 : L 9 = true) : MV w0 wX nm E q v R (fun k => decide (10 = k) || L k) (putF φ (some 8) v) W := by
  refine ⟨fun r => ?_, fun r => by simp at r, fun r s => ?_, fun r s => ?_, fun r s => ?_, fun _ => ?_, fun _ => putF_eq⟩
  · rw [orV (by decide), h9] at r; cases r
  · rw [orV (by decide), h8] at s; cases s
  · rw [orV (by decide), h8] at s; cases s
  · rw [orV (by decide), h9] at s; cases s
  · rw [putF_ne (by decide)]; exact h.s9 h9
end
set_option maxRecDepth 100000 in
set_option maxHeartbeats 16000000 in
theorem mnames_walk (us : List (Ru × Value)) (v : Value) (rl day : Int) (w : World) (h : InR w v us) (hPT : PT2 w) :
    Calls Tryz.prog 3 #[v, .int .i64 rl, .int .i64 day] w fun e w' => e = .returned (.bool true) ∧ Below w.heap.size w w' := by
  obtain ⟨l, hl⟩ : ∃ l, us.map (fun p => p.1) = l := ⟨_, rfl⟩
  obtain ⟨n, hn⟩ : ∃ n, us.length = n := ⟨_, rfl⟩
  have hll : l.length = n := by rw [← hl, List.length_map, hn]
  obtain ⟨pv, cv, rfl⟩ := h.form
  have hlt := h.len
  rw [hn] at h hlt ⊢
  have bA : Below w.heap.size w ((w.alloc (.cells #[.slice pv n cv] 22)).alloc (.cells #[.int .i64 rl] 3)) := ((Below.refl _ _).alloc (Nat.le_refl _) _).alloc (by simp) _
  have nL : ((w.alloc (.cells #[.slice pv n cv] 22)).alloc (.cells #[.int .i64 rl] 3)).heap[w.heap.size]? = some (.cells #[.slice pv n cv] 22 (0, 0)) := by (repeat (first | refine blk_old _ _ _ (by simp only [size_alloc]; omega) ?_ | exact blk_new _ _ _ (by first | rfl | simp only [size_alloc])))
  have nR : ((w.alloc (.cells #[.slice pv n cv] 22)).alloc (.cells #[.int .i64 rl] 3)).heap[w.heap.size + 1]? = some (.cells #[.int .i64 rl] 3 (0, 0)) := by (repeat (first | refine blk_old _ _ _ (by simp only [size_alloc]; omega) ?_ | exact blk_new _ _ _ (by first | rfl | simp only [size_alloc])))
  generalize hwA : (w.alloc (.cells #[.slice pv n cv] 22)).alloc (.cells #[.int .i64 rl] 3) = wA at *
  have c0 := alive6_any wA (hPT.below bA)
  have HI := hid5 h
  have HL := hid5 hl
  have HLL := hid5 hll
  have HN := hid5 hn
  have HBA := hid5 bA
  have hn1 : (n : Int) < 9223372036854775808 := by omega
  have hn0 : (0 : Int) ≤ (n : Int) := by omega
  clear h hPT hl hll hn bA
  go_enter Tryz.func3, Tryz.ntmps3
  go_wp2_with fail
  refine c0.mono ?_
  rintro e wB ⟨rfl, b0⟩
  have hbB := HBA.out.trans (b0.mono HBA.out.size)
  have nLB := (b0.block _ (lt_of_block nL)).trans nL
  have nRB := (b0.block _ (lt_of_block nR)).trans nR
  have zl := (cell_of_row _ _ 0 _ _ _ nLB).trans rfl
  have zr := (cell_of_row _ _ 0 _ _ _ nRB).trans rfl
  clear c0 b0 nL nR hwA HBA
  by_cases hr0 : rl < 0
  · have HB := hid5 hbB
    clear hbB
    go_wp2_with fail
    go_ret
    exact ⟨rfl, HB.out⟩
  by_cases hrn : (n : Int) ≤ rl
  · have HB := hid5 hbB
    clear hbB
    go_wp2_with fail
    go_ret
    exact ⟨rfl, HB.out⟩
  have cC := chk_any us _ wB (HI.out.below hbB)
  rw [HL.out] at cC
  obtain ⟨er, her⟩ : ∃ q, (chkW l).1 = q := ⟨_, rfl⟩
  obtain ⟨at0, hat⟩ : ∃ q : Int, ((chkW l).2 : Int) = q := ⟨_, rfl⟩
  rw [her, hat] at cC
  have HER := hid5 her
  clear her hat
  go_upto_region 3 with fail
  by_cases he : er = 0
  case neg =>
    have hne : (er != 0) = true := by simpa using he
    clear he
    go_wp2_with fail
    refine cC.mono ?_
    rintro e wC ⟨rfl, b1⟩
    have HB := hid5 (hbB.trans (b1.mono hbB.size))
    clear cC b1 hbB
    go_wp2_with fail
    go_ret
    exact ⟨rfl, HB.out⟩
  have hne : (er != 0) = false := by rw [he]; rfl
  replace HER : Hid ((chkW l).1 = 0) := HER.out.trans he
  clear he
  go_wp2_with fail
  refine cC.mono ?_
  rintro e wC ⟨rfl, b1⟩
  have hbC := hbB.trans (b1.mono hbB.size)
  have nLC := (b1.block _ (lt_of_block nLB)).trans nLB
  have nRC := (b1.block _ (lt_of_block nRB)).trans nRB
  clear cC b1 hbB nLB nRB zl zr
  go_upto_if 30 with fail
  refine wp_cond_split rfl (fun h => ?_) (fun _ => ?_)
  · have h' : (decide (rl < 0) || decide ((n : Int) ≤ rl)) = true := h
    rw [Bool.or_eq_true, decide_eq_true_eq, decide_eq_true_eq] at h'
    omega
  have zl := (cell_of_row _ _ 0 _ _ _ nLC).trans rfl
  have zr := (cell_of_row _ _ 0 _ _ _ nRC).trans rfl
  obtain ⟨gp, hgp⟩ : ∃ g, g = wC.heap.size := ⟨_, rfl⟩
  have bF := (Below.refl wC.heap.size wC).alloc (Nat.le_refl _) (.cells #[.nilFunc] 28)
  have nF := heap_alloc_new wC (.cells #[.nilFunc] 28)
  rw [← hgp] at nF
  have sF : (wC.alloc (.cells #[.nilFunc] 28)).heap.size = gp + 1 := by rw [hgp]; simp
  generalize hwF : wC.alloc (.cells #[.nilFunc] 28) = wF at *
  have mF : (wF.setCell ⟨gp, 0, none⟩ (.func (Fn.func 7) #[] #[.pointer (some ⟨w.heap.size, 0, none⟩), .pointer (some ⟨w.heap.size + 1, 0, none⟩), .pointer (some ⟨gp, 0, none⟩)])).heap[gp]? = some (.cells #[.func (Fn.func 7) #[] #[.pointer (some ⟨w.heap.size, 0, none⟩), .pointer (some ⟨w.heap.size + 1, 0, none⟩), .pointer (some ⟨gp, 0, none⟩)]] 28 (0, 0)) := (heap_setCell_same wF gp 0 _ _ _ nF).trans rfl
  have zf := (cell_of_row _ _ 0 _ _ _ nF).trans rfl
  have xf := frozen_of_row _ _ 0 _ _ nF
  have bP := bF.setCell (p := ⟨gp, 0, none⟩) (by show wC.heap.size ≤ gp; omega) (.func (Fn.func 7) #[] #[.pointer (some ⟨w.heap.size, 0, none⟩), .pointer (some ⟨w.heap.size + 1, 0, none⟩), .pointer (some ⟨gp, 0, none⟩)])
  have hmf : ∀ (fn : Fn) (first cap : Array Value) (w : World), (Instr.makeFunc fn first cap).run Tryz.prog w = .ok (.func fn first cap) w := fun _ _ _ _ => rfl
  generalize hwP : wF.setCell ⟨gp, 0, none⟩ (.func (Fn.func 7) #[] #[.pointer (some ⟨w.heap.size, 0, none⟩), .pointer (some ⟨w.heap.size + 1, 0, none⟩), .pointer (some ⟨gp, 0, none⟩)]) = wP at *
  have hbP := hbC.trans (bP.mono hbC.size)
  have nLP := (bP.block _ (lt_of_block nLC)).trans nLC
  have nRP := (bP.block _ (lt_of_block nRC)).trans nRC
  have pl := (cell_of_row _ _ 0 _ _ _ nLP).trans rfl
  have pr := (cell_of_row _ _ 0 _ _ _ nRP).trans rfl
  have pf := (cell_of_row _ _ 0 _ _ _ mF).trans rfl
  obtain ⟨r, hr⟩ : ∃ r : Nat, rl = (r : Int) := ⟨rl.toNat, by omega⟩
  have hrl : r < us.length := by rw [HN.out]; omega
  obtain ⟨⟨ur, sk⟩, hur⟩ : ∃ p, us[r]? = some p := ⟨us[r], List.getElem?_eq_getElem hrl⟩
  have hurl : l[r]? = some ur := by rw [← HL.out, List.getElem?_map, hur]; rfl
  have hinP := HI.out.below hbP
  obtain ⟨nu1, nu2, dE, hdE⟩ := hinP.all _ (List.mem_of_getElem? hur)
  dsimp only at nu1 nu2 hdE
  obtain ⟨ps, cs0, rfl⟩ := hdE.form
  have HPB : Hid (PtB wP us pv cv r ur ps cs0 dE w.heap.size (w.heap.size + 1) gp wP) := ⟨Below.refl _ _, by rw [HN.out]; exact hinP, hur, nu2, hdE, by rw [HN.out]; exact pl, by rw [← hr]; exact pr, pf⟩
  have HURL := hid5 hurl
  have HNU := hid5 nu2
  have HBP := hid5 hbP
  have h40 : l.length ≤ 40 := (wrong_nms (chk_lk2 HER.out).1).1
  have h40n : n ≤ 40 := by rw [← HLL.out]; exact h40
  have HALL := hid5 (right_all (chk_lk2 HER.out).1)
  obtain ⟨i0, hi, hz0, hz1, hz2⟩ := info5 ruleInfoU
  have HR := hid5 hr
  clear hrl hur hurl hinP nu1 nu2 hdE hbP bP hbC bF h40 hr sF
  replace hgp := hgp.symm
  go_wp2_with fail
  clear zf xf hgp hwF hwP nF zl zr nLC nRC
  go_loopw [8, 10, 34] (fun q _ t wr => ∃ (j : Nat) (xs : List (Ru × Value)), t = .int .i64 (j : Int) ∧ j ≤ n ∧ RuS wP wP (sbL ur.1 ur.2 l) q j wr xs) (fun _ _ t _ => n - (intOf t).toNat)
  case atStart => exact ⟨0, [], rfl, by omega, ⟨rfl, World.ownsRow_nil _ _ _ _, (fun p hp => by cases hp), Below.refl _ _⟩⟩
  case round =>
    obtain ⟨j, xs, rfl, hj, hru⟩ := hrel
    have hj0 : (0 : Int) ≤ (j : Int) := by omega
    have hbr := hru.bel
    have hbw := HBP.out.trans (hbr.mono HBP.out.size)
    by_cases hjn : j < n
    · obtain ⟨q, hq⟩ : ∃ q, u8 = q := ⟨_, rfl⟩
      have hlt' : (j : Int) < (n : Int) := by omega
      obtain ⟨⟨u, sk⟩, hjk⟩ : ∃ p, us[j]? = some p := ⟨us[j]'(by rw [HN.out]; exact hjn), List.getElem?_eq_getElem _⟩
      have hul : l[j]? = some u := by rw [← HL.out, List.getElem?_map, hjk]; rfl
      have hir := HI.out.below hbw
      have hir' := hir
      rw [← HN.out] at hir'
      obtain ⟨gr, o, hpe, d0, d1, d2, d3, d4, d5⟩ := hir'.cells j _ hjk
      obtain ⟨hnu, hnk, dk, hdk⟩ := hir.all _ (List.mem_of_getElem? hjk)
      dsimp only at d0 d1 d2 d3 d4 d5 hdk hnu hnk
      obtain ⟨qs, cs, rfl⟩ := hdk.form
      subst hpe
      obtain ⟨E, hE⟩ : ∃ E, sbE ur.1 ur.2 u.2 = E := ⟨_, rfl⟩
      have HNE : Hid (E.name.length ≤ 9223372036854775807) := by
        show _ ≤ _
        rw [← hE, sbE_eq]
        split
        · exact HNU.out
        · exact hnk
      have HLS : Hid ((sbL ur.1 ur.2 l)[j]? = some (u.1, E)) := by
        show _ = _
        rw [sbL_at hul, hE]
      have HNM := hid5 hnu
      have bX := (Below.refl wr.heap.size wr).alloc (Nat.le_refl _) (.cells #[.string ⟨u.1.toArray⟩, .int .i64 u.2.kind, .int .i64 u.2.a, .int .i64 u.2.b, .string ⟨u.2.name.toArray⟩, .slice qs u.2.kids.length cs] 33)
      have nX := heap_alloc_new wr (.cells #[.string ⟨u.1.toArray⟩, .int .i64 u.2.kind, .int .i64 u.2.a, .int .i64 u.2.b, .string ⟨u.2.name.toArray⟩, .slice qs u.2.kids.length cs] 33)
      obtain ⟨gX, hgX⟩ : ∃ g, g = wr.heap.size := ⟨_, rfl⟩
      rw [← hgX] at nX
      generalize hwX : wr.alloc (.cells #[.string ⟨u.1.toArray⟩, .int .i64 u.2.kind, .int .i64 u.2.a, .int .i64 u.2.b, .string ⟨u.2.name.toArray⟩, .slice qs u.2.kids.length cs] 33) = wX at *
      have r0 := (cell_of_row _ _ 0 _ _ _ nX).trans rfl
      have r1 := (cell_of_row _ _ 1 _ _ _ nX).trans rfl
      have r2 := (cell_of_row _ _ 2 _ _ _ nX).trans rfl
      have r3 := (cell_of_row _ _ 3 _ _ _ nX).trans rfl
      have r4 := (cell_of_row _ _ 4 _ _ _ nX).trans rfl
      have r5 := (cell_of_row _ _ 5 _ _ _ nX).trans rfl
      have hbPX := hbr.trans (bX.mono hbr.size)
      have hpbX := HPB.out.below hbPX
      have fp := hpbX.cp
      have hdX := (hdk.kept fun g _ hl => bX.block g hl).mono fun g (hg : g < wr.heap.size) => Nat.lt_of_lt_of_le hg bX.size
      have hok : OKE u.2 := HALL.out u (List.mem_of_getElem? hul)
      have cP : ∀ W, Below wX.heap.size wX W → Calls Tryz.prog 7 #[.agg #[.int .i64 u.2.kind, .int .i64 u.2.a, .int .i64 u.2.b, .string ⟨u.2.name.toArray⟩, .slice qs u.2.kids.length cs], .pointer (some ⟨w.heap.size, 0, none⟩), .pointer (some ⟨w.heap.size + 1, 0, none⟩), .pointer (some ⟨gp, 0, none⟩)] W (OutPt wP E W) := fun W hW => by
        rw [← hE]
        exact put_any wP us _ cv r ur ps cs0 dE w.heap.size (w.heap.size + 1) gp dk u.2 _ W (hpbX.below hW) hok hnk ((hdX.kept fun g _ hl => hW.block g hl).mono fun g hg => Nat.lt_of_lt_of_le hg hW.size)
      have HW0P : Hid (wP.heap.size ≤ wP.heap.size) := Nat.le_refl _
      have HBX := hid5 bX
      have HRU := hid5 hru
      rw [hq] at HRU ⊢
      clear hul hir hir' hjk hdk hnu hnk hpbX hdX hok hbPX bX hru hbr hbw hq
      replace hgX := hgX.symm
      go_wp2_with fail
      clear hgX
      refine wp_region_Z (fun L φ W => ∃ v, MV wP wX u.1 E q v (fun v W => ∃ ys, RuS wP wP (sbL ur.1 ur.2 l) v (j + 1) W ys) L φ W) (fun L hL => ⟨undef, (fun _ => (Below.refl _ _).drew), (fun _ => rfl), (fun e => by rw [hL 6 (by decide)] at e; cases e), (fun e => by rw [hL 7 (by decide)] at e; cases e), (fun e => by rw [hL 8 (by decide)] at e; cases e), (fun e => by rw [hL 9 (by decide)] at e; cases e), (fun e => by rw [hL 10 (by decide)] at e; cases e)⟩) (by kernel_rfl) (by kernel_rfl) (by kernel_rfl) (by kernel_rfl) [(some 38, some q), (some 39, some (.pointer (some ⟨gX, 0, none⟩))), (some 40, some (.string ⟨u.1.toArray⟩)), (some 41, some (.func (Fn.func 7) #[] #[.pointer (some ⟨w.heap.size, 0, none⟩), .pointer (some ⟨w.heap.size + 1, 0, none⟩), .pointer (some ⟨gp, 0, none⟩)])), (some 42, some (.pointer (some ⟨gX, 1, none⟩))), (some 43, some (.agg #[.int .i64 u.2.kind, .int .i64 u.2.a, .int .i64 u.2.b, .string ⟨u.2.name.toArray⟩, .slice qs u.2.kids.length cs])), (some 44, none), (some 45, none), (some 46, none), (some 47, none), (some 8, none)] (by kernel_rfl) (by kernel_rfl) [38, 39, 40, 41, 42, 43, 44, 45, 46, 47, 8] (by kernel_rfl) ?_ ?_
      · intro i' d' x' o' L A W2 ho hv hLi hdep hc hJ hkept hhas
        obtain ⟨v0, hJ⟩ := hJ
        match i', ho, hv, hLi with
        | 0, ho, hv, hLi =>
          cases Option.some.inj ho
          cases Option.some.inj hv
          have h10 : L 10 = false := by
            cases hq : L 10 with
            | false => rfl
            | true =>
              have := hc 10 _ rfl hq ⟨0, .phase⟩ (by simp) rfl
              rw [hLi] at this; cases this
          have h8 : A.tmps[8]?.getD undef = q := (gd A 8).trans (hJ.s0 h10)
          refine wpOp_step rfl (fun K hK => ?_)
          go_simp
          exact hK _ _ ⟨_, rfl, fun u hu => by cases Option.some.inj hu; rfl, v0, hJ.on 0 38 _ (by decide) (by decide)⟩
        | 1, ho, hv, hLi =>
          cases Option.some.inj ho
          cases Option.some.inj hv
          have h10 : A.tmps[10]?.getD undef = .pointer (some ⟨gX, 0, none⟩) := (gd A 10).trans (hkept 10 (by kernel_rfl))
          refine wpOp_step rfl (fun K hK => ?_)
          go_simp
          exact hK _ _ ⟨_, rfl, fun u hu => by cases Option.some.inj hu; rfl, v0, hJ.on 1 39 _ (by decide) (by decide)⟩
        | 2, ho, hv, hLi =>
          cases Option.some.inj ho
          cases Option.some.inj hv
          have h7 : L 7 = false := by
            cases hq : L 7 with
            | false => rfl
            | true =>
              have := hc 7 _ rfl hq ⟨2, .data⟩ (by simp) rfl
              rw [hLi] at this; cases this
          have h8 : L 8 = false := by
            cases hq : L 8 with
            | false => rfl
            | true =>
              have := hc 8 _ rfl hq ⟨7, .data⟩ (by simp) rfl
              rw [h7] at this; cases this
          have h9 : L 9 = false := by
            cases hq : L 9 with
            | false => rfl
            | true =>
              have := hc 9 _ rfl hq ⟨8, .data⟩ (by simp) rfl
              rw [h8] at this; cases this
          have h39 : A.tmps[39]?.getD undef = .pointer (some ⟨gX, 0, none⟩) := (gd A 39).trans (hhas 1 39 _ rfl (hdep ⟨1, .data⟩ (by simp) rfl))
          have c0 := ((hJ.bel h9).cell (block_lt_of_cell r0)).trans r0
          refine wpOp_step rfl (fun K hK => ?_)
          go_simp
          exact hK _ _ ⟨_, rfl, fun u hu => by cases Option.some.inj hu; rfl, v0, hJ.on 2 40 _ (by decide) (by decide)⟩
        | 3, ho, hv, hLi =>
          cases Option.some.inj ho
          cases Option.some.inj hv
          have h6 : L 6 = false := by
            cases hq : L 6 with
            | false => rfl
            | true =>
              have := hc 6 _ rfl hq ⟨3, .data⟩ (by simp) rfl
              rw [hLi] at this; cases this
          have h7 : L 7 = false := by
            cases hq : L 7 with
            | false => rfl
            | true =>
              have := hc 7 _ rfl hq ⟨6, .data⟩ (by simp) rfl
              rw [h6] at this; cases this
          have h8 : L 8 = false := by
            cases hq : L 8 with
            | false => rfl
            | true =>
              have := hc 8 _ rfl hq ⟨7, .data⟩ (by simp) rfl
              rw [h7] at this; cases this
          have h9 : L 9 = false := by
            cases hq : L 9 with
            | false => rfl
            | true =>
              have := hc 9 _ rfl hq ⟨8, .data⟩ (by simp) rfl
              rw [h8] at this; cases this
          have h7x : A.tmps[7]?.getD undef = .pointer (some ⟨gp, 0, none⟩) := (gd A 7).trans (hkept 7 (by kernel_rfl))
          have c0 := ((hJ.bel h9).cell (block_lt_of_cell fp)).trans fp
          refine wpOp_step rfl (fun K hK => ?_)
          go_simp
          exact hK _ _ ⟨_, rfl, fun u hu => by cases Option.some.inj hu; rfl, v0, hJ.on 3 41 _ (by decide) (by decide)⟩
        | 4, ho, hv, hLi =>
          cases Option.some.inj ho
          cases Option.some.inj hv
          have h10 : A.tmps[10]?.getD undef = .pointer (some ⟨gX, 0, none⟩) := (gd A 10).trans (hkept 10 (by kernel_rfl))
          refine wpOp_step rfl (fun K hK => ?_)
          go_simp
          exact hK _ _ ⟨_, rfl, fun u hu => by cases Option.some.inj hu; rfl, v0, hJ.on 4 42 _ (by decide) (by decide)⟩
        | 5, ho, hv, hLi =>
          cases Option.some.inj ho
          cases Option.some.inj hv
          have h6 : L 6 = false := by
            cases hq : L 6 with
            | false => rfl
            | true =>
              have := hc 6 _ rfl hq ⟨5, .data⟩ (by simp) rfl
              rw [hLi] at this; cases this
          have h7 : L 7 = false := by
            cases hq : L 7 with
            | false => rfl
            | true =>
              have := hc 7 _ rfl hq ⟨6, .data⟩ (by simp) rfl
              rw [h6] at this; cases this
          have h8 : L 8 = false := by
            cases hq : L 8 with
            | false => rfl
            | true =>
              have := hc 8 _ rfl hq ⟨7, .data⟩ (by simp) rfl
              rw [h7] at this; cases this
          have h9 : L 9 = false := by
            cases hq : L 9 with
            | false => rfl
            | true =>
              have := hc 9 _ rfl hq ⟨8, .data⟩ (by simp) rfl
              rw [h8] at this; cases this
          have h42 : A.tmps[42]?.getD undef = .pointer (some ⟨gX, 1, none⟩) := (gd A 42).trans (hhas 4 42 _ rfl (hdep ⟨4, .data⟩ (by simp) rfl))
          have c1 := ((hJ.bel h9).cell (block_lt_of_cell r1)).trans r1
          have c2 := ((hJ.bel h9).cell (block_lt_of_cell r2)).trans r2
          have c3 := ((hJ.bel h9).cell (block_lt_of_cell r3)).trans r3
          have c4 := ((hJ.bel h9).cell (block_lt_of_cell r4)).trans r4
          have c5 := ((hJ.bel h9).cell (block_lt_of_cell r5)).trans r5
          refine wpOp_step rfl (fun K hK => ?_)
          go_simp
          exact hK _ _ ⟨_, rfl, fun u hu => by cases Option.some.inj hu; rfl, v0, hJ.on 5 43 _ (by decide) (by decide)⟩
        | 6, ho, hv, hLi =>
          cases Option.some.inj ho
          cases Option.some.inj hv
          have h7 : L 7 = false := by
            cases hq : L 7 with
            | false => rfl
            | true =>
              have := hc 7 _ rfl hq ⟨6, .data⟩ (by simp) rfl
              rw [hLi] at this; cases this
          have h8 : L 8 = false := by
            cases hq : L 8 with
            | false => rfl
            | true =>
              have := hc 8 _ rfl hq ⟨7, .data⟩ (by simp) rfl
              rw [h7] at this; cases this
          have h9 : L 9 = false := by
            cases hq : L 9 with
            | false => rfl
            | true =>
              have := hc 9 _ rfl hq ⟨8, .data⟩ (by simp) rfl
              rw [h8] at this; cases this
          have h10 : L 10 = false := by
            cases hq : L 10 with
            | false => rfl
            | true =>
              have := hc 10 _ rfl hq ⟨9, .data⟩ (by simp) rfl
              rw [h9] at this; cases this
          have h41 : A.tmps[41]?.getD undef = .func (Fn.func 7) #[] #[.pointer (some ⟨w.heap.size, 0, none⟩), .pointer (some ⟨w.heap.size + 1, 0, none⟩), .pointer (some ⟨gp, 0, none⟩)] := (gd A 41).trans (hhas 3 41 _ rfl (hdep ⟨3, .data⟩ (by simp) rfl))
          have h43 : A.tmps[43]?.getD undef = .agg #[.int .i64 u.2.kind, .int .i64 u.2.a, .int .i64 u.2.b, .string ⟨u.2.name.toArray⟩, .slice qs u.2.kids.length cs] := (gd A 43).trans (hhas 5 43 _ rfl (hdep ⟨5, .data⟩ (by simp) rfl))
          have hbJ := hJ.bel h9
          have cc := cP W2 hbJ
          refine wpOp_step rfl (fun K hK => ?_)
          go_simp
          refine cc.mono ?_
          rintro r' W' ⟨sl, rfl, ⟨D, hT⟩, hb'⟩
          unfold exV
          exact hK _ _ ⟨_, rfl, fun u hu => by (cases hu), v0, hJ.c6 h7 h8 h9 h10 sl ⟨hT.form, D, hT.mono fun g hg => ⟨hg.1.imp id fun k => Nat.le_trans hbJ.size k, hg.2⟩⟩ hb'⟩
        | 7, ho, hv, hLi =>
          cases Option.some.inj ho
          cases Option.some.inj hv
          have h8 : L 8 = false := by
            cases hq : L 8 with
            | false => rfl
            | true =>
              have := hc 8 _ rfl hq ⟨7, .data⟩ (by simp) rfl
              rw [hLi] at this; cases this
          have h9 : L 9 = false := by
            cases hq : L 9 with
            | false => rfl
            | true =>
              have := hc 9 _ rfl hq ⟨8, .data⟩ (by simp) rfl
              rw [h8] at this; cases this
          have h10 : L 10 = false := by
            cases hq : L 10 with
            | false => rfl
            | true =>
              have := hc 10 _ rfl hq ⟨9, .data⟩ (by simp) rfl
              rw [h9] at this; cases this
          obtain ⟨sl, e44, ht⟩ := hJ.s6 (hdep ⟨6, .data⟩ (by simp) rfl) h8
          have h40 : A.tmps[40]?.getD undef = .string ⟨u.1.toArray⟩ := (gd A 40).trans (hhas 2 40 _ rfl (hdep ⟨2, .data⟩ (by simp) rfl))
          have h44 : A.tmps[44]?.getD undef = _ := (gd A 44).trans e44
          refine wpOp_step rfl (fun K hK => ?_)
          go_simp
          exact hK _ _ ⟨_, rfl, fun u hu => by (cases hu), v0, hJ.c7 h8 h9 h10 sl ht⟩
        | 8, ho, hv, hLi =>
          cases Option.some.inj ho
          cases Option.some.inj hv
          have h9 : L 9 = false := by
            cases hq : L 9 with
            | false => rfl
            | true =>
              have := hc 9 _ rfl hq ⟨8, .data⟩ (by simp) rfl
              rw [hLi] at this; cases this
          have h10 : L 10 = false := by
            cases hq : L 10 with
            | false => rfl
            | true =>
              have := hc 10 _ rfl hq ⟨9, .data⟩ (by simp) rfl
              rw [h9] at this; cases this
          obtain ⟨sl, e45, ht⟩ := hJ.s7 (hdep ⟨7, .data⟩ (by simp) rfl) hLi
          have h45 : A.tmps[45]?.getD undef = _ := (gd A 45).trans e45
          refine wpOp_step rfl (fun K hK => ?_)
          go_simp
          exact hK _ _ ⟨_, rfl, fun u hu => by (cases hu), v0, hJ.c8 h9 h10 sl ht⟩
        | 9, ho, hv, hLi =>
          cases Option.some.inj ho
          cases Option.some.inj hv
          have h10 : L 10 = false := by
            cases hq : L 10 with
            | false => rfl
            | true =>
              have := hc 10 _ rfl hq ⟨9, .data⟩ (by simp) rfl
              rw [hLi] at this; cases this
          have hd8 : L 8 = true := hdep ⟨8, .data⟩ (by simp) rfl
          obtain ⟨sl, g, e46, hg, hft, D, ht⟩ := hJ.s8 hd8 hLi
          obtain ⟨psl, csl, rfl⟩ := hft
          have h38 : A.eval (.tmp 38) = q := hhas 0 38 _ rfl (hdep ⟨0, .data⟩ (by simp) rfl)
          have h46 : A.eval (.tmp 46) = .slice (some ⟨g, 0, none⟩) 1 1 := e46
          have hbJ := hJ.bel hLi
          have hbr2 := HBX.out.trans (hbJ.mono HBX.out.size)
          have hownW := owns_keep (w' := W2) HRU.out.own fun b hb => hbr2.block b (HRU.out.own.lt b hb).2
          have hszP := HRU.out.bel.size
          have hszW := hbr2.size
          refine wpOp_step rfl (fun K hK => ?_)
          show Oper.wp _ _ _ _ _ _
          refine wp_append_fresh (.tmp 38) (.tmp 46) 22 rfl wP.heap.size 33 i0 (.agg #[.string ⟨#[]⟩, .int .i64 0, .int .i64 0, .int .i64 0, .string ⟨#[]⟩, .slice none 0 0]) 6 80 rulesTypeU hi hz0 hz1 hz2 rfl (by decide) q j (flatR xs) h38 hownW ⟨g, 0, none⟩ 1 [.string ⟨u.1.toArray⟩, .int .i64 E.kind, .int .i64 E.a, .int .i64 E.b, .string ⟨E.name.toArray⟩, .slice psl E.kids.length csl] h46 rfl ?c1 ?c2 ?c3 ?c4 ?c5 ?_
          case c1 =>
            intro jj u' hj
            match jj, hj with
            | 0, hj => simp at hj; subst hj; exact (cell_of_row _ _ _ _ _ _ hg).trans rfl
            | 1, hj => simp at hj; subst hj; exact (cell_of_row _ _ _ _ _ _ hg).trans rfl
            | 2, hj => simp at hj; subst hj; exact (cell_of_row _ _ _ _ _ _ hg).trans rfl
            | 3, hj => simp at hj; subst hj; exact (cell_of_row _ _ _ _ _ _ hg).trans rfl
            | 4, hj => simp at hj; subst hj; exact (cell_of_row _ _ _ _ _ _ hg).trans rfl
            | 5, hj => simp at hj; subst hj; exact (cell_of_row _ _ _ _ _ _ hg).trans rfl
          case c2 => intro u hu; simp at hu; rcases hu with rfl | rfl | rfl | rfl | rfl | rfl <;> rfl
          case c3 => unfold maxLen; omega
          case c4 => omega
          case c5 => omega
          intro v' w' hown' hgrow hfr
          have hsX := HBX.out.size
          exact hK _ _ ⟨_, rfl, fun u hu => by (cases hu), v', hJ.c9 hd8 h10 v' ⟨_, HRU.out.next hbr2 HLS.out HNM.out HNE.out (ht.mono fun k hk => ⟨hk.1.imp id fun r => Nat.le_trans hsX r, hk.2⟩) HW0P.out hown' hgrow hfr⟩⟩
        | 10, ho, hv, hLi =>
          cases Option.some.inj ho
          cases Option.some.inj hv
          have hd9 : L 9 = true := hdep ⟨9, .data⟩ (by simp) rfl
          have hd8 : L 8 = true := hc 9 _ rfl hd9 ⟨8, .data⟩ (by simp) rfl
          have h47 : A.tmps[47]?.getD undef = v0 := (gd A 47).trans (hJ.s9 hd9).1
          refine wpOp_step rfl (fun K hK => ?_)
          go_simp
          exact hK _ _ ⟨_, rfl, fun u hu => by (cases hu), v0, hJ.c10 hd8 hd9⟩
        | kk + 11, ho, hv, hLi => simp at hv
      · intro L A W2 hL hJ hhas hput
        obtain ⟨v, hJ⟩ := hJ
        obtain ⟨e47, ys, hys⟩ := hJ.s9 (hL 9 (by decide))
        have e8 := hJ.s10 (hL 10 (by decide))
        obtain ⟨q44, e44⟩ : ∃ q, A.tmps.getD 44 undef = q := ⟨_, rfl⟩
        obtain ⟨q45, e45⟩ : ∃ q, A.tmps.getD 45 undef = q := ⟨_, rfl⟩
        obtain ⟨q46, e46⟩ : ∃ q, A.tmps.getD 46 undef = q := ⟨_, rfl⟩
        have hA := hput [(38, q), (39, .pointer (some ⟨gX, 0, none⟩)), (40, .string ⟨u.1.toArray⟩), (41, .func (Fn.func 7) #[] #[.pointer (some ⟨w.heap.size, 0, none⟩), .pointer (some ⟨w.heap.size + 1, 0, none⟩), .pointer (some ⟨gp, 0, none⟩)]), (42, .pointer (some ⟨gX, 1, none⟩)), (43, .agg #[.int .i64 u.2.kind, .int .i64 u.2.a, .int .i64 u.2.b, .string ⟨u.2.name.toArray⟩, .slice qs u.2.kids.length cs]), (44, q44), (45, q45), (46, q46), (47, v), (8, v)] rfl (fun jj s u hj => match jj, hj with
          | 0, hj => by cases Option.some.inj hj; exact hhas 0 38 _ rfl
          | 1, hj => by cases Option.some.inj hj; exact hhas 1 39 _ rfl
          | 2, hj => by cases Option.some.inj hj; exact hhas 2 40 _ rfl
          | 3, hj => by cases Option.some.inj hj; exact hhas 3 41 _ rfl
          | 4, hj => by cases Option.some.inj hj; exact hhas 4 42 _ rfl
          | 5, hj => by cases Option.some.inj hj; exact hhas 5 43 _ rfl
          | 6, hj => by cases Option.some.inj hj; exact e44
          | 7, hj => by cases Option.some.inj hj; exact e45
          | 8, hj => by cases Option.some.inj hj; exact e46
          | 9, hj => by cases Option.some.inj hj; exact e47
          | 10, hj => by cases Option.some.inj hj; exact e8
          | kk + 11, hj => by simp at hj)
        subst hA
        simp only [putAll_cons, putAll_nil, Act.put, List.setIfInBounds_toArray, List.set_cons_succ, List.set_cons_zero]
        have HYS := hid5 hys
        clear hJ hput hhas hL e47 e8 e44 e45 e46 hys
        go_wp2_with fail
        go_roundw
        case rel => exact ⟨j + 1, ys, by go_num, by omega, HYS.out⟩
        case measure => simp [intOf]; omega
    · have ej : j = (sbL ur.1 ur.2 l).length := by rw [sbL_len, HLL.out]; omega
      have hlt' : ¬ (j : Int) < (n : Int) := by omega
      rw [ej] at hru
      obtain ⟨hin2, hmap2⟩ := hru.inR (by rw [sbL_len, HLL.out]; exact h40n)
      have c1 := mall_any us _ day wr (HI.out.below hbw)
      rw [HL.out] at c1
      unfold OutMe at c1
      have zl := (cell_of_row _ _ 0 _ _ _ ((hbr.block _ (lt_of_block nLP)).trans nLP)).trans rfl
      obtain ⟨er, her⟩ : ∃ q, (mflt l day).1 = q := ⟨_, rfl⟩
      obtain ⟨at0, hat⟩ : ∃ q : Int, ((mflt l day).2 : Int) = q := ⟨_, rfl⟩
      obtain ⟨fs, hfs⟩ : ∃ q, meanL l day = q := ⟨_, rfl⟩
      rw [her, hat, hfs] at c1
      have HE4 : Hid (er ≠ 4) := by
        show _ ≠ _
        rw [← her]
        unfold mflt
        rw [if_neg (show ¬ (chkW l).1 ≠ 0 by rw [HER.out]; decide)]
        split <;> decide
      have HS2 := hid5 (sb_all HER.out HURL.out day)
      have HMAP := hid5 hmap2
      have HIN2 := hid5 hin2
      obtain ⟨pq, cq, hqf⟩ := hin2.form
      have hxl : xs.length = n := by
        have h1 := congrArg List.length hmap2
        rw [List.length_map, sbL_len, HLL.out] at h1
        exact h1
      rw [hxl] at hqf
      subst hqf
      have HEE : Hid (er = (mflt l day).1 ∧ at0 = ((mflt l day).2 : Int) ∧ fs = meanL l day) := ⟨her.symm, hat.symm, hfs.symm⟩
      clear hru hin2 hmap2 her hat hfs HPB HALL hxl ej HI HL
      go_wp2_with fail
      refine c1.mono ?_
      rintro e w1 ⟨va, rfl, hra, b1⟩
      have hb1 := hbw.trans (b1.mono hbw.size)
      have bG := (Below.refl w1.heap.size w1).alloc (Nat.le_refl _) (.cells #[.int .i64 er, .int .i64 at0] 26)
      have n1 := heap_alloc_new w1 (.cells #[.int .i64 er, .int .i64 at0] 26)
      have hb2 := hb1.trans (bG.mono hb1.size)
      have Hra := hid5 (hra.below bG)
      have c2 := mall_any xs _ day _ ((HIN2.out.below b1).below bG)
      rw [HMAP.out] at c2
      unfold OutMe at c2
      clear c1 b1 hra HIN2 hbr hbw zl
      generalize hw2 : w1.alloc (.cells #[.int .i64 er, .int .i64 at0] 26) = w2 at *
      rcases HS2.out with h4 | ⟨e1, e2⟩
      · rw [h4] at c2
        obtain ⟨at1, hat1⟩ : ∃ q : Int, ((mflt (sbL ur.1 ur.2 l) day).2 : Int) = q := ⟨_, rfl⟩
        rw [hat1] at c2
        clear h4 hat1 HS2
        go_wp2_with fail
        refine c2.mono ?_
        rintro e w3 ⟨vb, rfl, hrb, b3⟩
        have hb3 := hb2.trans (b3.mono hb2.size)
        have hb4 := hb3.alloc hb3.size (.cells #[.int .i64 4, .int .i64 at1] 26)
        have n2 := heap_alloc_new w3 (.cells #[.int .i64 4, .int .i64 at1] 26)
        have HB4 := hid5 hb4
        clear c2 hrb b3 hb3 hb4 bG
        generalize hw4 : w3.alloc (.cells #[.int .i64 4, .int .i64 at1] 26) = w4 at *
        have y0 := (cell_of_row _ _ 0 _ _ _ n2).trans rfl
        go_wp2_with fail
        go_ret
        exact ⟨rfl, HB4.out⟩
      · rw [e1, e2, ← HEE.out.1, ← HEE.out.2.1, ← HEE.out.2.2] at c2
        have h4b : (er == 4) = false := by simpa using HE4.out
        clear e1 e2 HS2
        go_wp2_with fail
        refine c2.mono ?_
        rintro e w3 ⟨vb, rfl, hrb, b3⟩
        have hb3 := hb2.trans (b3.mono hb2.size)
        have b3a := hb3.alloc hb3.size (.cells #[.int .i64 er, .int .i64 at0] 26)
        have bx := (Below.refl w3.heap.size w3).alloc (Nat.le_refl _) (.cells #[.int .i64 er, .int .i64 at0] 26)
        have n2 := heap_alloc_new w3 (.cells #[.int .i64 er, .int .i64 at0] 26)
        have n1' := (bx.block _ (by have := lt_of_block n1; have := b3.size; omega)).trans ((b3.block _ (lt_of_block n1)).trans n1)
        generalize hw4 : w3.alloc (.cells #[.int .i64 er, .int .i64 at0] 26) = w4 at *
        have d3 := rsame_true fs va vb w4 ((Hra.out.below b3).below bx) (hrb.below bx)
        have y0 := (cell_of_row _ _ 0 _ _ _ n2).trans rfl
        clear c2 Hra hrb b3 n1 hw2 bx hb3 hb2 hb1 bG HEE HE4
        go_wp2_with (first
          | (refine wpList_load_row rfl 26 _ rfl _ rfl _ _ _ _ n1' faultT6u rfl (by kernel_rfl) ?_)
          | (refine wpList_load_row rfl 26 _ rfl _ rfl _ _ _ _ n2 faultT6u rfl (by kernel_rfl) ?_))
        refine d3.mono ?_
        rintro e w5 ⟨rfl, b5⟩
        have hb5 := b3a.trans (b5.mono b3a.size)
        clear d3 b5 b3a n1' n2 hw4
        go_wp2_with fail
        go_ret
        exact ⟨rfl, hb5⟩
end Go.Proofs.YtgfjbcdjpkcbkaaGreatDoor

/- What the condition on the two listed tables (months, names of days) gives the walks, and the start that meets it. -/
namespace Go.Proofs.YtgfjbcdjpkcbkaaGreatDoor
open Go.ChangeShapes Go.WideShapes Go.ChangeAt Go.WideMaps Go.WideElems Go.RowKit Go.Joins Lx
abbrev laid2 : List (String × DataW Unit) := Rows.meanShiftRow.laid
def lenName : String := (Rows.meanShiftRow.named.headD default)
def dayName : String := (Rows.meanShiftRow.named.getD 1 default)
theorem own : ownKnob Tryz.prog.godebug = none := by kernel_rfl
theorem gLen : Tryz.prog.globalNamed lenName = some 0 := by kernel_rfl
theorem tLen : (Tryz.prog.globals[0]?).map (·.type) = some 128 := by kernel_rfl
theorem gDay : Tryz.prog.globalNamed dayName = some 2 := by kernel_rfl
theorem tDay : (Tryz.prog.globals[2]?).map (·.type) = some 135 := by kernel_rfl
theorem c3 : Tryz.prog.cellsOf 3 = 1 := by kernel_rfl
theorem c34 : Tryz.prog.cellsOf 128 = 12 := by kernel_rfl
theorem cStr : Tryz.prog.cellsOf 9 = 1 := by kernel_rfl
theorem cDay : Tryz.prog.cellsOf 135 = 7 := by kernel_rfl
theorem door_met (os : Os) (args : Array Value) : laidMetH Tryz.prog laid2 ((World.doorLaid Tryz.prog 400 os).forCall (fun _ _ => 0) ⟨#[], args, []⟩).memory :=
  laidMetH_of_parts3 (fuel := 8) (laidMet_of_run' 8 (by kernel_rfl) (by kernel_rfl)) (by kernel_rfl) (by kernel_rfl)
theorem ctab_of_laid {W : World} (h : laidMetH Tryz.prog laid2 W) : CTab W := by
  rw [MakeChecks.laidMetH_plain _ _ _ (by kernel_rfl)] at h
  have t : Lib.TabIs Tryz.prog W lenName .i64 tab := Lib.tabIs_of_head (name := lenName) (rest := Rows.meanShiftRow.laid.tail) gLen tLen Tryz.underlying128 Tryz.underlying3 c3 c34 h
  intro i hi
  exact t.cell gLen i (by simpa [tab] using hi)
theorem str_cell {H : Type} {enc : TypeId × Value → H} {P : Program} {w : World} {base : Nat} {sp : Nat → Bool} {held : Bool} {t e : TypeId} {n : Nat} {cs : List Value} {zs : List (List UInt8)} {p : List MemPlace} (ht : P.underlying t = some (.array n e)) (he : P.underlying e = some .string) (hce : P.cellsOf e = 1) (hct : P.cellsOf t = n) :
    ∀ fuel, DataW.trod enc P w base sp held fuel t cs = some (.agg (zs.map fun z => .lit (.string z)), p) → ∀ (i : Nat) (z : List UInt8), zs[i]? = some z → cs[i]? = some (.string ⟨z.toArray⟩)
  | 0, h, _, _, _ => by simp [DataW.trod] at h
  | fuel + 1, h, i, z, hz => by
    simp only [DataW.trod, ht, hce, hct, Nat.mul_one] at h
    split at h
    · obtain ⟨xs, hm, hx⟩ := Option.map_eq_some_iff.1 h
      have h1 : xs.map (fun x => x.1) = zs.map fun z => (DataW.lit (.string z) : DataW H) := by simpa using congrArg Prod.fst hx
      have h2 : (xs.map fun x => x.1)[i]? = some (DataW.lit (.string z) : DataW H) := by rw [h1, List.getElem?_map, hz]; rfl
      rw [List.getElem?_map] at h2
      obtain ⟨x, hx1, hx2⟩ := Option.map_eq_some_iff.1 h2
      have hin : i < n := by
        have a := (List.getElem?_eq_some_iff.1 hx1).1
        have b := Lib.mapM_length hm
        simp at b; omega
      obtain ⟨b, hb, hf⟩ := Lib.mapM_at hm i i (by simp [hin])
      obtain ⟨s, hc, rfl, _⟩ := DataW.trod_string he hf
      rw [hb] at hx1
      obtain rfl := Option.some.inj hx1
      have hs : s.data.toList = z := by simpa using hx2
      have h3 := congrArg (fun l : List Value => l[0]?) hc
      have h4 : cs[i]? = some (.string s) := by simpa [List.getElem?_take, List.getElem?_drop] using h3
      rw [h4, ← hs]
    · cases h
theorem dtab_of_laid {W : World} (h : laidMetH Tryz.prog laid2 W) : DTab W := by
  rw [MakeChecks.laidMetH_plain _ _ _ (by kernel_rfl)] at h
  obtain ⟨ps, ⟨_, _, _, _, _, _, _, _, _, _, ⟨g, t, cs, fuel, p, q, hg, ht, hv, hd, _, _⟩, _⟩, _⟩ := h
  obtain rfl := Option.some.inj (gDay.symm.trans hg)
  obtain rfl := Option.some.inj (tDay.symm.trans ht)
  intro j hj
  have hz : wDays[j]? = some (wDays.getD j []) := by
    rw [List.getD_eq_getElem?_getD, List.getElem?_eq_getElem (by exact hj)]; rfl
  have hc := str_cell (zs := wDays) Tryz.underlying135 Tryz.underlying9 cStr cDay fuel hd j _ hz
  have := World.var?_cell gDay hv j
  rw [this]
  simpa using hc
end Go.Proofs.YtgfjbcdjpkcbkaaGreatDoor

/- How rules that came in read: the row of rules. -/
namespace Go.Proofs.YtgfjbcdjpkcbkaaGreatDoor
open Go.ChangeShapes Go.WideShapes Go.ChangeAt Go.WideMaps Go.WideElems Go.RowKit Go.Joins Lx
variable {H : Type} {enc : TypeId × Value → H} {W : World}
theorem six {α : Type} {l : List α} (h : l.length = 6) : ∃ a b c d e f, l = [a, b, c, d, e, f] := by
  match l, h with
  | [a, b, c, d, e, f], _ => exact ⟨a, b, c, d, e, f, rfl⟩
theorem pair2 {α : Type} {l : List α} (h : l.length = 2) : ∃ a b, l = [a, b] := by
  match l, h with
  | [a, b], _ => exact ⟨a, b, rfl⟩
set_option maxRecDepth 100000 in
theorem rule_parts {fuel : Nat} {cs : List Value} {y : DataW H × List MemPlace} (h : DataW.trod enc Tryz.prog W 0 (fun _ => true) true fuel 33 cs = some y) :
    ∃ (nm : ByteArray) (k a b : Int) (s : ByteArray) (sl : Value) (m : Nat) (z : DataW H × List MemPlace), cs = [.string nm, .int .i64 k, .int .i64 a, .int .i64 b, .string s, sl] ∧ nm.size ≤ maxLen ∧ s.size ≤ maxLen ∧ DataW.trod enc Tryz.prog W 0 (fun _ => true) true m 29 [sl] = some z := by
  obtain ⟨xs, m, hf, _, hl, hx, hall⟩ := DataW.trod_struct Tryz.underlying33 h
  rw [inR] at hl
  have hx2 : xs.length = 2 := hx
  obtain ⟨c0, c1, c2, c3, c4, c5, rfl⟩ := six hl
  obtain ⟨x0, x1, rfl⟩ := pair2 hx2
  have h0 : DataW.trod enc Tryz.prog W 0 (fun _ => true) true m 9 (([c0, c1, c2, c3, c4, c5].drop 0).take (Tryz.prog.cellsOf 9)) = some x0 := hall 0 _ rfl
  have h1 : DataW.trod enc Tryz.prog W 0 (fun _ => true) true m 31 (([c0, c1, c2, c3, c4, c5].drop 1).take (Tryz.prog.cellsOf 31)) = some x1 := hall 1 _ rfl
  rw [inS] at h0
  rw [inE] at h1
  obtain ⟨nm, e0, _, hn⟩ := DataW.trod_string Tryz.underlying9 h0
  obtain ⟨k, a, b, s, sl, m', z, _, e1, hs, ht⟩ := expr_parts h1
  simp at e0 e1
  obtain ⟨q1, q2, q3, q4, q5⟩ := e1
  subst e0 q1 q2 q3 q4 q5
  exact ⟨nm, k, a, b, s, c5, m', z, rfl, hn, hs, ht⟩
set_option maxRecDepth 100000 in
theorem open_rules {r : Reach} {b0 : Nat} {v : Value} {d : DataW H} {p : List MemPlace}
    (hv : Value.okWide Tryz.prog W r b0 22 v) (h : DataW.Trod enc Tryz.prog W 0 (fun _ => true) true 22 v d p) : ∃ us, InR W v us := by
  obtain ⟨ao, k0, c0, rfl⟩ := okWide_slice Tryz.underlying22 hv
  obtain ⟨fuel, hf⟩ := h
  have zero : ∀ (q : Option Addr) (c : Nat), ∃ us, InR W (.slice q 0 c) us := fun q c => ⟨[], .inl ⟨rfl, q, c, rfl⟩, by decide, fun p hp => by cases hp⟩
  rcases DataW.trod_slice Tryz.underlying22 hf with ⟨e, _⟩ | ⟨a, len, cap, elems, rest, m, _, e, _, _, hlc, hm, hlen, hel, _⟩
  · have e' : Value.slice ao k0 c0 = .slice none 0 0 := by simpa [Value.cells] using e
    rw [e']; exact zero _ _
  · have e' : Value.slice ao k0 c0 = .slice (some a) len cap := by simpa [Value.cells] using e
    rw [e']
    by_cases hz : len = 0
    · subst hz; exact zero _ _
    obtain ⟨g, o, s⟩ := a
    have spot : s = none := by
      have h1 := hel 0 (by omega)
      rw [inR] at h1
      have hy : elems[0]? = some (elems[0]'(by omega)) := List.getElem?_eq_getElem _
      rw [hy, Option.bind_eq_some_iff] at h1
      obtain ⟨cs', hc, ht⟩ := h1
      have q := (World.cells?_some hc).2.2 0 (by omega)
      have hl' := (World.cells?_some hc).2.1
      have e0 : cs'[0]? = some (cs'[0]'(by omega)) := List.getElem?_eq_getElem _
      rw [e0] at q
      have q' := World.cell?_spot q
      simpa [Addr.add] using q'
    subst spot
    have each : ∀ i, i < len → ∃ u : Ru × Value, RuleIn W u ∧
        W.cell? ⟨g, o + i * 6, none⟩ = some (.string ⟨u.1.1.toArray⟩) ∧ W.cell? ⟨g, o + i * 6 + 1, none⟩ = some (.int .i64 u.1.2.kind) ∧ W.cell? ⟨g, o + i * 6 + 2, none⟩ = some (.int .i64 u.1.2.a) ∧ W.cell? ⟨g, o + i * 6 + 3, none⟩ = some (.int .i64 u.1.2.b) ∧
        W.cell? ⟨g, o + i * 6 + 4, none⟩ = some (.string ⟨u.1.2.name.toArray⟩) ∧ W.cell? ⟨g, o + i * 6 + 5, none⟩ = some u.2 := by
      intro i hi
      have h1 := hel i hi
      rw [inR] at h1
      have hy : elems[i]? = some (elems[i]'(by omega)) := List.getElem?_eq_getElem _
      rw [hy, Option.bind_eq_some_iff] at h1
      obtain ⟨cs', hc, ht⟩ := h1
      obtain ⟨nm, k, a, b, x, sl, m', z, hcs, hn, hs, htk⟩ := rule_parts ht
      subst hcs
      have q := (World.cells?_some hc).2.2
      rw [in_add] at q
      have q0 := q 0 (by omega)
      have q1 := q 1 (by omega)
      have q2 := q 2 (by omega)
      have q3 := q 3 (by omega)
      have q4 := q 4 (by omega)
      have q5 := q 5 (by omega)
      simp only [in_add, Nat.add_zero] at q0 q1 q2 q3 q4 q5
      obtain ⟨sl', ks, esl, hkk⟩ := open_kids m' [sl] z htk
      have esl' : sl = sl' := by simpa using esl
      subst esl'
      refine ⟨((nm.data.toList, ⟨k, a, b, x.data.toList, ks⟩), sl), ⟨?_, ?_, m', hkk⟩, ?_, ?_, ?_, ?_, ?_, ?_⟩
      · show nm.data.toList.length ≤ _; rw [← Lib.size_eq]; unfold maxLen at hn; exact hn
      · show x.data.toList.length ≤ _; rw [← Lib.size_eq]; unfold maxLen at hs; exact hs
      · rw [str_list]; simpa using q0
      · simpa using q1
      · simpa using q2
      · simpa using q3
      · rw [str_list]; simpa using q4
      · simpa using q5
    let pick : Nat → Ru × Value := fun i => if h : i < len then Classical.choose (each i h) else (([], ex0), .slice none 0 0)
    have hpick : ∀ i (h : i < len), pick i = Classical.choose (each i h) := fun i h => by simp only [pick, h, dif_pos]
    have hat : ∀ (j : Nat) (u : Ru × Value), ((List.range len).map pick)[j]? = some u → ∃ h : j < len, u = Classical.choose (each j h) := fun j u hj => by
      have hjl : j < len := by
        have := (List.getElem?_eq_some_iff.1 hj).1
        simpa using this
      rw [List.getElem?_map, List.getElem?_range hjl] at hj
      exact ⟨hjl, (Option.some.inj hj).symm.trans (hpick j hjl)⟩
    have hl2 : len < 9223372036854775808 := by unfold maxLen at hm; omega
    refine ⟨(List.range len).map pick, .inr ⟨g, o, cap, by simp, by simpa using hl2, fun j u hj => ?_⟩, by simpa using hl2, fun u hu => ?_⟩
    · obtain ⟨hjl, e1⟩ := hat j u hj
      rw [e1]
      exact (Classical.choose_spec (each j hjl)).2
    · obtain ⟨j, hj⟩ := List.getElem?_of_mem hu
      obtain ⟨hjl, e1⟩ := hat j u hj
      rw [e1]
      exact (Classical.choose_spec (each j hjl)).1
end Go.Proofs.YtgfjbcdjpkcbkaaGreatDoor
