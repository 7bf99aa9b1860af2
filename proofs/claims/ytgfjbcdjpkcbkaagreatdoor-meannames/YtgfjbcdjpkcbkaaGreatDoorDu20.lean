/- The closure of MeanNames that writes a rule out in the place of its name. Written by genmu.py. -/
import Derived.Test.YtgfjbcdjpkcbkaaGreatDoorDu18
import Derived.Test.YtgfjbcdjpkcbkaaGreatDoorDu19
import Derived.Test.YtgfjbcdjpkcbkaaGreatDoorDu04
import Derived.Deep.CutRange
namespace Go.Proofs.YtgfjbcdjpkcbkaaGreatDoor
open Go.RowKit Lx Msk
def flatX : List (Ex × Value) → List Value
  | [] => []
  | p :: l => .int .i64 p.1.kind :: .int .i64 p.1.a :: .int .i64 p.1.b :: .string ⟨p.1.name.toArray⟩ :: p.2 :: flatX l
theorem flatX_snoc (p : Ex × Value) : ∀ l : List (Ex × Value), flatX (l ++ [p]) = flatX l ++ [.int .i64 p.1.kind, .int .i64 p.1.a, .int .i64 p.1.b, .string ⟨p.1.name.toArray⟩, p.2]
  | [] => rfl
  | q :: l => by simp [flatX, flatX_snoc p l]
theorem flatX_at : ∀ (us : List (Ex × Value)) (j : Nat) (p : Ex × Value), us[j]? = some p → (flatX us)[j * 5]? = some (.int .i64 p.1.kind) ∧ (flatX us)[j * 5 + 1]? = some (.int .i64 p.1.a) ∧ (flatX us)[j * 5 + 2]? = some (.int .i64 p.1.b) ∧ (flatX us)[j * 5 + 3]? = some (.string ⟨p.1.name.toArray⟩) ∧ (flatX us)[j * 5 + 4]? = some p.2
  | [], j, p, h => by simp at h
  | q :: us, 0, p, h => by
    have : q = p := by simpa using h
    subst this
    simp [flatX]
  | q :: us, j + 1, p, h => by
    have := flatX_at us j p (by simpa using h)
    have e : (j + 1) * 5 = j * 5 + 1 + 1 + 1 + 1 + 1 := by omega
    rw [e]
    simpa [flatX] using this
theorem owns_lowU {w : World} {B B' : Nat} {e : TypeId} {size : Nat} {v : Value} {n : Nat} {xs : List Value} (h : w.ownsRow B' e size v n xs) (hB : B ≤ B') : w.ownsRow B e size v n xs := by
  refine ⟨h.1, ?_⟩
  rcases h.2 with h2 | ⟨g, cap, cur, h1, h2, h3⟩
  · exact .inl h2
  · exact .inr ⟨g, cap, cur, h1, Nat.le_trans hB h2, h3⟩
theorem exprInfoU : (Tryz.prog.info? 31).map (fun i => (i.zero, i.size, i.bytes)) = some (some (.agg #[.int .i64 0, .int .i64 0, .int .i64 0, .string ⟨#[]⟩, .slice none 0 0]), 5, 64) := by kernel_rfl
theorem exprsTypeU : Tryz.prog.underlying 29 = some (.slice 31) := by kernel_rfl
theorem info5 {t : TypeId} {z : Value} {a b : Nat} (h : (Tryz.prog.info? t).map (fun i => (i.zero, i.size, i.bytes)) = some (some z, a, b)) : ∃ i, Tryz.prog.info? t = some i ∧ i.zero = some z ∧ i.size = a ∧ i.bytes = b := by
  cases hi : Tryz.prog.info? t with
  | none => rw [hi] at h; cases h
  | some i =>
    rw [hi] at h
    have h' := Option.some.inj h
    exact ⟨i, rfl, congrArg (fun x => x.1) h', congrArg (fun x => x.2.1) h', congrArg (fun x => x.2.2) h'⟩
theorem kids_of_owns {B : Nat → Prop} {D base : Nat} {w : World} {p : Option Addr} {c : Nat} {xs : List (Ex × Value)} (hl : xs.length < 9223372036854775808) (h : w.ownsRow base 31 5 (.slice p (xs.map (fun q => q.1)).length c) xs.length (flatX xs)) (hB : ∀ g, (Value.slice p (xs.map (fun q => q.1)).length c).ownBlock = some g → B g)
    (ht : ∀ q ∈ xs, q.1.name.length ≤ 9223372036854775807 ∧ KidsB B D w q.2 q.1.kids) : KidsB B (D + 1) w (.slice p (xs.map (fun q => q.1)).length c) (xs.map (fun q => q.1)) := by
  by_cases h0 : xs = []
  · subst h0
    exact .inl ⟨rfl, p, c, rfl⟩
  · have hpos : 0 < xs.length := List.length_pos_iff.2 h0
    obtain ⟨g, cap, hv, hc⟩ := own_slice h hpos
    injection hv with e1 e2 e3
    subst e1
    refine .inr ⟨g, 0, c, hB g rfl, rfl, by rw [List.length_map]; exact hl, fun j k hj => ?_⟩
    rw [List.getElem?_map] at hj
    obtain ⟨q, hq, rfl⟩ := Option.map_eq_some_iff.1 hj
    obtain ⟨f0, f1, f2, f3, f4⟩ := flatX_at xs j q hq
    obtain ⟨t1, t2⟩ := ht q (List.mem_of_getElem? hq)
    rw [Nat.zero_add]
    exact ⟨t1, q.2, hc _ _ f0, hc _ _ f1, hc _ _ f2, hc _ _ f3, hc _ _ f4, t2⟩
theorem oke_two {e : Ex} (h : OKE e) : e.kids.length ≤ 2 := by
  obtain ⟨_, _, hlen, _⟩ := h.kinds
  rw [hlen]
  unfold kidsP
  split
  · omega
  · split <;> omega
def OutPt (w0 : World) (E : Ex) (w : World) (r : Ending) (w' : World) : Prop := ∃ sl', r = .returned (exV E sl') ∧ (∃ D, KidsB (fun k => (k < w0.heap.size ∨ w.heap.size ≤ k) ∧ k < w'.heap.size) D w' sl' E.kids) ∧ Below w.heap.size w w'
structure PtB (w0 : World) (us : List (Ru × Value)) (pv : Option Addr) (cv : Nat) (r : Nat) (ur : Ru) (ps : Option Addr) (cs dE gl gr gp : Nat) (w : World) : Prop where
  bel : Below w0.heap.size w0 w
  rules : InR w (.slice pv us.length cv) us
  at_ : us[r]? = some (ur, .slice ps ur.2.kids.length cs)
  nmE : ur.2.name.length ≤ 9223372036854775807
  tree : KidsB (fun k => k < w0.heap.size) dE w (.slice ps ur.2.kids.length cs) ur.2.kids
  cl : w.cell? ⟨gl, 0, none⟩ = some (.slice pv us.length cv)
  cr : w.cell? ⟨gr, 0, none⟩ = some (.int .i64 (r : Int))
  cp : w.cell? ⟨gp, 0, none⟩ = some (.func (Fn.func 7) #[] #[.pointer (some ⟨gl, 0, none⟩), .pointer (some ⟨gr, 0, none⟩), .pointer (some ⟨gp, 0, none⟩)])
theorem PtB.below {w0 : World} {us : List (Ru × Value)} {pv : Option Addr} {cv : Nat} {r : Nat} {ur : Ru} {ps : Option Addr} {cs dE gl gr gp : Nat} {w w' : World} (h : PtB w0 us pv cv r ur ps cs dE gl gr gp w) (hb : Below w.heap.size w w') : PtB w0 us pv cv r ur ps cs dE gl gr gp w' :=
  ⟨h.bel.trans (hb.mono h.bel.size), h.rules.below hb, h.at_, h.nmE, h.tree.kept fun g _ hl => hb.block g hl, (hb.cell (block_lt_of_cell h.cl)).trans h.cl, (hb.cell (block_lt_of_cell h.cr)).trans h.cr, (hb.cell (block_lt_of_cell h.cp)).trans h.cp⟩
def PtRel (w0 wc : World) (ks : List Ex) (q t : Value) (wr : World) : Prop := ∃ (j : Nat) (xs : List (Ex × Value)) (D : Nat), t = .int .i64 (j : Int) ∧ j ≤ ks.length ∧ Hid (j = 0 → q = .slice none 0 0) ∧ xs.map (fun p => p.1) = ks.take j ∧ wr.ownsRow wc.heap.size 31 5 q j (flatX xs) ∧
  (∀ p ∈ xs, p.1.name.length ≤ 9223372036854775807 ∧ KidsB (fun k => ((k < w0.heap.size ∨ wc.heap.size ≤ k) ∧ k < wr.heap.size) ∧ (j < 2 → q.ownBlock ≠ some k)) D wr p.2 p.1.kids) ∧ Below wc.heap.size wc wr
set_option maxRecDepth 100000 in
set_option maxHeartbeats 8000000 in
theorem put_step (w0 : World) (us : List (Ru × Value)) (pv : Option Addr) (cv r : Nat) (ur : Ru) (ps : Option Addr) (cs dE gl gr gp : Nat) (e : Ex) (pe : Option Addr) (ce : Nat) (w : World) (hB : PtB w0 us pv cv r ur ps cs dE gl gr gp w) (hok : OKE e) (hnm : e.name.length ≤ 9223372036854775807)
    (hkk : ∀ (j : Nat) (k : Ex), e.kids[j]? = some k → ∃ (g o : Nat) (pk : Option Addr) (ck : Nat), pe = some ⟨g, o, none⟩ ∧ k.name.length ≤ 9223372036854775807 ∧
        w.cell? ⟨g, o + j * 5, none⟩ = some (.int .i64 k.kind) ∧ w.cell? ⟨g, o + j * 5 + 1, none⟩ = some (.int .i64 k.a) ∧ w.cell? ⟨g, o + j * 5 + 2, none⟩ = some (.int .i64 k.b) ∧
        w.cell? ⟨g, o + j * 5 + 3, none⟩ = some (.string ⟨k.name.toArray⟩) ∧ w.cell? ⟨g, o + j * 5 + 4, none⟩ = some (.slice pk k.kids.length ck) ∧
        ∀ W, Below w.heap.size w W → Calls Tryz.prog 7 #[exV k (.slice pk k.kids.length ck), .pointer (some ⟨gl, 0, none⟩), .pointer (some ⟨gr, 0, none⟩), .pointer (some ⟨gp, 0, none⟩)] W (OutPt w0 (sbE ur.1 ur.2 k) W)) :
    Calls Tryz.prog 7 #[exV e (.slice pe e.kids.length ce), .pointer (some ⟨gl, 0, none⟩), .pointer (some ⟨gr, 0, none⟩), .pointer (some ⟨gp, 0, none⟩)] w (OutPt w0 (sbE ur.1 ur.2 e) w) := by
  have HK := hid5 hkk
  have HPB := hid5 hB
  have HOK := hid5 hok
  have HNM := hid5 hnm
  obtain ⟨n, hn⟩ : ∃ n, us.length = n := ⟨_, rfl⟩
  have bA : Below w.heap.size w ((w.alloc (.cells #[.int .i64 e.kind, .int .i64 e.a, .int .i64 e.b, .string ⟨e.name.toArray⟩, .slice pe e.kids.length ce] 31)).alloc (.cells #[.int .i64 0, .int .i64 0, .int .i64 0, .string ⟨#[]⟩, .slice none 0 0] 31)) := ((Below.refl _ _).alloc (Nat.le_refl _) _).alloc (by simp) _
  have nE : ((w.alloc (.cells #[.int .i64 e.kind, .int .i64 e.a, .int .i64 e.b, .string ⟨e.name.toArray⟩, .slice pe e.kids.length ce] 31)).alloc (.cells #[.int .i64 0, .int .i64 0, .int .i64 0, .string ⟨#[]⟩, .slice none 0 0] 31)).heap[w.heap.size]? = some (.cells #[.int .i64 e.kind, .int .i64 e.a, .int .i64 e.b, .string ⟨e.name.toArray⟩, .slice pe e.kids.length ce] 31 (0, 0)) := by (repeat (first | refine blk_old _ _ _ (by simp only [size_alloc]; omega) ?_ | exact blk_new _ _ _ (by first | rfl | simp only [size_alloc])))
  have nR : ((w.alloc (.cells #[.int .i64 e.kind, .int .i64 e.a, .int .i64 e.b, .string ⟨e.name.toArray⟩, .slice pe e.kids.length ce] 31)).alloc (.cells #[.int .i64 0, .int .i64 0, .int .i64 0, .string ⟨#[]⟩, .slice none 0 0] 31)).heap[w.heap.size + 1]? = some (.cells #[.int .i64 0, .int .i64 0, .int .i64 0, .string ⟨#[]⟩, .slice none 0 0] 31 (0, 0)) := by (repeat (first | refine blk_old _ _ _ (by simp only [size_alloc]; omega) ?_ | exact blk_new _ _ _ (by first | rfl | simp only [size_alloc])))
  have sA : ((w.alloc (.cells #[.int .i64 e.kind, .int .i64 e.a, .int .i64 e.b, .string ⟨e.name.toArray⟩, .slice pe e.kids.length ce] 31)).alloc (.cells #[.int .i64 0, .int .i64 0, .int .i64 0, .string ⟨#[]⟩, .slice none 0 0] 31)).heap.size = w.heap.size + 1 + 1 := by simp
  unfold exV
  generalize hwA : (w.alloc (.cells #[.int .i64 e.kind, .int .i64 e.a, .int .i64 e.b, .string ⟨e.name.toArray⟩, .slice pe e.kids.length ce] 31)).alloc (.cells #[.int .i64 0, .int .i64 0, .int .i64 0, .string ⟨#[]⟩, .slice none 0 0] 31) = wA at *
  have k0 := (cell_of_row _ _ 0 _ _ _ nE).trans rfl
  have k3 := (cell_of_row _ _ 3 _ _ _ nE).trans rfl
  have HsA := hid5 sA
  have hBA := hB.below bA
  obtain ⟨gv, ov, hpv, d0, d1, d2, d3, d4, d5⟩ := (show InR wA (.slice pv us.length cv) us by rw [hn]; exact hn ▸ hBA.rules).cells r _ hB.at_
  dsimp only at d0 d1 d2 d3 d4 d5
  subst hpv
  have cl := hBA.cl
  have cr := hBA.cr
  have hrn : (r : Int) < (n : Int) := by
    have := (List.getElem?_eq_some_iff.1 hB.at_).1
    omega
  have hr0 : (0 : Int) ≤ (r : Int) := by omega
  rw [hn] at cl
  clear hkk hB sA hBA hok hnm
  have hq : ∀ b : Bool, (decide (e.kind = 10 ∧ e.name = ur.1) = b) → decide (e.kind = 10 ∧ e.name = ur.1) = b := fun _ h => h
  go_enter Tryz.func7, Tryz.ntmps7
  go_upto_region 1 with fail
  clear hq
  go_cut [21] from 9 to 21 (fun v wr => v = .bool (decide (e.kind = 10 ∧ e.name = ur.1)) ∧ Below wA.heap.size wA wr)
  case first =>
    by_cases hk : e.kind = 10
    · have hk1 : (e.kind == 10) = true := by rw [hk]; rfl
      by_cases hnn : e.name = ur.1
      · have hk2 : (e.name == ur.1) = true := by rw [hnn]; simp
        have HD : Hid (decide (e.kind = 10 ∧ e.name = ur.1) = true) := decide_eq_true (show e.kind = 10 ∧ e.name = ur.1 from ⟨hk, hnn⟩)
        clear hk hnn
        refine wp_region_vals (by kernel_rfl) (by kernel_rfl) (by kernel_rfl) (by kernel_rfl) [(9, .pointer (some ⟨w.heap.size, 0, none⟩)), (10, .int .i64 e.kind), (11, .bool true), (12, .bool true), (13, .pointer (some ⟨w.heap.size, 3, none⟩)), (14, .string ⟨e.name.toArray⟩), (15, .slice (some ⟨gv, ov, none⟩) n cv), (16, .int .i64 (r : Int)), (17, .pointer (some ⟨gv, ov + r * 6, none⟩)), (18, .pointer (some ⟨gv, ov + r * 6, none⟩)), (19, .string ⟨ur.1.toArray⟩), (20, .bool true), (21, .bool true)] (by kernel_rfl) (by kernel_rfl) ?_ ?_
        · intro i s v o L A W ho hv hdep hJ hkept hhas
          match i, ho, hv with
          | 0, ho, hv =>
            cases Option.some.inj ho
            cases Option.some.inj hv
            have h4 : A.tmps[4]?.getD undef = .pointer (some ⟨w.heap.size, 0, none⟩) := (gd A 4).trans (hkept 4 (by kernel_rfl))
            refine wpOp_step rfl (fun K hK => ?_)
            go_simp
            exact hK _ _ ⟨rfl, Below.refl _ _⟩
          | 1, ho, hv =>
            cases Option.some.inj ho
            cases Option.some.inj hv
            have h9 : A.tmps[9]?.getD undef = .pointer (some ⟨w.heap.size, 0, none⟩) := (gd A 9).trans (hhas 0 9 _ rfl (hdep ⟨0, .data⟩ (by simp) rfl))
            have qk0 := (hJ.cell (block_lt_of_cell k0)).trans k0
            refine wpOp_step rfl (fun K hK => ?_)
            go_simp
            exact hK _ _ ⟨rfl, Below.refl _ _⟩
          | 2, ho, hv =>
            cases Option.some.inj ho
            cases Option.some.inj hv
            have h10 : A.tmps[10]?.getD undef = .int .i64 e.kind := (gd A 10).trans (hhas 1 10 _ rfl (hdep ⟨1, .data⟩ (by simp) rfl))
            refine wpOp_step rfl (fun K hK => ?_)
            go_simp
            exact hK _ _ ⟨rfl, Below.refl _ _⟩
          | 3, ho, hv =>
            cases Option.some.inj ho
            cases Option.some.inj hv
            have h11 : A.tmps[11]?.getD undef = .bool true := (gd A 11).trans (hhas 2 11 _ rfl (hdep ⟨2, .data⟩ (by simp) rfl))
            refine wpOp_step rfl (fun K hK => ?_)
            go_simp
            exact hK _ _ ⟨rfl, Below.refl _ _⟩
          | 4, ho, hv =>
            cases Option.some.inj ho
            cases Option.some.inj hv
            have hG : A.tmps[12]? = some (.bool true) := gdb (hhas 3 12 _ rfl (hdep ⟨3, .guard⟩ (by simp) rfl))
            have h4 : A.tmps[4]?.getD undef = .pointer (some ⟨w.heap.size, 0, none⟩) := (gd A 4).trans (hkept 4 (by kernel_rfl))
            refine wpOp_step rfl (fun K hK => ?_)
            go_simp
            exact hK _ _ ⟨rfl, Below.refl _ _⟩
          | 5, ho, hv =>
            cases Option.some.inj ho
            cases Option.some.inj hv
            have hG : A.tmps[12]? = some (.bool true) := gdb (hhas 3 12 _ rfl (hdep ⟨3, .guard⟩ (by simp) rfl))
            have h13 : A.tmps[13]?.getD undef = .pointer (some ⟨w.heap.size, 3, none⟩) := (gd A 13).trans (hhas 4 13 _ rfl (hdep ⟨4, .data⟩ (by simp) rfl))
            have qk3 := (hJ.cell (block_lt_of_cell k3)).trans k3
            refine wpOp_step rfl (fun K hK => ?_)
            go_simp
            exact hK _ _ ⟨rfl, Below.refl _ _⟩
          | 6, ho, hv =>
            cases Option.some.inj ho
            cases Option.some.inj hv
            have hG : A.tmps[12]? = some (.bool true) := gdb (hhas 3 12 _ rfl (hdep ⟨3, .guard⟩ (by simp) rfl))
            have h1 : A.tmps[1]?.getD undef = .pointer (some ⟨gl, 0, none⟩) := (gd A 1).trans (hkept 1 (by kernel_rfl))
            have qcl := (hJ.cell (block_lt_of_cell cl)).trans cl
            refine wpOp_step rfl (fun K hK => ?_)
            go_simp
            exact hK _ _ ⟨rfl, Below.refl _ _⟩
          | 7, ho, hv =>
            cases Option.some.inj ho
            cases Option.some.inj hv
            have hG : A.tmps[12]? = some (.bool true) := gdb (hhas 3 12 _ rfl (hdep ⟨3, .guard⟩ (by simp) rfl))
            have h2 : A.tmps[2]?.getD undef = .pointer (some ⟨gr, 0, none⟩) := (gd A 2).trans (hkept 2 (by kernel_rfl))
            have qcr := (hJ.cell (block_lt_of_cell cr)).trans cr
            refine wpOp_step rfl (fun K hK => ?_)
            go_simp
            exact hK _ _ ⟨rfl, Below.refl _ _⟩
          | 8, ho, hv =>
            cases Option.some.inj ho
            cases Option.some.inj hv
            have hG : A.tmps[12]? = some (.bool true) := gdb (hhas 3 12 _ rfl (hdep ⟨3, .guard⟩ (by simp) rfl))
            have h15 : A.tmps[15]?.getD undef = .slice (some ⟨gv, ov, none⟩) n cv := (gd A 15).trans (hhas 6 15 _ rfl (hdep ⟨6, .data⟩ (by simp) rfl))
            have h16 : A.tmps[16]?.getD undef = .int .i64 (r : Int) := (gd A 16).trans (hhas 7 16 _ rfl (hdep ⟨7, .data⟩ (by simp) rfl))
            refine wpOp_step rfl (fun K hK => ?_)
            go_simp
            exact hK _ _ ⟨rfl, Below.refl _ _⟩
          | 9, ho, hv =>
            cases Option.some.inj ho
            cases Option.some.inj hv
            have hG : A.tmps[12]? = some (.bool true) := gdb (hhas 3 12 _ rfl (hdep ⟨3, .guard⟩ (by simp) rfl))
            have h17 : A.tmps[17]?.getD undef = .pointer (some ⟨gv, ov + r * 6, none⟩) := (gd A 17).trans (hhas 8 17 _ rfl (hdep ⟨8, .data⟩ (by simp) rfl))
            refine wpOp_step rfl (fun K hK => ?_)
            go_simp
            exact hK _ _ ⟨rfl, Below.refl _ _⟩
          | 10, ho, hv =>
            cases Option.some.inj ho
            cases Option.some.inj hv
            have hG : A.tmps[12]? = some (.bool true) := gdb (hhas 3 12 _ rfl (hdep ⟨3, .guard⟩ (by simp) rfl))
            have h18 : A.tmps[18]?.getD undef = .pointer (some ⟨gv, ov + r * 6, none⟩) := (gd A 18).trans (hhas 9 18 _ rfl (hdep ⟨9, .data⟩ (by simp) rfl))
            have qd0 := (hJ.cell (block_lt_of_cell d0)).trans d0
            refine wpOp_step rfl (fun K hK => ?_)
            go_simp
            exact hK _ _ ⟨rfl, Below.refl _ _⟩
          | 11, ho, hv =>
            cases Option.some.inj ho
            cases Option.some.inj hv
            have hG : A.tmps[12]? = some (.bool true) := gdb (hhas 3 12 _ rfl (hdep ⟨3, .guard⟩ (by simp) rfl))
            have h14 : A.tmps[14]?.getD undef = .string ⟨e.name.toArray⟩ := (gd A 14).trans (hhas 5 14 _ rfl (hdep ⟨5, .data⟩ (by simp) rfl))
            have h19 : A.tmps[19]?.getD undef = .string ⟨ur.1.toArray⟩ := (gd A 19).trans (hhas 10 19 _ rfl (hdep ⟨10, .data⟩ (by simp) rfl))
            refine wpOp_step rfl (fun K hK => ?_)
            go_simp
            exact hK _ _ ⟨rfl, Below.refl _ _⟩
          | 12, ho, hv =>
            cases Option.some.inj ho
            cases Option.some.inj hv
            have h12 : A.tmps[12]?.getD undef = .bool true := (gd A 12).trans (hhas 3 12 _ rfl (hdep ⟨3, .data⟩ (by simp) rfl))
            have h20 : A.tmps[20]?.getD undef = .bool true := (gd A 20).trans (hhas 11 20 _ rfl (hdep ⟨11, .data⟩ (by simp) rfl))
            refine wpOp_step rfl (fun K hK => ?_)
            go_simp
            exact hK _ _ ⟨rfl, Below.refl _ _⟩
          | k + 13, ho, hv => simp at ho
        · intro W hJ
          simp only [putAll_cons, putAll_nil]
          go_simp
          go_step
          go_meet
          case rel => exact ⟨by rw [HD.out], hJ⟩
      · have hk2 : (e.name == ur.1) = false := by simpa using hnn
        have HD : Hid (decide (e.kind = 10 ∧ e.name = ur.1) = false) := decide_eq_false (show ¬ (e.kind = 10 ∧ e.name = ur.1) from fun h => hnn h.2)
        clear hk hnn
        refine wp_region_vals (by kernel_rfl) (by kernel_rfl) (by kernel_rfl) (by kernel_rfl) [(9, .pointer (some ⟨w.heap.size, 0, none⟩)), (10, .int .i64 e.kind), (11, .bool true), (12, .bool true), (13, .pointer (some ⟨w.heap.size, 3, none⟩)), (14, .string ⟨e.name.toArray⟩), (15, .slice (some ⟨gv, ov, none⟩) n cv), (16, .int .i64 (r : Int)), (17, .pointer (some ⟨gv, ov + r * 6, none⟩)), (18, .pointer (some ⟨gv, ov + r * 6, none⟩)), (19, .string ⟨ur.1.toArray⟩), (20, .bool false), (21, .bool false)] (by kernel_rfl) (by kernel_rfl) ?_ ?_
        · intro i s v o L A W ho hv hdep hJ hkept hhas
          match i, ho, hv with
          | 0, ho, hv =>
            cases Option.some.inj ho
            cases Option.some.inj hv
            have h4 : A.tmps[4]?.getD undef = .pointer (some ⟨w.heap.size, 0, none⟩) := (gd A 4).trans (hkept 4 (by kernel_rfl))
            refine wpOp_step rfl (fun K hK => ?_)
            go_simp
            exact hK _ _ ⟨rfl, Below.refl _ _⟩
          | 1, ho, hv =>
            cases Option.some.inj ho
            cases Option.some.inj hv
            have h9 : A.tmps[9]?.getD undef = .pointer (some ⟨w.heap.size, 0, none⟩) := (gd A 9).trans (hhas 0 9 _ rfl (hdep ⟨0, .data⟩ (by simp) rfl))
            have qk0 := (hJ.cell (block_lt_of_cell k0)).trans k0
            refine wpOp_step rfl (fun K hK => ?_)
            go_simp
            exact hK _ _ ⟨rfl, Below.refl _ _⟩
          | 2, ho, hv =>
            cases Option.some.inj ho
            cases Option.some.inj hv
            have h10 : A.tmps[10]?.getD undef = .int .i64 e.kind := (gd A 10).trans (hhas 1 10 _ rfl (hdep ⟨1, .data⟩ (by simp) rfl))
            refine wpOp_step rfl (fun K hK => ?_)
            go_simp
            exact hK _ _ ⟨rfl, Below.refl _ _⟩
          | 3, ho, hv =>
            cases Option.some.inj ho
            cases Option.some.inj hv
            have h11 : A.tmps[11]?.getD undef = .bool true := (gd A 11).trans (hhas 2 11 _ rfl (hdep ⟨2, .data⟩ (by simp) rfl))
            refine wpOp_step rfl (fun K hK => ?_)
            go_simp
            exact hK _ _ ⟨rfl, Below.refl _ _⟩
          | 4, ho, hv =>
            cases Option.some.inj ho
            cases Option.some.inj hv
            have hG : A.tmps[12]? = some (.bool true) := gdb (hhas 3 12 _ rfl (hdep ⟨3, .guard⟩ (by simp) rfl))
            have h4 : A.tmps[4]?.getD undef = .pointer (some ⟨w.heap.size, 0, none⟩) := (gd A 4).trans (hkept 4 (by kernel_rfl))
            refine wpOp_step rfl (fun K hK => ?_)
            go_simp
            exact hK _ _ ⟨rfl, Below.refl _ _⟩
          | 5, ho, hv =>
            cases Option.some.inj ho
            cases Option.some.inj hv
            have hG : A.tmps[12]? = some (.bool true) := gdb (hhas 3 12 _ rfl (hdep ⟨3, .guard⟩ (by simp) rfl))
            have h13 : A.tmps[13]?.getD undef = .pointer (some ⟨w.heap.size, 3, none⟩) := (gd A 13).trans (hhas 4 13 _ rfl (hdep ⟨4, .data⟩ (by simp) rfl))
            have qk3 := (hJ.cell (block_lt_of_cell k3)).trans k3
            refine wpOp_step rfl (fun K hK => ?_)
            go_simp
            exact hK _ _ ⟨rfl, Below.refl _ _⟩
          | 6, ho, hv =>
            cases Option.some.inj ho
            cases Option.some.inj hv
            have hG : A.tmps[12]? = some (.bool true) := gdb (hhas 3 12 _ rfl (hdep ⟨3, .guard⟩ (by simp) rfl))
            have h1 : A.tmps[1]?.getD undef = .pointer (some ⟨gl, 0, none⟩) := (gd A 1).trans (hkept 1 (by kernel_rfl))
            have qcl := (hJ.cell (block_lt_of_cell cl)).trans cl
            refine wpOp_step rfl (fun K hK => ?_)
            go_simp
            exact hK _ _ ⟨rfl, Below.refl _ _⟩
          | 7, ho, hv =>
            cases Option.some.inj ho
            cases Option.some.inj hv
            have hG : A.tmps[12]? = some (.bool true) := gdb (hhas 3 12 _ rfl (hdep ⟨3, .guard⟩ (by simp) rfl))
            have h2 : A.tmps[2]?.getD undef = .pointer (some ⟨gr, 0, none⟩) := (gd A 2).trans (hkept 2 (by kernel_rfl))
            have qcr := (hJ.cell (block_lt_of_cell cr)).trans cr
            refine wpOp_step rfl (fun K hK => ?_)
            go_simp
            exact hK _ _ ⟨rfl, Below.refl _ _⟩
          | 8, ho, hv =>
            cases Option.some.inj ho
            cases Option.some.inj hv
            have hG : A.tmps[12]? = some (.bool true) := gdb (hhas 3 12 _ rfl (hdep ⟨3, .guard⟩ (by simp) rfl))
            have h15 : A.tmps[15]?.getD undef = .slice (some ⟨gv, ov, none⟩) n cv := (gd A 15).trans (hhas 6 15 _ rfl (hdep ⟨6, .data⟩ (by simp) rfl))
            have h16 : A.tmps[16]?.getD undef = .int .i64 (r : Int) := (gd A 16).trans (hhas 7 16 _ rfl (hdep ⟨7, .data⟩ (by simp) rfl))
            refine wpOp_step rfl (fun K hK => ?_)
            go_simp
            exact hK _ _ ⟨rfl, Below.refl _ _⟩
          | 9, ho, hv =>
            cases Option.some.inj ho
            cases Option.some.inj hv
            have hG : A.tmps[12]? = some (.bool true) := gdb (hhas 3 12 _ rfl (hdep ⟨3, .guard⟩ (by simp) rfl))
            have h17 : A.tmps[17]?.getD undef = .pointer (some ⟨gv, ov + r * 6, none⟩) := (gd A 17).trans (hhas 8 17 _ rfl (hdep ⟨8, .data⟩ (by simp) rfl))
            refine wpOp_step rfl (fun K hK => ?_)
            go_simp
            exact hK _ _ ⟨rfl, Below.refl _ _⟩
          | 10, ho, hv =>
            cases Option.some.inj ho
            cases Option.some.inj hv
            have hG : A.tmps[12]? = some (.bool true) := gdb (hhas 3 12 _ rfl (hdep ⟨3, .guard⟩ (by simp) rfl))
            have h18 : A.tmps[18]?.getD undef = .pointer (some ⟨gv, ov + r * 6, none⟩) := (gd A 18).trans (hhas 9 18 _ rfl (hdep ⟨9, .data⟩ (by simp) rfl))
            have qd0 := (hJ.cell (block_lt_of_cell d0)).trans d0
            refine wpOp_step rfl (fun K hK => ?_)
            go_simp
            exact hK _ _ ⟨rfl, Below.refl _ _⟩
          | 11, ho, hv =>
            cases Option.some.inj ho
            cases Option.some.inj hv
            have hG : A.tmps[12]? = some (.bool true) := gdb (hhas 3 12 _ rfl (hdep ⟨3, .guard⟩ (by simp) rfl))
            have h14 : A.tmps[14]?.getD undef = .string ⟨e.name.toArray⟩ := (gd A 14).trans (hhas 5 14 _ rfl (hdep ⟨5, .data⟩ (by simp) rfl))
            have h19 : A.tmps[19]?.getD undef = .string ⟨ur.1.toArray⟩ := (gd A 19).trans (hhas 10 19 _ rfl (hdep ⟨10, .data⟩ (by simp) rfl))
            refine wpOp_step rfl (fun K hK => ?_)
            go_simp
            exact hK _ _ ⟨rfl, Below.refl _ _⟩
          | 12, ho, hv =>
            cases Option.some.inj ho
            cases Option.some.inj hv
            have h12 : A.tmps[12]?.getD undef = .bool true := (gd A 12).trans (hhas 3 12 _ rfl (hdep ⟨3, .data⟩ (by simp) rfl))
            have h20 : A.tmps[20]?.getD undef = .bool false := (gd A 20).trans (hhas 11 20 _ rfl (hdep ⟨11, .data⟩ (by simp) rfl))
            refine wpOp_step rfl (fun K hK => ?_)
            go_simp
            exact hK _ _ ⟨rfl, Below.refl _ _⟩
          | k + 13, ho, hv => simp at ho
        · intro W hJ
          simp only [putAll_cons, putAll_nil]
          go_simp
          go_step
          go_meet
          case rel => exact ⟨by rw [HD.out], hJ⟩
    · have hk1 : (e.kind == 10) = false := by simpa using hk
      have HD : Hid (decide (e.kind = 10 ∧ e.name = ur.1) = false) := decide_eq_false (show ¬ (e.kind = 10 ∧ e.name = ur.1) from fun h => hk h.1)
      clear hk
      refine wp_region_vals (by kernel_rfl) (by kernel_rfl) (by kernel_rfl) (by kernel_rfl) [(9, .pointer (some ⟨w.heap.size, 0, none⟩)), (10, .int .i64 e.kind), (11, .bool false), (12, .bool false), (13, undef), (14, undef), (15, undef), (16, undef), (17, undef), (18, undef), (19, undef), (20, undef), (21, .bool false)] (by kernel_rfl) (by kernel_rfl) ?_ ?_
      · intro i s v o L A W ho hv hdep hJ hkept hhas
        match i, ho, hv with
        | 0, ho, hv =>
          cases Option.some.inj ho
          cases Option.some.inj hv
          have h4 : A.tmps[4]?.getD undef = .pointer (some ⟨w.heap.size, 0, none⟩) := (gd A 4).trans (hkept 4 (by kernel_rfl))
          refine wpOp_step rfl (fun K hK => ?_)
          go_simp
          exact hK _ _ ⟨rfl, Below.refl _ _⟩
        | 1, ho, hv =>
          cases Option.some.inj ho
          cases Option.some.inj hv
          have h9 : A.tmps[9]?.getD undef = .pointer (some ⟨w.heap.size, 0, none⟩) := (gd A 9).trans (hhas 0 9 _ rfl (hdep ⟨0, .data⟩ (by simp) rfl))
          have qk0 := (hJ.cell (block_lt_of_cell k0)).trans k0
          refine wpOp_step rfl (fun K hK => ?_)
          go_simp
          exact hK _ _ ⟨rfl, Below.refl _ _⟩
        | 2, ho, hv =>
          cases Option.some.inj ho
          cases Option.some.inj hv
          have h10 : A.tmps[10]?.getD undef = .int .i64 e.kind := (gd A 10).trans (hhas 1 10 _ rfl (hdep ⟨1, .data⟩ (by simp) rfl))
          refine wpOp_step rfl (fun K hK => ?_)
          go_simp
          exact hK _ _ ⟨rfl, Below.refl _ _⟩
        | 3, ho, hv =>
          cases Option.some.inj ho
          cases Option.some.inj hv
          have h11 : A.tmps[11]?.getD undef = .bool false := (gd A 11).trans (hhas 2 11 _ rfl (hdep ⟨2, .data⟩ (by simp) rfl))
          refine wpOp_step rfl (fun K hK => ?_)
          go_simp
          exact hK _ _ ⟨rfl, Below.refl _ _⟩
        | 4, ho, hv =>
          cases Option.some.inj ho
          cases Option.some.inj hv
          have hG : A.tmps[12]? = some (.bool false) := gdb (hhas 3 12 _ rfl (hdep ⟨3, .guard⟩ (by simp) rfl))
          refine wpOp_step rfl (fun K hK => ?_)
          go_simp
          exact hK _ _ ⟨rfl, Below.refl _ _⟩
        | 5, ho, hv =>
          cases Option.some.inj ho
          cases Option.some.inj hv
          have hG : A.tmps[12]? = some (.bool false) := gdb (hhas 3 12 _ rfl (hdep ⟨3, .guard⟩ (by simp) rfl))
          refine wpOp_step rfl (fun K hK => ?_)
          go_simp
          exact hK _ _ ⟨rfl, Below.refl _ _⟩
        | 6, ho, hv =>
          cases Option.some.inj ho
          cases Option.some.inj hv
          have hG : A.tmps[12]? = some (.bool false) := gdb (hhas 3 12 _ rfl (hdep ⟨3, .guard⟩ (by simp) rfl))
          refine wpOp_step rfl (fun K hK => ?_)
          go_simp
          exact hK _ _ ⟨rfl, Below.refl _ _⟩
        | 7, ho, hv =>
          cases Option.some.inj ho
          cases Option.some.inj hv
          have hG : A.tmps[12]? = some (.bool false) := gdb (hhas 3 12 _ rfl (hdep ⟨3, .guard⟩ (by simp) rfl))
          refine wpOp_step rfl (fun K hK => ?_)
          go_simp
          exact hK _ _ ⟨rfl, Below.refl _ _⟩
        | 8, ho, hv =>
          cases Option.some.inj ho
          cases Option.some.inj hv
          have hG : A.tmps[12]? = some (.bool false) := gdb (hhas 3 12 _ rfl (hdep ⟨3, .guard⟩ (by simp) rfl))
          refine wpOp_step rfl (fun K hK => ?_)
          go_simp
          exact hK _ _ ⟨rfl, Below.refl _ _⟩
        | 9, ho, hv =>
          cases Option.some.inj ho
          cases Option.some.inj hv
          have hG : A.tmps[12]? = some (.bool false) := gdb (hhas 3 12 _ rfl (hdep ⟨3, .guard⟩ (by simp) rfl))
          refine wpOp_step rfl (fun K hK => ?_)
          go_simp
          exact hK _ _ ⟨rfl, Below.refl _ _⟩
        | 10, ho, hv =>
          cases Option.some.inj ho
          cases Option.some.inj hv
          have hG : A.tmps[12]? = some (.bool false) := gdb (hhas 3 12 _ rfl (hdep ⟨3, .guard⟩ (by simp) rfl))
          refine wpOp_step rfl (fun K hK => ?_)
          go_simp
          exact hK _ _ ⟨rfl, Below.refl _ _⟩
        | 11, ho, hv =>
          cases Option.some.inj ho
          cases Option.some.inj hv
          have hG : A.tmps[12]? = some (.bool false) := gdb (hhas 3 12 _ rfl (hdep ⟨3, .guard⟩ (by simp) rfl))
          refine wpOp_step rfl (fun K hK => ?_)
          go_simp
          exact hK _ _ ⟨rfl, Below.refl _ _⟩
        | 12, ho, hv =>
          cases Option.some.inj ho
          cases Option.some.inj hv
          have h12 : A.tmps[12]?.getD undef = .bool false := (gd A 12).trans (hhas 3 12 _ rfl (hdep ⟨3, .data⟩ (by simp) rfl))
          refine wpOp_step rfl (fun K hK => ?_)
          go_simp
          exact hK _ _ ⟨rfl, Below.refl _ _⟩
        | k + 13, ho, hv => simp at ho
      · intro W hJ
        simp only [putAll_cons, putAll_nil]
        go_simp
        go_step
        go_meet
        case rel => exact ⟨by rw [HD.out], hJ⟩
  case rest =>
  obtain ⟨rfl, hbc⟩ := hcut
  have nEc := (hbc.block _ (lt_of_block nE)).trans nE
  have nRc := (hbc.block _ (lt_of_block nR)).trans nR
  have hbw := bA.trans (hbc.mono bA.size)
  by_cases hm : e.kind = 10 ∧ e.name = ur.1
  · have HS : Hid (sbE ur.1 ur.2 e = ur.2) := by
      show _ = _
      rw [sbE_eq, if_pos hm]
    rw [decide_eq_true hm]
    have f1 := (hbc.cell (block_lt_of_cell d1)).trans d1
    have f2 := (hbc.cell (block_lt_of_cell d2)).trans d2
    have f3 := (hbc.cell (block_lt_of_cell d3)).trans d3
    have f4 := (hbc.cell (block_lt_of_cell d4)).trans d4
    have f5 := (hbc.cell (block_lt_of_cell d5)).trans d5
    have fl := (hbc.cell (block_lt_of_cell cl)).trans cl
    have fr := (hbc.cell (block_lt_of_cell cr)).trans cr
    have hwr := below_setRow hbw (show w.heap.size ≤ w.heap.size + 1 by omega) #[.int .i64 ur.2.kind, .int .i64 ur.2.a, .int .i64 ur.2.b, .string ⟨ur.2.name.toArray⟩, .slice ps ur.2.kids.length cs]
    have HO : Hid (OutPt w0 (sbE ur.1 ur.2 e) w (.returned (.agg #[.int .i64 ur.2.kind, .int .i64 ur.2.a, .int .i64 ur.2.b, .string ⟨ur.2.name.toArray⟩, .slice ps ur.2.kids.length cs])) (wc.setRow (w.heap.size + 1) #[.int .i64 ur.2.kind, .int .i64 ur.2.a, .int .i64 ur.2.b, .string ⟨ur.2.name.toArray⟩, .slice ps ur.2.kids.length cs])) := by
      rw [HS.out]
      refine ⟨_, rfl, ⟨dE, (((HPB.out.tree).kept fun g _ hl => hwr.block g hl).mono fun g hg => ?_)⟩, hwr⟩
      exact ⟨.inl hg, Nat.lt_of_lt_of_le (Nat.lt_of_lt_of_le hg HPB.out.bel.size) hwr.size⟩
    clear HK HPB HOK HNM HS hm d0 d1 d2 d3 d4 d5 cl cr k0 k3 nE nR hwA hwr
    go_wp2_with (refine wpList_store_row rfl 31 _ _ rfl _ _ rfl rfl _ _ nRc (by kernel_rfl) (by rfl) (by simp [Value.oneCell']) ?_)
    refine bodyPost_ret (v := .agg #[.int .i64 ur.2.kind, .int .i64 ur.2.a, .int .i64 ur.2.b, .string ⟨ur.2.name.toArray⟩, .slice ps ur.2.kids.length cs]) ?_ rfl HO.out
    exact results_cell_row rfl _ _ (w.heap.size + 1) _ _ _ _ rfl (setRow_heap _ _ _ _ _ _ nRc) exprType5 rfl (by kernel_rfl)
  · have HS : Hid (sbE ur.1 ur.2 e = ⟨e.kind, e.a, e.b, e.name, e.kids.map (sbE ur.1 ur.2)⟩) := by
      show _ = _
      rw [sbE_eq, if_neg hm]
    rw [decide_eq_false hm]
    have hl2 := oke_two HOK.out
    have hl2I : (e.kids.length : Int) ≤ 2 := by omega
    have k4 := (cell_of_row _ _ 4 _ _ _ nEc).trans rfl
    have hszA : w.heap.size + 1 + 1 ≤ wc.heap.size := by have h1 := HsA.out; have h2 := hbc.size; omega
    obtain ⟨i0, hi, hz0, hz1, hz2⟩ := info5 exprInfoU
    clear hm d0 d1 d2 d3 d4 d5 cl cr k0 k3 nE nR hwA hbc HOK HsA bA
    go_wp2_with fail
    clear k4
    go_loopw [6, 8, 30] (fun q _ t wr => PtRel w0 wc (e.kids.map (sbE ur.1 ur.2)) q t wr) (fun _ _ t _ => e.kids.length - (intOf t).toNat)
    case atStart => exact ⟨0, [], 0, rfl, by simp, fun _ => rfl, rfl, World.ownsRow_nil _ _ _ _, (fun p hp => by cases hp), Below.refl _ _⟩
    case round =>
      obtain ⟨j, xs, D, rfl, hj, HNIL, hxs, hown, htr, hbr⟩ := hrel
      rw [List.length_map] at hj
      have hj0 : (0 : Int) ≤ (j : Int) := by omega
      have hbwr := hbw.trans (hbr.mono hbw.size)
      by_cases hlt : j < e.kids.length
      · have hlt' : (j : Int) < (e.kids.length : Int) := by omega
        obtain ⟨k, hjk⟩ : ∃ k, e.kids[j]? = some k := ⟨e.kids[j], List.getElem?_eq_getElem hlt⟩
        obtain ⟨g, o, pk, ck, hpe, hnk, c0, c1, c2, c3, c4, cK⟩ := HK.out j k hjk
        subst hpe
        have f0 := (hbwr.cell (block_lt_of_cell c0)).trans c0
        have f1 := (hbwr.cell (block_lt_of_cell c1)).trans c1
        have f2 := (hbwr.cell (block_lt_of_cell c2)).trans c2
        have f3 := (hbwr.cell (block_lt_of_cell c3)).trans c3
        have f4 := (hbwr.cell (block_lt_of_cell c4)).trans c4
        have bX := (Below.refl wr.heap.size wr).alloc (Nat.le_refl _) (.cells #[.int .i64 k.kind, .int .i64 k.a, .int .i64 k.b, .string ⟨k.name.toArray⟩, .slice pk k.kids.length ck] 31)
        have nX := heap_alloc_new wr (.cells #[.int .i64 k.kind, .int .i64 k.a, .int .i64 k.b, .string ⟨k.name.toArray⟩, .slice pk k.kids.length ck] 31)
        have hbX := hbwr.trans (bX.mono hbwr.size)
        have cR := cK _ hbX
        unfold exV at cR
        have fp := (HPB.out.below hbX).cp
        have HJK := hid5 hjk
        have HXS := hid5 hxs
        have HTR := hid5 htr
        have HNK := hid5 hnk
        clear c0 c1 c2 c3 c4 cK hjk hxs htr hbwr
        generalize hwX : wr.alloc (.cells #[.int .i64 k.kind, .int .i64 k.a, .int .i64 k.b, .string ⟨k.name.toArray⟩, .slice pk k.kids.length ck] 31) = wX at *
        go_wp2_with (refine wpList_load_row rfl 31 _ rfl _ rfl _ _ _ _ nX exprType5 rfl (by kernel_rfl) ?_)
        refine cR.mono ?_
        rintro r' w2 ⟨sl', rfl, ⟨D', hT'⟩, b2⟩
        obtain ⟨p', c', rfl⟩ := hT'.form
        obtain ⟨k', hk'⟩ : ∃ q, sbE ur.1 ur.2 k = q := ⟨_, rfl⟩
        have hnk' : k'.name.length ≤ 9223372036854775807 := by
          rw [← hk', sbE_eq]
          split
          · exact HPB.out.nmE
          · exact HNK.out
        rw [hk'] at hT' ⊢
        unfold exV
        have hb2r := bX.trans (b2.mono bX.size)
        have b4 := (Below.refl w2.heap.size w2).alloc (Nat.le_refl _) (.cells #[.int .i64 k'.kind, .int .i64 k'.a, .int .i64 k'.b, .string ⟨k'.name.toArray⟩, .slice p' k'.kids.length c'] 31)
        have n4 := heap_alloc_new w2 (.cells #[.int .i64 k'.kind, .int .i64 k'.a, .int .i64 k'.b, .string ⟨k'.name.toArray⟩, .slice p' k'.kids.length c'] 31)
        have hb4r := hb2r.trans (b4.mono hb2r.size)
        have hb4 := hbr.trans (hb4r.mono hbr.size)
        have HT4 := hid5 (hT'.kept fun g hg hl => b4.block g hg.2)
        have ho4 := owns_keep (w' := w2.alloc (.cells #[.int .i64 k'.kind, .int .i64 k'.a, .int .i64 k'.b, .string ⟨k'.name.toArray⟩, .slice p' k'.kids.length c'] 31)) hown fun b hb => hb4r.block b (hown.lt b hb).2
        have HTR4 : Hid (∀ p ∈ xs, p.1.name.length ≤ 9223372036854775807 ∧ KidsB (fun k => ((k < w0.heap.size ∨ wc.heap.size ≤ k) ∧ k < wr.heap.size) ∧ (j < 2 → u6.ownBlock ≠ some k)) D (w2.alloc (.cells #[.int .i64 k'.kind, .int .i64 k'.a, .int .i64 k'.b, .string ⟨k'.name.toArray⟩, .slice p' k'.kids.length c'] 31)) p.2 p.1.kids) := fun p hp => ⟨(HTR.out p hp).1, (HTR.out p hp).2.kept fun g hg hl => hb4r.block g hl⟩
        have szX := bX.size
        have szr := hbr.size
        have sz2 := b2.size
        have sz4 := b4.size
        have szb : wr.heap.size < wX.heap.size := by rw [← hwX]; simp
        have lE := lt_of_block n4
        have HLB : Hid (∀ b, u6.ownBlock = some b → b < wX.heap.size) := fun b hb => Nat.lt_of_lt_of_le (hown.lt b hb).2 szX
        clear hT' hown hbr cR hwX bX b2 b4 hb2r nX f0 f1 f2 f3 f4 fp HTR
        generalize hw4 : w2.alloc (.cells #[.int .i64 k'.kind, .int .i64 k'.a, .int .i64 k'.b, .string ⟨k'.name.toArray⟩, .slice p' k'.kids.length c'] 31) = w4 at *
        have szc := hb4.size
        have HLO := hid5 ho4.lt
        obtain ⟨bs, hobs, hbs1, hbs2, hbs3⟩ : ∃ bs, w4.ownsRow bs 31 5 u6 j (flatX xs) ∧ bs ≤ w4.heap.size ∧ wc.heap.size ≤ bs ∧ (j = 0 → bs = w4.heap.size) := by
          by_cases hz : j = 0
          · subst hz
            have hx0 : xs = [] := by
              have h1 := congrArg List.length HXS.out
              simp at h1
              exact h1
            subst hx0
            rw [HNIL.out rfl]
            exact ⟨w4.heap.size, World.ownsRow_nil _ _ _ _, Nat.le_refl _, szc, fun _ => rfl⟩
          · exact ⟨wc.heap.size, ho4, szc, Nat.le_refl _, fun h => absurd h hz⟩
        clear ho4
        go_wp2_with (at_builtin; refine wpList_append_own _ rfl _ _ 29 rfl bs 31 i0 (.agg #[.int .i64 0, .int .i64 0, .int .i64 0, .string ⟨#[]⟩, .slice none 0 0]) 5 64 exprsTypeU hi hz0 hz1 hz2 rfl (by decide) u6 j (flatX xs) rfl hobs ⟨w2.heap.size, 0, none⟩ 1 1 [.int .i64 k'.kind, .int .i64 k'.a, .int .i64 k'.b, .string ⟨k'.name.toArray⟩, .slice p' k'.kids.length c'] rfl rfl ?c1 ?c2 ?c3 ?c4 ?c5 ?_)
        case c1 =>
          intro j u' hj
          match j, hj with
          | 0, hj => simp at hj; subst hj; exact (cell_of_row _ _ _ _ _ _ n4).trans rfl
          | 1, hj => simp at hj; subst hj; exact (cell_of_row _ _ _ _ _ _ n4).trans rfl
          | 2, hj => simp at hj; subst hj; exact (cell_of_row _ _ _ _ _ _ n4).trans rfl
          | 3, hj => simp at hj; subst hj; exact (cell_of_row _ _ _ _ _ _ n4).trans rfl
          | 4, hj => simp at hj; subst hj; exact (cell_of_row _ _ _ _ _ _ n4).trans rfl
        case c2 => intro u hu; simp at hu; rcases hu with rfl | rfl | rfl | rfl | rfl <;> rfl
        case c3 => unfold maxLen; omega
        case c4 => omega
        case c5 => exact hbs1
        intro v' w5 hown' hgrow _
        have hb5 : Below wc.heap.size wc w5 := hb4.grown hgrow szc (fun q hq => (HLO.out q hq).1)
        have hgs := hgrow.size
        have HN : Hid (PtRel w0 wc (e.kids.map (sbE ur.1 ur.2)) v' (.int .i64 ((j + 1 : Nat) : Int)) w5) := by
          refine ⟨j + 1, xs ++ [(k', .slice p' k'.kids.length c')], D + D', rfl, by rw [List.length_map]; omega, (fun h => absurd h (by omega)), ?_, ?_, ?_, hb5⟩
          · rw [List.map_append, HXS.out, List.take_add_one, List.getElem?_map, HJK.out]
            simp [hk']
          · rw [flatX_snoc]
            exact owns_lowU hown' hbs2
          · intro p hp
            rcases List.mem_append.1 hp with hp | hp
            · obtain ⟨q1, q2⟩ := HTR4.out p hp
              refine ⟨q1, ((q2.kept fun g hg hl => hgrow.block g hl fun e => hg.2 (by omega) e.symm).mono fun g hg => ⟨⟨hg.1.1, by have := hg.1.2; omega⟩, fun hj2 => ?_⟩).upTo D'⟩
              have hx0 : xs.length = j := by
                have h1 := congrArg List.length HXS.out
                simp at h1
                omega
              have : 0 < xs.length := List.length_pos_of_mem hp
              omega
            · have ep : p = (k', .slice p' k'.kids.length c') := by simpa using hp
              subst ep
              have hT5 := HT4.out.kept (w' := w5) fun g hg hl => hgrow.block g hl fun e => by
                have h1 := HLO.out g e.symm
                have h2 := HPB.out.bel.size
                have h3 := hbw.size
                rcases hg.1 with q | q
                · omega
                · have := HLB.out g e.symm
                  omega
              have h5 := (hT5.mono (B' := fun k => ((k < w0.heap.size ∨ wc.heap.size ≤ k) ∧ k < w5.heap.size) ∧ (j + 1 < 2 → v'.ownBlock ≠ some k)) fun g hg => ⟨⟨?_, by have := hg.2; omega⟩, fun hj2 e => ?_⟩).upTo D
              · rw [show D' + D = D + D' from Nat.add_comm _ _] at h5
                exact ⟨hnk', h5⟩
              · rcases hg.1 with q | q
                · exact .inl q
                · exact .inr (by omega)
              · have h1 := (hown'.lt g e).1
                have h2 := hbs3 (by omega)
                have := hg.2
                omega
        clear hown' hgrow hobs n4 HTR4 HT4 HXS HJK hb4 hb5 hb4r HLO
        go_wp2_with fail
        go_roundw
        case rel => exact HN.out
        case measure => simp [intOf]; omega
      · have ej : j = e.kids.length := by omega
        have hlt' : ¬ (j : Int) < (e.kids.length : Int) := by omega
        subst ej
        have hex : xs.length = e.kids.length := by
          have h1 := congrArg List.length hxs
          simp at h1
          exact h1
        have hxs' : xs.map (fun p => p.1) = e.kids.map (sbE ur.1 ur.2) := by
          rw [hxs, ← List.map_take, List.take_length]
        obtain ⟨pq, cq, rfl⟩ := row_form hown
        have n1 := (hbr.block _ (lt_of_block nEc)).trans nEc
        have n2 := (hbr.block _ (lt_of_block nRc)).trans nRc
        have m1 : (wr.setCell ⟨w.heap.size, 4, none⟩ (.slice pq e.kids.length cq)).heap[w.heap.size]? = some (.cells #[.int .i64 e.kind, .int .i64 e.a, .int .i64 e.b, .string ⟨e.name.toArray⟩, .slice pq e.kids.length cq] 31 (0, 0)) := (heap_setCell_same wr w.heap.size 4 _ _ (.slice pq e.kids.length cq) n1).trans rfl
        have m2 := (heap_setCell_other wr ⟨w.heap.size, 4, none⟩ (w.heap.size + 1) (.slice pq e.kids.length cq) (by show w.heap.size + 1 ≠ w.heap.size; omega)).trans n2
        have z4 := (cell_of_row _ _ 4 _ _ _ n1).trans rfl
        have x4 := frozen_of_row _ _ 4 _ _ n1
        have hbq := hbwr.setCell (p := ⟨w.heap.size, 4, none⟩) (Nat.le_refl _) (.slice pq e.kids.length cq)
        have hbR := below_setRow hbq (show w.heap.size ≤ w.heap.size + 1 by omega) #[.int .i64 e.kind, .int .i64 e.a, .int .i64 e.b, .string ⟨e.name.toArray⟩, .slice pq e.kids.length cq]
        obtain ⟨WF, hWF⟩ : ∃ W, (wr.setCell ⟨w.heap.size, 4, none⟩ (.slice pq e.kids.length cq)).setRow (w.heap.size + 1) #[.int .i64 e.kind, .int .i64 e.a, .int .i64 e.b, .string ⟨e.name.toArray⟩, .slice pq e.kids.length cq] = W := ⟨_, rfl⟩
        have hkeep : ∀ g, (g < w.heap.size ∨ wc.heap.size ≤ g) → WF.heap[g]? = wr.heap[g]? := fun g hg => by
          rw [← hWF]
          exact (setRow_other _ _ _ _ (by omega)).trans (heap_setCell_other _ _ _ _ (by show g ≠ w.heap.size; omega))
        have hsq : wr.heap.size ≤ WF.heap.size := by
          rw [← hWF]
          exact (below_setRow ((Below.refl 0 wr).setCell (p := ⟨w.heap.size, 4, none⟩) (Nat.zero_le _) (.slice pq e.kids.length cq)) (Nat.zero_le _) _).size
        rw [hWF] at hbR
        have HO : Hid (OutPt w0 (sbE ur.1 ur.2 e) w (.returned (.agg #[.int .i64 e.kind, .int .i64 e.a, .int .i64 e.b, .string ⟨e.name.toArray⟩, .slice pq e.kids.length cq])) WF) := by
          rw [HS.out]
          refine ⟨_, rfl, ⟨D + 1, ?_⟩, hbR⟩
          have hown2 := owns_keep (w' := WF) hown fun b hb => hkeep b (.inr (hown.lt b hb).1)
          dsimp only
          rw [← hxs']
          have hlm : (xs.map (fun p => p.1)).length = e.kids.length := by rw [List.length_map, hex]
          have hsl : Value.slice pq e.kids.length cq = .slice pq (xs.map (fun p => p.1)).length cq := by rw [hlm]
          rw [hsl] at hown2 ⊢
          rw [← hex] at hown2
          refine kids_of_owns (D := D) (by omega) hown2 (fun g hg => ?_) fun p hp => ?_
          · have := hown2.lt g hg
            have h3 := hbw.size
            exact ⟨.inr (by omega), this.2⟩
          · obtain ⟨q1, q2⟩ := htr p hp
            have h2 := HPB.out.bel.size
            have h3 := hbw.size
            refine ⟨q1, (q2.kept (w' := WF) fun g hg hl => hkeep g ?_).mono fun g hg => ⟨?_, ?_⟩⟩
            · rcases hg.1.1 with q | q
              · exact .inl (by omega)
              · exact .inr q
            · rcases hg.1.1 with q | q
              · exact .inl q
              · exact .inr (by omega)
            · have := hg.1.2
              omega
        have HWF := hid5 hWF
        clear HK HPB HNM HS hxs hxs' htr hown hbr hbwr hex hbq hbR n1 n2 hWF hkeep hsq HNIL
        generalize hwq : wr.setCell ⟨w.heap.size, 4, none⟩ (.slice pq e.kids.length cq) = wq at *
        go_wp2_with (first
          | (refine wpList_load_row rfl 31 _ rfl _ rfl _ _ _ _ m1 exprType5 rfl (by kernel_rfl) ?_)
          | (refine wpList_store_row rfl 31 _ _ rfl _ _ rfl rfl _ _ m2 (by kernel_rfl) (by rfl) (by simp [Value.oneCell']) ?_))
        refine bodyPost_ret (v := .agg #[.int .i64 e.kind, .int .i64 e.a, .int .i64 e.b, .string ⟨e.name.toArray⟩, .slice pq e.kids.length cq]) ?_ rfl (by rw [HWF.out]; exact HO.out)
        exact results_cell_row rfl _ _ (w.heap.size + 1) _ _ _ _ rfl (setRow_heap _ _ _ _ _ _ m2) exprType5 rfl (by kernel_rfl)
theorem put_any (w0 : World) (us : List (Ru × Value)) (pv : Option Addr) (cv r : Nat) (ur : Ru) (ps : Option Addr) (cs dE gl gr gp : Nat) : ∀ (d : Nat) (e : Ex) (sl : Value) (w : World), PtB w0 us pv cv r ur ps cs dE gl gr gp w → OKE e → e.name.length ≤ 9223372036854775807 → KidsB (fun k => k < w.heap.size) d w sl e.kids →
    Calls Tryz.prog 7 #[exV e sl, .pointer (some ⟨gl, 0, none⟩), .pointer (some ⟨gr, 0, none⟩), .pointer (some ⟨gp, 0, none⟩)] w (OutPt w0 (sbE ur.1 ur.2 e) w)
  | 0, e, sl, w, hB, hok, hnm, hk => by
    obtain ⟨h0, p, c, rfl⟩ := hk
    have := put_step w0 us pv cv r ur ps cs dE gl gr gp e p c w hB hok hnm (fun j k hj => by rw [h0] at hj; simp at hj)
    rw [h0] at this
    exact this
  | d + 1, e, sl, w, hB, hok, hnm, hk => by
    obtain ⟨pe, ce, hsl⟩ := hk.form
    subst hsl
    refine put_step w0 us pv cv r ur ps cs dE gl gr gp e pe ce w hB hok hnm fun j k hj => ?_
    rcases hk with ⟨h0, _⟩ | ⟨g, o, c, _, hs, hl, hkk⟩
    · rw [h0] at hj; simp at hj
    · obtain ⟨n1, sk, c0, c1, c2, c3, c4, rr⟩ := hkk j k hj
      obtain ⟨pk, ck, rfl⟩ := rr.form
      injection hs with e1
      exact ⟨g, o, pk, ck, e1, n1, c0, c1, c2, c3, c4, fun W hb => put_any w0 us pv cv r ur ps cs dE gl gr gp d k _ W (hB.below hb) (hok.kid (List.mem_of_getElem? hj)) n1 ((rr.kept fun q _ hl => hb.block q hl).mono fun q hq => Nat.lt_of_lt_of_le hq hb.size)⟩
end Go.Proofs.YtgfjbcdjpkcbkaaGreatDoor
