/- A region that draws its order, whose values are told by sayings, and whose operations keep what is said of the world; the last one waits for all. It speaks of no program. -/
import Derived.Test.YtgfjbcdjpkcbkaaGreatDoorDu04
import Derived.Test.YtgfjbcdjpkcbkaaGreatDoorDu01
import Derived.Test.YtgfjbcdjpkcbkaaGreatDoorDu03
import Derived.Test.YtgfjbcdjpkcbkaaGreatDoorDu02
import Derived.ChangeKeysEq
import Derived.Laws.StructEq
namespace Go.Proofs.YtgfjbcdjpkcbkaaGreatDoor
open Go Go.RowKit
section
variable {P : Program} {ops : Array Oper} {Q : Exit → Act → World → Prop} {id : Nat} {a0 : Act} {w : World}
def StepP (P : Program) (ops : Array Oper) (Q : Exit → Act → World → Prop) (sl : List Nat) (a0 : Act) (J : World → Prop) (sp : Nat → Value → World → Prop) : Prop :=
  ∀ (i s : Nat) (o : Oper) (L : Nat → Bool) (A : Act) (W : World), ops[i]? = some o → sl[i]? = some s → (∀ e ∈ o.after, Region.binds .any e = true → L e.on = true) → J W →
    (∀ s, notDst ops s = true → A.tmps.getD s undef = a0.tmps.getD s undef) → (∀ (j s : Nat), sl[j]? = some s → L j = true → sp j (A.tmps.getD s undef) W) → wpOp P ops Q i (fun a' W' => ∃ v, a' = A.put (some s) v ∧ sp i v W' ∧ J W' ∧ Below W.heap.size W W') A W
theorem wp_region_lastP (J : World → Prop) (sp : Nat → Value → World → Prop) (hJ0 : J w.drew) (hmono : ∀ W W', Below W.heap.size W W' → ∀ j u, sp j u W → sp j u W') (hm : P.follows .mixedOrders = true) (hback : backB ops = true) (hdst : dstB ops = true) (hin : inB ops a0.tmps.size = true) (n : Nat) (hn : ops.size = n + 1) (huse : useB ops = true) (sl : List Nat)
    (hds : (ops.toList.take n).map (fun o => o.dst) = sl.map some) (hnd : decide (((ops.toList.take n).map (fun o => o.dst)).Nodup) = true)
    (hstep : StepP P ops Q sl a0 J sp) (hlast : ∀ (o : Oper) (W : World) (A : Act), ops[n]? = some o → J W → (∀ (j s : Nat), sl[j]? = some s → sp j (A.tmps.getD s undef) W) → (∀ s, notDst ops s = true → A.tmps.getD s undef = a0.tmps.getD s undef) →
      (∀ ds : List (Nat × Value), ds.map (fun p => p.1) = sl → (∀ (j s : Nat) (v : Value), ds[j]? = some (s, v) → A.tmps.getD s undef = v) → A = putAll ds a0) →
      wpOp P ops Q n (fun a' W' => (∃ v, a' = A.put o.dst v) ∧ Q .normal a' W') A W) : (Code.region id ops true).wp P Q a0 w := by
  have hnd' : (sl.map some).Nodup := by rw [← hds]; exact of_decide_eq_true hnd
  have hl : sl.length = n := by
    have h := congrArg List.length hds
    simp only [List.length_map, List.length_take, Array.length_toList] at h
    omega
  have atD : ∀ {j : Nat} {p : Oper}, j < n → ops[j]? = some p → ∃ s, sl[j]? = some s ∧ p.dst = some s := fun {j p} hj hp => by
    have h1 : ((ops.toList.take n).map (fun o => o.dst))[j]? = some p.dst := by
      rw [List.getElem?_map, List.getElem?_take_of_lt hj, Array.getElem?_toList, hp]
      rfl
    rw [hds, List.getElem?_map] at h1
    cases hs : sl[j]? with
    | none => rw [hs] at h1; cases h1
    | some s =>
      rw [hs] at h1
      exact ⟨s, rfl, (Option.some.inj h1).symm⟩
  have slNe : ∀ {j k s t : Nat}, sl[j]? = some s → sl[k]? = some t → j ≠ k → s ≠ t := fun {j k s t} hj hk hne e => by
    subst e
    have hj' := (List.getElem?_eq_some_iff.1 hj).1
    have hk' := (List.getElem?_eq_some_iff.1 hk).1
    have h1 : (sl.map some)[j]? = (sl.map some)[k]? := by rw [List.getElem?_map, List.getElem?_map, hj, hk]
    exact hne ((List.getElem?_inj (by simpa using hj') hnd').1 h1)
  refine wp_region_flow hm hback hdst hin (fun L A W => (∀ (j : Nat) (p : Oper), ops[j]? = some p → L j = true → ∀ e ∈ p.after, Region.binds .any e = true → L e.on = true) ∧ (L n = false → J W ∧ A.tmps.size = a0.tmps.size ∧ ∀ (j s : Nat), sl[j]? = some s → L j = true → sp j (A.tmps.getD s undef) W) ∧ (L n = true → Q .normal A W)) (fun _ _ _ => True) ?_ ?_ ?_
  · intro L h
    refine ⟨fun j p hp hj => ?_, fun _ => ⟨hJ0, rfl, fun j s hj hL => ?_⟩, fun h' => ?_⟩
    · have := h j (Array.getElem?_eq_some_iff.1 hp).1
      rw [this] at hj; cases hj
    · have := h j (by have := (List.getElem?_eq_some_iff.1 hj).1; omega)
      rw [this] at hL; cases hL
    · rw [h n (by omega)] at h'; cases h'
  · intro i o L A W ho hLi hdep hJ hdef hkept hhas
    clear hhas
    obtain ⟨hc, hbel, hdone⟩ := hJ
    have hi : i < ops.size := (Array.getElem?_eq_some_iff.1 ho).1
    have hLn : L n = false := by
      cases h : L n with
      | false => rfl
      | true =>
        have := use_all huse hn hc h n i (by omega) (by omega)
        rw [this] at hLi; cases hLi
    obtain ⟨hbw, hsz, hread⟩ := hbel hLn
    have hc' : ∀ (j : Nat) (p : Oper), ops[j]? = some p → (decide (i = j) || L j) = true → ∀ e ∈ p.after, Region.binds .any e = true → (decide (i = e.on) || L e.on) = true := by
      intro j p hp hj e he hb
      by_cases hij : i = j
      · subst hij
        rw [ho] at hp
        cases hp
        rw [hdep e he hb]; simp
      · rw [hc j p hp (by simpa [hij] using hj) e he hb]; simp
    by_cases hin' : i = n
    · subst hin'
      have hall : ∀ j, j < i → L j = true := fun j hj => by
        have := use_all huse hn hc' (L := fun k => decide (i = k) || L k) (by simp) i j (by omega) (by omega)
        simpa [show i ≠ j by omega] using this
      refine wpOp_mono ?_ (hlast o W A ho hbw (fun j s hj => hread j s hj (hall j (by have := (List.getElem?_eq_some_iff.1 hj).1; omega))) (fun s h => hkept s fun j p hp _ => nd h j p hp) fun ds hd hv => ?_)
      · rintro a' W' ⟨⟨v, hv⟩, hq⟩
        exact ⟨v, hv, fun _ => trivial, fun _ _ _ _ => trivial, hc', fun h => by simp at h, fun _ => hq⟩
      · refine act_is ds hdef hsz (by rw [show ds.map (fun p => some p.1) = (ds.map (fun p => p.1)).map some by rw [List.map_map]; rfl, hd]; exact hnd') (fun s h => hkept s fun j p hp hj e => ?_) (fun j s v hj => hv j s v hj)
        have hjn : j < i := by
          have h1 := (Array.getElem?_eq_some_iff.1 hp).1
          have h2 : j ≠ i := fun e' => by rw [e', hLn] at hj; cases hj
          omega
        obtain ⟨s', hs', hd'⟩ := atD hjn hp
        rw [hd'] at e
        cases e
        rw [← hd, List.getElem?_map] at hs'
        cases hq : ds[j]? with
        | none => rw [hq] at hs'; cases hs'
        | some q =>
          rw [hq] at hs'
          exact h q (List.mem_of_getElem? hq) (Option.some.inj hs')
    · obtain ⟨s, hs, hd⟩ := atD (show i < n by omega) ho
      have hsl : s < A.tmps.size := by
        have q1 := List.all_eq_true.1 hin i (by simpa using hi)
        rw [ho] at q1
        simp only [Option.bind_some, hd] at q1
        rw [hsz]
        simpa using q1
      refine wpOp_mono ?_ (hstep i s o L A W ho hs hdep hbw (fun s' h => hkept s' fun j p hp _ => nd h j p hp) hread)
      rintro a' W' ⟨v, rfl, hv, hJ', hb⟩
      refine ⟨v, by rw [hd], fun _ => trivial, fun _ _ _ _ => trivial, hc', fun _ => ⟨hJ', by simpa [Act.put] using hsz, fun j t hj hL => ?_⟩, fun h => ?_⟩
      · by_cases hij : i = j
        · subst hij
          rw [hs] at hj
          cases hj
          rw [show (A.put (some s) v).tmps.getD s undef = v from getD_set_same _ _ _ hsl]
          exact hv
        · rw [show (A.put (some s) v).tmps.getD t undef = A.tmps.getD t undef from getD_set_other _ _ _ _ (slNe hs hj hij)]
          exact hmono _ _ hb j _ (hread j t hj (by simpa [hij] using hL))
      · simp [hin', hLn] at h
  · intro L A W hL hJ hdef hsize hkept hhas
    exact hJ.2.2 (hL n (by omega))
end
end Go.Proofs.YtgfjbcdjpkcbkaaGreatDoor

/- What is read of tokens is read of the same tokens at other places, and with others behind, where something is left: plain. -/
namespace Lx
end Lx

/- The rules of two rows of tokens, one behind the other: plain. -/
namespace Lx
end Lx

/- What the document's Ints comes to where both rows are the same. -/
namespace Go.Proofs.YtgfjbcdjpkcbkaaGreatDoor
open Go.RowKit
end Go.Proofs.YtgfjbcdjpkcbkaaGreatDoor

/- A region that draws its order, whose values are known beforehand; what is said of the world hangs on what has been done. It speaks of no program. -/
namespace Go.Proofs.YtgfjbcdjpkcbkaaGreatDoor
open Go Go.RowKit
section
variable {P : Program} {ops : Array Oper} {Q : Exit → Act → World → Prop} {id : Nat} {a0 : Act} {w : World}
def ClosL (ops : Array Oper) (L : Nat → Bool) : Prop := ∀ (j : Nat) (p : Oper), ops[j]? = some p → L j = true → ∀ e ∈ p.after, Region.binds .any e = true → L e.on = true
variable {m : Nat} {Pre Post : World → Prop} {L : Nat → Bool} {W W' : World} {i : Nat}
end
end Go.Proofs.YtgfjbcdjpkcbkaaGreatDoor

/- A region that draws its order, whose values are told by sayings that hang on what has been done; the last operation waits for all. It speaks of no program. -/
namespace Go.Proofs.YtgfjbcdjpkcbkaaGreatDoor
open Go Go.RowKit
section
variable {P : Program} {ops : Array Oper} {Q : Exit → Act → World → Prop} {id : Nat} {a0 : Act} {w : World}
end
end Go.Proofs.YtgfjbcdjpkcbkaaGreatDoor

/- What masks.first comes to: the first minute that a mask has, from one on. -/
namespace Go.Proofs.YtgfjbcdjpkcbkaaGreatDoor
open Go.RowKit Msk
end Go.Proofs.YtgfjbcdjpkcbkaaGreatDoor

/-
  Plain facts about the spans of a mask, that speak of no program: minute by minute, and span by span.
-/
namespace Msk
def rs (f : Nat → Bool) : Nat → List (Int × Int)
  | 0 => []
  | n + 1 => if f n then (if n ≠ 0 ∧ f (n - 1) = true then (rs f n).dropLast ++ [(((rs f n).getLastD (0, 0)).1, (n : Int) + 1)] else rs f n ++ [((n : Int), (n : Int) + 1)]) else rs f n
def good (last : Int) (n : Int) : List (Int × Int) → Prop
  | [] => True
  | s :: l => last < s.1 ∧ s.1 < s.2 ∧ s.2 ≤ n ∧ good s.2 n l
def endOf (last : Int) : List (Int × Int) → Int
  | [] => last
  | s :: l => endOf s.2 l
theorem good_snoc (n a b : Int) (hb : b ≤ n) (hab : a < b) : ∀ (l : List (Int × Int)) (last : Int), good last n l → endOf last l < a → good last n (l ++ [(a, b)])
  | [], _, _, h => ⟨h, hab, hb, trivial⟩
  | s :: l, _, ⟨h1, h2, h3, h4⟩, h => ⟨h1, h2, h3, good_snoc n a b hb hab l s.2 h4 h⟩
theorem endOf_snoc (a b : Int) : ∀ (l : List (Int × Int)) (last : Int), endOf last (l ++ [(a, b)]) = b
  | [], _ => rfl
  | _ :: l, _ => endOf_snoc a b l _
theorem good_mono (n m : Int) (h : n ≤ m) : ∀ (l : List (Int × Int)) (last : Int), good last n l → good last m l
  | [], _, _ => trivial
  | _ :: l, _, ⟨h1, h2, h3, h4⟩ => ⟨h1, h2, Int.le_trans h3 h, good_mono n m h l _ h4⟩
def len : List (Int × Int) → Int
  | [] => 0
  | s :: l => (s.2 - s.1) + len l
theorem len_snoc (a b : Int) : ∀ l : List (Int × Int), len (l ++ [(a, b)]) = len l + (b - a)
  | [] => by simp [len]
  | s :: l => by have := len_snoc a b l; simp only [List.cons_append, len, this]; omega
structure Runs (f : Nat → Bool) (n : Nat) (l : List (Int × Int)) : Prop where
  good : good (-1) n l
  last : endOf (-1) l ≤ n
  many : len l = Msk.cnt f n
  has : ∀ i, i < n → (l.any fun s => decide (s.1 ≤ (i : Int)) && decide ((i : Int) < s.2)) = f i
  few : l.length ≤ n
theorem Runs.zero (f : Nat → Bool) : Runs f 0 [] := ⟨trivial, by simp [endOf], by simp [len, Msk.cnt], fun i hi => by omega, by simp⟩
theorem Runs.skip {f : Nat → Bool} {n : Nat} {l : List (Int × Int)} (h : Runs f n l) (m : Nat) (hm : n ≤ m) (hno : ∀ i, n ≤ i → i < m → f i = false) : Runs f m l := by
  refine ⟨good_mono _ _ (by omega) _ _ h.good, by have := h.last; omega, ?_, ?_, by have := h.few; omega⟩
  · have e : m = n + (m - n) := by omega
    rw [h.many, e, cnt_add, cnt_false (f := fun j => f (n + j)) fun j hj => hno _ (by omega) (by omega)]
    rfl
  · intro i hi
    by_cases hin : i < n
    · exact h.has i hin
    · rw [hno i (by omega) hi]
      have hg := h.good
      have key : ∀ (l : List (Int × Int)) (last : Int), Msk.good last n l → (l.any fun s => decide (s.1 ≤ (i : Int)) && decide ((i : Int) < s.2)) = false := by
        intro l
        induction l with
        | nil => intro _ _; rfl
        | cons s l ih =>
          intro last hl
          obtain ⟨h1, h2, h3, h4⟩ := hl
          have : ¬ (i : Int) < s.2 := by omega
          simp [ih _ h4, this]
      exact key l _ hg
theorem Runs.run {f : Nat → Bool} {a : Nat} {l : List (Int × Int)} (h : Runs f a l) (ha : endOf (-1) l < a) (b : Nat) (hab : a < b) (hyes : ∀ i, a ≤ i → i < b → f i = true) : Runs f b (l ++ [((a : Int), (b : Int))]) := by
  refine ⟨good_snoc _ _ _ (by omega) (by omega) _ _ (good_mono _ _ (by omega) _ _ h.good) ha, by rw [endOf_snoc]; omega, ?_, ?_, ?_⟩
  · have e : b = a + (b - a) := by omega
    have q : cnt f b = cnt f a + (b - a) := by
      rw [e, cnt_add, cnt_true (f := fun j => f (a + j)) fun j hj => hyes _ (by omega) (by omega)]
      omega
    rw [len_snoc, h.many, q]
    omega
  · intro i hi
    rw [List.any_append]
    by_cases hia : i < a
    · rw [h.has i hia]
      have : ¬ (a : Int) ≤ (i : Int) := by omega
      simp [this]
    · have h1 : (a : Int) ≤ (i : Int) := by omega
      have h2 : (i : Int) < (b : Int) := by omega
      rw [hyes i (by omega) hi]
      simp [h1, h2]
  · have := h.few
    simp only [List.length_append, List.length_cons, List.length_nil]
    omega
end Msk

/- The flow law, as the later texts have it. -/

/- What masks.visitRuns comes to, whatever function it is handed. -/
namespace Go.Proofs.YtgfjbcdjpkcbkaaGreatDoor
open Go.RowKit Msk
theorem row_at {W : World} {g : Nat} {x y : Int} {t : TypeId} (hb : W.heap[g]? = some (.cells #[.int .i64 x, .int .i64 y] t (0, 0))) : Row W (.slice (some ⟨g, 0, none⟩) 1 1) [(x, y)] := by
  refine .inr ⟨_, 0, 1, rfl, by simp, fun j hj => ?_⟩
  have : j = 0 := by simpa using hj
  subst this
  exact ⟨by rw [cell_of_row _ _ _ _ _ _ hb]; rfl, by rw [cell_of_row _ _ _ _ _ _ hb]; rfl⟩
end Go.Proofs.YtgfjbcdjpkcbkaaGreatDoor

/- What masks.Next comes to. -/
namespace Go.Proofs.YtgfjbcdjpkcbkaaGreatDoor
open Go.RowKit Msk
end Go.Proofs.YtgfjbcdjpkcbkaaGreatDoor

/- '==' and '!=' between two masks; a word of a mask by its place; how many minutes a mask has. -/
namespace Go.Proofs.YtgfjbcdjpkcbkaaGreatDoor
open Go.RowKit Msk
def eqm (f g : Nat → Bool) : Bool := (List.range 23).all fun k => wd f k == wd g k
theorem eqm_true {f g : Nat → Bool} (h : ∀ i, i < 1472 → f i = g i) : eqm f g = true := by
  unfold eqm
  rw [List.all_eq_true]
  intro k hk
  have hk' : k < 23 := by simpa using hk
  rw [wd_ext (f := f) (g := g) fun j hj => h _ (by omega)]
  simp
set_option maxRecDepth 100000 in
theorem u64info : ∃ i, Tryz.prog.info? 41 = some i ∧ Tryz.prog.cellsOf 41 = 1 := ⟨_, rfl, by kernel_rfl⟩
theorem u64type : Tryz.prog.underlying 41 = some (.int .u64) := by kernel_rfl
theorem part_mv (f : Nat → Bool) (k : Nat) (hk : k < 23) (w : World) : (Go.part 41 (mv f) (k * 1)).run Tryz.prog w = .ok (.int .u64 (wd f k : Int)) w := by
  simp [Go.part, isAgg, run_underlying u64type, mv_get f k hk]
theorem eqItems_mv (f g : Nat → Bool) (w : World) (d : Nat) : ∀ l : List Nat, (∀ k ∈ l, k < 23) → (Op.eqItems (d + 1) 41 1 (mv f) (mv g) l).run Tryz.prog w = .ok (l.all fun k => wd f k == wd g k) w
  | [], _ => by simp [Op.eqItems]
  | k :: l, h => by
    have ih := eqItems_mv f g w d l fun j hj => h j (by simp [hj])
    have hk := h k (by simp)
    simp only [Op.eqItems, Sem.run_bind, part_mv f k hk, part_mv g k hk, Result.andThen_ok, run_equalIn_int w d 41 .u64 .u64 _ _ u64type, List.all_cons]
    have e : (((wd f k : Nat) : Int) == ((wd g k : Nat) : Int)) = (wd f k == wd g k) := by
      rw [Bool.eq_iff_iff]; simp only [beq_iff_eq]; omega
    rw [e]
    cases (wd f k == wd g k)
    · simp
    · simpa using ih
theorem eq_mask (f g : Nat → Bool) (w : World) : (Op.equalIn 10000 43 (.agg (mv f)) (.agg (mv g))).run Tryz.prog w = .ok (eqm f g) w := by
  obtain ⟨i, hi, hc⟩ := u64info
  rw [run_equalIn_array w 9999 (mv f) (mv g) maskType hi, hc]
  exact eqItems_mv f g w 9998 _ fun k hk => by simpa using hk
theorem neq_mask (f g : Nat → Bool) (w : World) : (binOp .neq 43 (.agg (mv f)) (.agg (mv g))).run Tryz.prog w = .ok (.bool (!eqm f g)) w := by
  rw [run_neq_struct, eq_mask]; rfl
theorem index_mask (f : Nat → Bool) (k : Nat) (hk : k < 23) (w : World) : (Instr.index 43 (.agg (mv f)) (.int .i64 (k : Int))).run Tryz.prog w = .ok (.int .u64 (wd f k : Int)) w := by
  obtain ⟨i, hi, hc⟩ := u64info
  have hs : (sizeOf 41).run Tryz.prog w = .ok 1 w := by rw [run_sizeOf w hi, hc]
  have h0 : (0 : Int) ≤ (k : Int) ∧ (k : Int) < (23 : Nat) := by omega
  have hp := part_mv f k hk w
  simp only [Instr.index, asIntOf, Sem.run_bind, Sem.run_pure, Result.andThen_ok, run_underlying maskType]
  rw [if_pos h0]
  simp only [Sem.run_bind, hs, Result.andThen_ok, Int.toNat_natCast]
  exact hp
set_option maxHeartbeats 400000 in
theorem count_any (f : Nat → Bool) (w : World) :
    Calls Tryz.prog 14 #[.agg (mv f)] w fun e w' => e = .returned (.int .i64 ((cnt f 1440 : Nat) : Int)) ∧ Below w.heap.size w w' := by
  have h1 : (w.alloc (.cells (mv f) 43)).heap[w.heap.size]? = some (.cells (mv f) 43 (0, 0)) := by (repeat (first | refine blk_old _ _ _ (by simp only [size_alloc]; omega) ?_ | exact blk_new _ _ _ (by first | rfl | simp only [size_alloc])))
  have hb0 : Below w.heap.size w (w.alloc (.cells (mv f) 43)) := (Below.refl _ _).alloc (Nat.le_refl _) _
  go_enter Tryz.func14, Tryz.ntmps14
  go_wp2_with (first
    | (refine wpList_load_row rfl 43 _ rfl _ rfl _ _ _ _ h1 maskType rfl (maskSize _) ?_)
    | (go_at_call 26; refine (trim_any _ _).mono ?_; rintro e w' ⟨rfl, hb'⟩))
  go_loop [3, 8] (fun n i => ∃ k : Nat, k ≤ 23 ∧ i = .int .i64 k ∧ n = .int .i64 ((cnt (fun i => f i && decide (i < 1440)) (64 * k) : Nat) : Int)) (fun _ i => 23 - (intOf i).toNat)
  case atStart => exact ⟨0, by omega, rfl, rfl⟩
  case round =>
    obtain ⟨k, hk, rfl, rfl⟩ := hrel
    have hn := cnt_le (fun i => f i && decide (i < 1440)) (64 * k)
    by_cases hlt : k < 23
    · have hx := index_mask (fun i => f i && decide (i < 1440)) k hlt
      have hs := cnt_add (fun i => f i && decide (i < 1440)) (64 * k) 64
      have hw := cnt_word (fun i => f i && decide (i < 1440)) k
      have hl := wd_lt (fun i => f i && decide (i < 1440)) k
      have hc := cnt_le (fun j => (wd (fun i => f i && decide (i < 1440)) k).testBit j) 64
      have HS : Hid (cnt (fun i => f i && decide (i < 1440)) (64 * (k + 1)) = cnt (fun i => f i && decide (i < 1440)) (64 * k) + cnt (fun j => (wd (fun i => f i && decide (i < 1440)) k).testBit j) 64) := by
        rw [hw, ← hs]; rfl
      clear hs hw
      go_wp2_with (go_at_call 27; refine (pop_any _ hl _).mono ?_; rintro e w' ⟨rfl, rfl⟩)
      go_round
      case rel => exact ⟨k + 1, by omega, by go_num, by rw [HS.out]; go_num⟩
      case measure => simp [intOf]; omega
    · have : k = 23 := by omega
      subst this
      have e : cnt (fun i => f i && decide (i < 1440)) (64 * 23) = cnt f 1440 := by
        have h1 := cnt_add (fun i => f i && decide (i < 1440)) 1440 32
        have h2 : cnt (fun j => f (1440 + j) && decide (1440 + j < 1440)) 32 = 0 := cnt_false fun j _ => by
          have : ¬ 1440 + j < 1440 := by omega
          simp [this]
        rw [h2] at h1
        have h3 : cnt (fun i => f i && decide (i < 1440)) 1440 = cnt f 1440 := cnt_ext fun i hi => by simp [hi]
        rw [h3] at h1
        have h4 : 64 * 23 = 1440 + 32 := rfl
        rw [h4, h1, Nat.add_zero]
      have HE : Hid (cnt (fun i => f i && decide (i < 1440)) (64 * 23) = cnt f 1440) := e
      clear e
      go_wp2
      go_ret
      exact ⟨ret_val (int_eq (by rw [← HE.out])), hb0.trans (hb'.mono hb0.size)⟩
end Go.Proofs.YtgfjbcdjpkcbkaaGreatDoor

/- What masks.Holds comes to. -/
namespace Go.Proofs.YtgfjbcdjpkcbkaaGreatDoor
open Go.RowKit Msk
def hsp (f : Nat → Bool) (x y : Int) (i : Nat) (v : Value) (W : World) : Prop := match i with
  | 0 => v = .agg #[.int .i64 x, .int .i64 y]
  | 1 => ∃ g, v = .slice (some ⟨g, 0, none⟩) 1 1 ∧ W.heap[g]? = some (.cells #[.int .i64 x, .int .i64 y] 52 (0, 0))
  | 2 => v = .agg (mv (inl [(x, y)]))
  | 3 => v = .agg (mv f)
  | 4 => v = .agg (mv fun i => (inl [(x, y)] i && !f i) && decide (i < 1440))
  | 5 => v = .agg (mv fun _ => false)
  | 6 => v = .bool (eqm (fun i => (inl [(x, y)] i && !f i) && decide (i < 1440)) fun _ => false)
  | 7 => v = .bool (eqm (fun i => (inl [(x, y)] i && !f i) && decide (i < 1440)) fun _ => false)
  | _ => True
theorem hsp_mono {f : Nat → Bool} {x y : Int} {W W' : World} (hb : Below W.heap.size W W') (i : Nat) (v : Value) (h : hsp f x y i v W) : hsp f x y i v W' := by
  unfold hsp at *
  split at h
  · exact h
  · obtain ⟨g, h1, h2⟩ := h
    exact ⟨g, h1, (hb.block g (lt_of_block h2)).trans h2⟩
  all_goals exact h
def holdB (f : Nat → Bool) (x y : Int) : Bool := decide (0 ≤ x) && decide (y ≤ 1440) && decide (x ≤ y) && eqm (fun i => (inl [(x, y)] i && !f i) && decide (i < 1440)) fun _ => false
set_option maxRecDepth 10000 in
set_option maxHeartbeats 1000000 in
theorem holds_any (f : Nat → Bool) (x y : Int) (w : World) :
    Calls Tryz.prog 15 #[.agg (mv f), .agg #[.int .i64 x, .int .i64 y]] w fun e w' => e = .returned (.bool (holdB f x y)) ∧ Below w.heap.size w w' := by
  have hz := mv_lit
  have hb0 : Below w.heap.size w ((w.alloc (.cells (mv f) 43)).alloc (.cells #[.int .i64 x, .int .i64 y] 52)) := ((Below.refl _ _).alloc (Nat.le_refl _) _).alloc (by simp) _
  have h1 : ((w.alloc (.cells (mv f) 43)).alloc (.cells #[.int .i64 x, .int .i64 y] 52)).heap[w.heap.size]? = some (.cells (mv f) 43 (0, 0)) := by (repeat (first | refine blk_old _ _ _ (by simp only [size_alloc]; omega) ?_ | exact blk_new _ _ _ (by first | rfl | simp only [size_alloc])))
  have h2 : ((w.alloc (.cells (mv f) 43)).alloc (.cells #[.int .i64 x, .int .i64 y] 52)).heap[w.heap.size + 1]? = some (.cells #[.int .i64 x, .int .i64 y] 52 (0, 0)) := by (repeat (first | refine blk_old _ _ _ (by simp only [size_alloc]; omega) ?_ | exact blk_new _ _ _ (by first | rfl | simp only [size_alloc])))
  by_cases hx : x < 0
  · have e : holdB f x y = false := by unfold holdB; have : ¬ 0 ≤ x := by omega
                                       simp [this]
    rw [e]
    go_enter Tryz.func15, Tryz.ntmps15
    go_wp2
    go_ret
    exact ⟨rfl, hb0⟩
  · have hx' : 0 ≤ x := by omega
    clear hx
    by_cases hy : 1440 < y
    · have e : holdB f x y = false := by unfold holdB; have : ¬ y ≤ 1440 := by omega
                                         simp [this]
      rw [e]
      go_enter Tryz.func15, Tryz.ntmps15
      go_wp2
      go_ret
      exact ⟨rfl, hb0⟩
    · have hy' : y ≤ 1440 := by omega
      clear hy
      by_cases hxy : y < x
      · have e : holdB f x y = false := by unfold holdB; have : ¬ x ≤ y := by omega
                                           simp [this]
        rw [e]
        go_enter Tryz.func15, Tryz.ntmps15
        go_wp2
        go_ret
        exact ⟨rfl, hb0⟩
      · have hxy' : x ≤ y := by omega
        clear hxy
        have e : holdB f x y = eqm (fun i => (inl [(x, y)] i && !f i) && decide (i < 1440)) fun _ => false := by unfold holdB; simp [hx', hy', hxy']
        rw [e]
        clear e
        go_enter Tryz.func15, Tryz.ntmps15
        go_wp2
        refine wp_region_flow (by kernel_rfl) (by kernel_rfl) (by kernel_rfl) (by kernel_rfl) (fun _ _ W => Below (w.heap.size + 1 + 1) ((w.alloc (.cells (mv f) 43)).alloc (.cells #[.int .i64 x, .int .i64 y] 52)) W) (hsp f x y) ?_ ?_ ?_
        · intro L hL
          exact (Below.refl _ _).drew
        · intro i o L a W ho hLi hdep hJ hdef hkept hhas
          clear hdef hLi
          have fin : ∀ (v : Value) (d : Nat) (W' : World), Below W.heap.size W W' → hsp f x y i v W' → ∃ u, a.put (some d) v = a.put (some d) u ∧ (some d ≠ none → hsp f x y i u W') ∧ (∀ j x', L j = true → hsp f x y j x' W → hsp f x y j x' W') ∧ Below (w.heap.size + 1 + 1) ((w.alloc (.cells (mv f) 43)).alloc (.cells #[.int .i64 x, .int .i64 y] 52)) W' := by
            intro v d W' hb hv
            exact ⟨v, rfl, fun _ => hv, fun j x' _ h => hsp_mono hb j x' h, hJ.trans (hb.mono (by have := hJ.size; simp only [size_alloc] at this; omega))⟩
          match i, ho with
          | 0, ho =>
            cases Option.some.inj ho
            have hA : a.eval (.tmp 3) = .pointer (some ⟨w.heap.size + 1, 0, none⟩) := hkept 3 (fun j p hp _ => nd (by kernel_rfl) j p hp)
            have hg := (hJ.block _ (by omega)).trans h2
            refine wpOp_step rfl (fun K hK => ?_)
            show Oper.wp _ _ _ _ _ _
            refine wp_load_row 52 _ rfl _ hA _ _ _ _ hg Tryz.underlying52 rfl (by kernel_rfl) ?_
            exact hK _ _ (fin _ 20 _ (Below.refl _ _) rfl)
          | 1, ho =>
            cases Option.some.inj ho
            have hA : a.tmps[20]?.getD undef = .agg #[.int .i64 x, .int .i64 y] := by
              have := hhas 0 _ rfl (hdep ⟨0, .data⟩ (by simp) rfl) 20 rfl
              simpa [hsp] using this
            refine wpOp_step rfl (fun K hK => ?_)
            go_simp
            exact hK _ _ (fin _ 21 _ ((Below.refl _ _).alloc (Nat.le_refl _) _) ⟨_, rfl, heap_alloc_new W _⟩)
          | 2, ho =>
            cases Option.some.inj ho
            obtain ⟨g, hA0, hg⟩ := hhas 1 _ rfl (hdep ⟨1, .data⟩ (by simp) rfl) 21 rfl
            have hA : a.tmps[21]?.getD undef = .slice (some ⟨g, 0, none⟩) 1 1 := by simpa using hA0
            have hrow : Row W (.slice (some ⟨g, 0, none⟩) 1 1) [(x, y)] := row_at hg
            refine wpOp_step rfl (fun K hK => ?_)
            go_simp
            refine (of_any _ _ _ hrow).mono ?_
            rintro e W' ⟨rfl, hb⟩
            exact hK _ _ (fin _ 22 _ hb rfl)
          | 3, ho =>
            cases Option.some.inj ho
            have hA : a.eval (.tmp 2) = .pointer (some ⟨w.heap.size, 0, none⟩) := hkept 2 (fun j p hp _ => nd (by kernel_rfl) j p hp)
            have hg := (hJ.block _ (by omega)).trans h1
            refine wpOp_step rfl (fun K hK => ?_)
            show Oper.wp _ _ _ _ _ _
            refine wp_load_row 43 _ rfl _ hA _ _ _ _ hg maskType rfl (maskSize _) ?_
            exact hK _ _ (fin _ 23 _ (Below.refl _ _) rfl)
          | 4, ho =>
            cases Option.some.inj ho
            have hA : a.tmps[22]?.getD undef = .agg (mv (inl [(x, y)])) := by
              have := hhas 2 _ rfl (hdep ⟨2, .data⟩ (by simp) rfl) 22 rfl
              simpa [hsp] using this
            have hB : a.tmps[23]?.getD undef = .agg (mv f) := by
              have := hhas 3 _ rfl (hdep ⟨3, .data⟩ (by simp) rfl) 23 rfl
              simpa [hsp] using this
            refine wpOp_step rfl (fun K hK => ?_)
            go_simp
            refine (diff_any _ _ _).mono ?_
            rintro e W' ⟨rfl, hb⟩
            exact hK _ _ (fin _ 24 _ hb rfl)
          | 5, ho =>
            cases Option.some.inj ho
            refine wpOp_step rfl (fun K hK => ?_)
            go_simp
            exact hK _ _ (fin _ 25 _ (Below.refl _ _) rfl)
          | 6, ho =>
            cases Option.some.inj ho
            have hA : a.tmps[24]?.getD undef = .agg (mv fun i => (inl [(x, y)] i && !f i) && decide (i < 1440)) := by
              have := hhas 4 _ rfl (hdep ⟨4, .data⟩ (by simp) rfl) 24 rfl
              simpa [hsp] using this
            have hB : a.tmps[25]?.getD undef = .agg (mv fun _ => false) := by
              have := hhas 5 _ rfl (hdep ⟨5, .data⟩ (by simp) rfl) 25 rfl
              simpa [hsp] using this
            have he := eq_mask (fun i => (inl [(x, y)] i && !f i) && decide (i < 1440)) (fun _ => false)
            refine wpOp_step rfl (fun K hK => ?_)
            go_simp
            exact hK _ _ (fin _ 26 _ (Below.refl _ _) rfl)
          | 7, ho =>
            cases Option.some.inj ho
            have hA : a.tmps[26]?.getD undef = .bool (eqm (fun i => (inl [(x, y)] i && !f i) && decide (i < 1440)) fun _ => false) := by
              have := hhas 6 _ rfl (hdep ⟨6, .data⟩ (by simp) rfl) 26 rfl
              simpa [hsp] using this
            refine wpOp_step rfl (fun K hK => ?_)
            go_simp
            exact hK _ _ (fin _ 4 _ (Below.refl _ _) rfl)
          | k + 8, ho => simp at ho
        · intro L a W hL hJ hdef hsize hkept hhas
          have h4 : a.tmps[4]?.getD undef = .bool (eqm (fun i => (inl [(x, y)] i && !f i) && decide (i < 1440)) fun _ => false) := by
            have := hhas 7 _ rfl 4 rfl
            simpa [hsp] using this
          clear hL hkept hhas hsize hz
          go_wp2
          refine bodyPost_ret (v := .bool (eqm (fun i => (inl [(x, y)] i && !f i) && decide (i < 1440)) fun _ => false)) ?_ hdef ⟨rfl, hb0.trans (hJ.mono (by omega))⟩
          simp [results, Tryz.results15, h4]
end Go.Proofs.YtgfjbcdjpkcbkaaGreatDoor

/- A region that draws its order: some values are known beforehand; what is said of the others, and of the world, hangs on what has been done. It speaks of no program. -/
namespace Go.Proofs.YtgfjbcdjpkcbkaaGreatDoor
open Go Go.RowKit
section
variable {P : Program} {ops : Array Oper} {Q : Exit → Act → World → Prop} {id : Nat} {a0 : Act} {w : World}
def slotsOf (A : Act) : Nat → Value := fun s => A.tmps.getD s undef
def putF (φ : Nat → Value) (d : Option Nat) (v : Value) : Nat → Value := fun s => if d = some s then v else φ s
theorem putF_ne {φ : Nat → Value} {d s : Nat} {v : Value} (h : d ≠ s) : putF φ (some d) v s = φ s := by
  unfold putF
  rw [if_neg (fun e => h (Option.some.inj e))]
theorem putF_eq {φ : Nat → Value} {d : Nat} {v : Value} : putF φ (some d) v d = v := by
  unfold putF
  rw [if_pos rfl]
def StepZ (P : Program) (ops : Array Oper) (Q : Exit → Act → World → Prop) (ds : List (Option Nat × Option Value)) (a0 : Act) (J : (Nat → Bool) → (Nat → Value) → World → Prop) : Prop :=
  ∀ (i : Nat) (d : Option Nat) (x : Option Value) (o : Oper) (L : Nat → Bool) (A : Act) (W : World), ops[i]? = some o → ds[i]? = some (d, x) → L i = false → (∀ e ∈ o.after, Region.binds .any e = true → L e.on = true) → ClosL ops L → J L (slotsOf A) W →
    (∀ s, notDst ops s = true → A.tmps.getD s undef = a0.tmps.getD s undef) → (∀ (j s : Nat) (u : Value), ds[j]? = some (some s, some u) → L j = true → A.tmps.getD s undef = u) → wpOp P ops Q i (fun a' W' => ∃ v, a' = A.put d v ∧ (∀ u, x = some u → v = u) ∧ J (fun k => decide (i = k) || L k) (putF (slotsOf A) d v) W') A W
theorem wp_region_Z (J : (Nat → Bool) → (Nat → Value) → World → Prop) (hJ0 : ∀ L : Nat → Bool, (∀ i, i < ops.size → L i = false) → J L (slotsOf a0) w.drew) (hm : P.follows .mixedOrders = true) (hback : backB ops = true) (hdst : dstB ops = true) (hin : inB ops a0.tmps.size = true) (ds : List (Option Nat × Option Value))
    (hds : ops.toList.map (fun o => o.dst) = ds.map (fun p => p.1)) (hnd : decide ((ds.filterMap (fun p => p.1)).Nodup) = true) (ss : List Nat) (hss : ds.filterMap (fun p => p.1) = ss)
    (hstep : StepZ P ops Q ds a0 J) (hend : ∀ (L : Nat → Bool) (A : Act) (W : World), (∀ i, i < ops.size → L i = true) → J L (slotsOf A) W → (∀ (j s : Nat) (u : Value), ds[j]? = some (some s, some u) → A.tmps.getD s undef = u) →
      (∀ es : List (Nat × Value), es.map (fun p => p.1) = ss → (∀ (j s : Nat) (v : Value), es[j]? = some (s, v) → A.tmps.getD s undef = v) → A = putAll es a0) → Q .normal A W) : (Code.region id ops true).wp P Q a0 w := by
  have atD : ∀ {j : Nat} {p : Oper}, ops[j]? = some p → ∃ x, ds[j]? = some (p.dst, x) := fun {j p} hp => by
    have h1 : (ops.toList.map (fun o => o.dst))[j]? = some p.dst := by
      rw [List.getElem?_map, Array.getElem?_toList, hp]
      rfl
    rw [hds, List.getElem?_map] at h1
    cases hs : ds[j]? with
    | none => rw [hs] at h1; cases h1
    | some q =>
      rw [hs] at h1
      exact ⟨q.2, by rw [← Option.some.inj h1]⟩
  have hl : ds.length = ops.size := by
    have h := congrArg List.length hds
    simpa using h.symm
  have atO : ∀ {j : Nat} {d : Option Nat} {x : Option Value}, ds[j]? = some (d, x) → ∃ p, ops[j]? = some p ∧ p.dst = d := fun {j d x} hj => by
    have hj' := (List.getElem?_eq_some_iff.1 hj).1
    obtain ⟨p, hp⟩ : ∃ p, ops[j]? = some p := ⟨ops[j]'(by omega), Array.getElem?_eq_getElem _⟩
    obtain ⟨v', hv'⟩ := atD hp
    rw [hj] at hv'
    exact ⟨p, hp, (congrArg Prod.fst (Option.some.inj hv')).symm⟩
  refine wp_region_flow hm hback hdst hin (fun L A W => ClosL ops L ∧ A.tmps.size = a0.tmps.size ∧ J L (slotsOf A) W) (fun j x _ => ∀ d v, ds[j]? = some (d, some v) → x = v) ?_ ?_ ?_
  · intro L h
    refine ⟨fun j p hp hj => ?_, rfl, hJ0 L h⟩
    have := h j (Array.getElem?_eq_some_iff.1 hp).1
    rw [this] at hj; cases hj
  · intro i o L A W ho hLi hdep hJ hdef hkept hhas
    obtain ⟨hc, hsz, hJ⟩ := hJ
    have hi : i < ops.size := (Array.getElem?_eq_some_iff.1 ho).1
    have hc' : ClosL ops (fun k => decide (i = k) || L k) := by
      intro j p hp hj e he hb
      show (decide (i = e.on) || L e.on) = true
      by_cases hij : i = j
      · subst hij
        rw [ho] at hp
        cases hp
        rw [hdep e he hb]; simp
      · rw [hc j p hp (by simpa [hij] using hj) e he hb]; simp
    obtain ⟨x, hx⟩ := atD ho
    refine wpOp_mono ?_ (hstep i o.dst x o L A W ho hx hLi hdep hc hJ (fun s h => hkept s fun j p hp _ => nd h j p hp) (fun j s u hj hL => by
      obtain ⟨p, hp, hd⟩ := atO hj
      exact hhas j p hp hL s hd _ _ hj))
    rintro a' W' ⟨v, rfl, hv, hJ'⟩
    refine ⟨v, rfl, fun _ d u hdu => ?_, fun _ _ _ h => h, hc', by cases o.dst <;> simpa [Act.put] using hsz, ?_⟩
    · rw [hx] at hdu
      have e2 := congrArg Prod.snd (Option.some.inj hdu)
      exact hv u e2
    · have e : slotsOf (A.put o.dst v) = putF (slotsOf A) o.dst v := by
        funext s
        unfold slotsOf putF
        cases hd : o.dst with
        | none => rw [if_neg (by simp)]; rfl
        | some t =>
          by_cases hts : t = s
          · subst hts
            have htl : t < A.tmps.size := by
              have q1 := List.all_eq_true.1 hin i (by simpa using hi)
              rw [ho] at q1
              simp only [Option.bind_some, hd] at q1
              rw [hsz]
              simpa using q1
            rw [if_pos rfl]
            exact getD_set_same _ _ _ htl
          · rw [if_neg (fun e => hts (Option.some.inj e))]
            exact getD_set_other _ _ _ _ hts
      rw [e]
      exact hJ'
  · intro L A W hL hJ hdef hsize hkept hhas
    refine hend L A W hL hJ.2.2 (fun j s u hj => ?_) fun es he hv => ?_
    · obtain ⟨p, hp, hd⟩ := atO hj
      exact hhas j p hp s hd _ _ hj
    · refine act_is es hdef hsize ?_ (fun s h => hkept s fun j p hp e => ?_) hv
      · rw [show es.map (fun p => some p.1) = (es.map (fun p => p.1)).map some by rw [List.map_map]; rfl, he, ← hss]
        have h1 := of_decide_eq_true hnd
        unfold List.Nodup
        rw [List.pairwise_map]
        exact List.Pairwise.imp (fun h e => h (Option.some.inj e)) h1
      · obtain ⟨x, hx⟩ := atD hp
        rw [e] at hx
        have hm1 : s ∈ ds.filterMap (fun p => p.1) := List.mem_filterMap.2 ⟨(some s, x), List.mem_of_getElem? hx, rfl⟩
        rw [hss, ← he] at hm1
        obtain ⟨q, hq, hqs⟩ := List.mem_map.1 hm1
        exact h q hq hqs
end
end Go.Proofs.YtgfjbcdjpkcbkaaGreatDoor
