/- What masks.Of comes to, over a row of spans that lies in memory. -/
import Derived.Test.YtclkmldegjdohaaUb01
namespace Go.Proofs.Ytclkmldegjdohaa
open Go.RowKit Msk

/-- A row of spans in memory: the slice's value and its spans. -/
def Row (w : World) (v : Value) (l : List (Int × Int)) : Prop :=
  (∃ c, v = .slice none 0 c ∧ l = []) ∨ ∃ g o c : Nat, v = .slice (some ⟨g, o, none⟩) l.length c ∧ l.length < 9223372036854775808 ∧ ∀ j, j < l.length → w.cell? ⟨g, o + j * 2, none⟩ = some (.int .i64 (l.getD j (0, 0)).1) ∧ w.cell? ⟨g, o + j * 2 + 1, none⟩ = some (.int .i64 (l.getD j (0, 0)).2)
theorem Row.later {w w' : World} {v : Value} {l : List (Int × Int)} (h : Row w v l) (hb : Below w.heap.size w w') : Row w' v l := by
  rcases h with h | ⟨g, o, c, hv, hl, hc⟩
  · exact .inl h
  · refine .inr ⟨g, o, c, hv, hl, fun j hj => ?_⟩
    obtain ⟨c1, c2⟩ := hc j hj
    exact ⟨(hb.cell (block_lt_of_cell c1)).trans c1, (hb.cell (block_lt_of_cell c2)).trans c2⟩

/-- Is a minute in one of the spans? -/
def inl (l : List (Int × Int)) (i : Nat) : Bool := l.any fun s => decide (s.1 ≤ (i : Int)) && decide ((i : Int) < s.2) && decide (i < 1440)
theorem inl_snoc (l : List (Int × Int)) (k : Nat) (hk : k < l.length) : (mv fun i => inl (l.take k) i || (decide ((l.getD k (0, 0)).1 ≤ (i : Int)) && decide ((i : Int) < (l.getD k (0, 0)).2) && decide (i < 1440))) = mv (inl (l.take (k + 1))) := by
  have e : l.take (k + 1) = l.take k ++ [l.getD k (0, 0)] := by
    rw [List.take_succ_eq_append_getElem hk]; simp [List.getD, hk]
  refine mv_ext fun i _ => ?_
  rw [e]
  simp [inl]

set_option maxHeartbeats 1000000 in
theorem of_any (v : Value) (l : List (Int × Int)) (w : World) (hl : Row w v l) :
    Calls Try.prog 64 #[v] w fun e w' => e = .returned (.agg (mv (inl l))) ∧ Below w.heap.size w w' := by
  have hz := mv_lit
  have h1 : ((w.alloc (.cells (mv fun _ => false) 25)).alloc (.cells (mv fun _ => false) 25)).heap[w.heap.size]? = some (.cells (mv fun _ => false) 25 (0, 0)) := by (repeat (first | refine blk_old _ _ _ (by simp only [size_alloc]; omega) ?_ | exact blk_new _ _ _ (by first | rfl | simp only [size_alloc])))
  have h2 : ((w.alloc (.cells (mv fun _ => false) 25)).alloc (.cells (mv fun _ => false) 25)).heap[w.heap.size + 1]? = some (.cells (mv fun _ => false) 25 (0, 0)) := by (repeat (first | refine blk_old _ _ _ (by simp only [size_alloc]; omega) ?_ | exact blk_new _ _ _ (by first | rfl | simp only [size_alloc])))
  have hb0 : Below w.heap.size w ((w.alloc (.cells (mv fun _ => false) 25)).alloc (.cells (mv fun _ => false) 25)) := ((Below.refl _ _).alloc (Nat.le_refl _) _).alloc (by simp) _
  rcases hl with ⟨c, rfl, rfl⟩ | ⟨g, o, c, rfl, hlen, hcell⟩
  · go_enter Try.func64, Try.ntmps64
    go_wp2
    refine wp_loop_rounds 1 ?_
    rw [rounds_succ]
    go_wp2_with (first
      | (refine wpList_load_row rfl 25 _ rfl _ rfl _ _ _ _ h2 maskType rfl (maskSize _) ?_)
      | (refine wpList_store_row rfl 25 _ _ rfl _ _ rfl rfl _ _ h1 (maskSize _) (by simp [mv_size]) (mv_all _) ?_))
    refine bodyPost_ret (v := .agg (mv (inl []))) ?_ rfl ⟨rfl, below_setRow hb0 (Nat.le_refl _) _⟩
    exact results_cell_row rfl _ _ w.heap.size _ _ _ _ rfl (setRow_heap _ _ _ _ _ _ h1) maskType rfl (maskSize _)
  · have HC : Hid (∀ j, j < l.length → w.cell? ⟨g, o + j * 2, none⟩ = some (.int .i64 (l.getD j (0, 0)).1) ∧ w.cell? ⟨g, o + j * 2 + 1, none⟩ = some (.int .i64 (l.getD j (0, 0)).2)) := hcell
    clear hcell
    go_enter Try.func64, Try.ntmps64
    go_wp2
    go_loopw [8] (fun i wr => ∃ k : Nat, k ≤ l.length ∧ i = .int .i64 k ∧ wr.heap[w.heap.size]? = some (.cells (mv fun _ => false) 25 (0, 0)) ∧ wr.heap[w.heap.size + 1]? = some (.cells (mv (inl (l.take k))) 25 (0, 0)) ∧ Below w.heap.size w wr) (fun i _ => l.length - (intOf i).toNat)
    case atStart => exact ⟨0, Nat.zero_le _, rfl, h1, blk_eq h2 (mv_ext fun i _ => by simp [inl]), hb0⟩
    case round =>
      obtain ⟨k, hk, rfl, ho, hm, hbel⟩ := hrel
      by_cases hlt : k < l.length
      · obtain ⟨c1, c2⟩ := HC.out k hlt
        have d1 := (hbel.cell (block_lt_of_cell c1)).trans c1
        have d2 := (hbel.cell (block_lt_of_cell c2)).trans c2
        have hsn := inl_snoc l k hlt
        generalize hs : l.getD k (0, 0) = s at d1 d2 hsn
        obtain ⟨x, y⟩ := s
        dsimp only at d1 d2 hsn
        have HS : Hid ((mv fun i => inl (l.take k) i || (decide (x ≤ (i : Int)) && decide ((i : Int) < y) && decide (i < 1440))) = mv (inl (l.take (k + 1)))) := hsn
        have hm2 := blk_old _ (.cells #[.int .i64 x, .int .i64 y] 97) _ (lt_of_block hm) hm
        have ho2 := blk_old _ (.cells #[.int .i64 x, .int .i64 y] 97) _ (lt_of_block ho) ho
        have hb2 := hbel.alloc hbel.size (.cells #[.int .i64 x, .int .i64 y] 97)
        clear c1 c2 hsn hs
        go_wp2_with (go_at_call 76; refine (fill_any _ _ _ _ _ hm2).mono ?_; rintro e w' ⟨rfl, hm', hb'⟩)
        go_roundw
        case rel => exact ⟨k + 1, by omega, by go_num, (hb'.block _ (by omega)).trans ho2, blk_eq hm' HS.out, hb2.trans (hb'.mono (by omega))⟩
        case measure => simp [intOf]; omega
      · have hkl : k = l.length := by omega
        subst hkl
        have hm2 := blk_eq hm (by rw [List.take_length])
        clear hm
        go_wp2_with (first
          | (refine wpList_load_row rfl 25 _ rfl _ rfl _ _ _ _ hm2 maskType rfl (maskSize _) ?_)
          | (refine wpList_store_row rfl 25 _ _ rfl _ _ rfl rfl _ _ ho (maskSize _) (by simp [mv_size]) (mv_all _) ?_))
        refine bodyPost_ret (v := .agg (mv (inl l))) ?_ rfl ⟨rfl, below_setRow hbel (Nat.le_refl _) _⟩
        exact results_cell_row rfl _ _ w.heap.size _ _ _ _ rfl (setRow_heap _ _ _ _ _ _ ho) maskType rfl (maskSize _)
end Go.Proofs.Ytclkmldegjdohaa

/- Code, plainly: who calls whom; what is wrong with an instruction, with a rule's code, with all. -/
namespace Vx

/-- One way after the other, at least one. -/
abbrev Way (E : Nat → Nat → Bool) (i k : Nat) : Prop := Relation.TransGen (fun a b => E a b = true) i k
/-- All ways at once, through the first so many. -/
def wars (E : Nat → Nat → Bool) : Nat → Nat → Nat → Bool
  | 0, i, k => E i k
  | m + 1, i, k => wars E m i k || (wars E m i m && wars E m m k)
theorem wars_mono {E : Nat → Nat → Bool} {m i k : Nat} (h : wars E m i k = true) : ∀ d, wars E (m + d) i k = true
  | 0 => h
  | d + 1 => by
    show wars E ((m + d) + 1) i k = true
    simp only [wars, wars_mono h d, Bool.true_or]
theorem wars_cat {E : Nat → Nat → Bool} {m i j k : Nat} (hj : j < m) (h1 : wars E m i j = true) (h2 : wars E m j k = true) : wars E m i k = true := by
  induction m generalizing i j k with
  | zero => omega
  | succ m ih =>
    by_cases hjm : j = m
    · subst hjm
      simp only [wars, Bool.or_eq_true, Bool.and_eq_true] at h1 h2 ⊢
      have a : wars E j i j = true := by
        rcases h1 with h | ⟨h, _⟩ <;> exact h
      have b : wars E j j k = true := by
        rcases h2 with h | ⟨_, h⟩ <;> exact h
      exact .inr ⟨a, b⟩
    · have hj' : j < m := by omega
      simp only [wars, Bool.or_eq_true, Bool.and_eq_true] at h1 h2 ⊢
      rcases h1 with h1 | ⟨h1, h1'⟩
      · rcases h2 with h2 | ⟨h2, h2'⟩
        · exact .inl (ih hj' h1 h2)
        · exact .inr ⟨ih hj' h1 h2, h2'⟩
      · rcases h2 with h2 | ⟨h2, h2'⟩
        · exact .inr ⟨h1, ih hj' h1' h2⟩
        · exact .inr ⟨h1, h2'⟩
/-- From one to the next one fewer are reached. -/
def rk (E : Nat → Nat → Bool) (n i : Nat) : Nat := Msk.cnt (fun k => wars E n i k) n
theorem cnt_mono {f g : Nat → Bool} : ∀ {n : Nat}, (∀ k, k < n → f k = true → g k = true) → Msk.cnt f n ≤ Msk.cnt g n
  | 0, _ => Nat.le_refl _
  | n + 1, h => by
    have ih := cnt_mono (f := f) (g := g) (n := n) (fun k hk => h k (by omega))
    simp only [Msk.cnt]
    have := h n (by omega)
    cases hf : f n with
    | false => cases g n <;> simp <;> omega
    | true => rw [this hf]; simp; omega
theorem cnt_less {f g : Nat → Bool} : ∀ {n s : Nat}, s < n → (∀ k, k < n → f k = true → g k = true) → f s = false → g s = true → Msk.cnt f n < Msk.cnt g n
  | 0, _, hs, _, _, _ => by omega
  | n + 1, s, hs, h, h1, h2 => by
    simp only [Msk.cnt]
    by_cases e : s = n
    · subst e
      have := cnt_mono (f := f) (g := g) (n := s) (fun k hk => h k (by omega))
      rw [h1, h2]; simp; omega
    · have ih := cnt_less (f := f) (g := g) (n := n) (s := s) (by omega) (fun k hk => h k (by omega)) h1 h2
      have := h n (by omega)
      cases hf : f n with
      | false => cases g n <;> simp <;> omega
      | true => rw [this hf]; simp; omega
theorem rk_less {E : Nat → Nat → Bool} {n i s : Nat} (hs : s < n) (hE : E i s = true) (hc : wars E n s s = false) : rk E n s < rk E n i := by
  have h0 : wars E n i s = true := by have := wars_mono (E := E) (m := 0) hE n; simpa using this
  exact cnt_less hs (fun k _ hk => wars_cat hs h0 hk) hc h0
theorem rk_le (E : Nat → Nat → Bool) (n i : Nat) : rk E n i ≤ n := Msk.cnt_le _ _

/-- An instruction, and the code of a rule. -/
structure In where
  op : Int
  a : Int
  b : Int
  to : Int
  sp : List (Int × Int)
structure Cd where
  ins : List In
  high : Int
  steps : Int
def in0 : In := ⟨0, 0, 0, 0, []⟩
def cd0 : Cd := ⟨[], 0, 0⟩
/-- Spans one behind the other, with a minute between, in the day. -/
def risL : List (Int × Int) → Int → Bool
  | [], _ => true
  | s :: l, e => if s.1 ≤ e ∨ s.2 ≤ s.1 ∨ 1440 < s.2 then false else risL l s.2
theorem risL_step {l : List (Int × Int)} {j : Nat} {s : Int × Int} {e : Int} (h : l[j]? = some s) : risL (l.drop j) e = if s.1 ≤ e ∨ s.2 ≤ s.1 ∨ 1440 < s.2 then false else risL (l.drop (j + 1)) s.2 := by
  obtain ⟨h1, h2⟩ := List.getElem?_eq_some_iff.1 h
  rw [List.drop_eq_getElem_cons h1, h2]; rfl
/-- What is wrong with an instruction, at its place, of so many, and so many rules. -/
def insE (x : In) (k n rules : Nat) : Int :=
  if x.op = 2 ∨ x.op = 3 ∨ x.op = 4 then 0
  else if x.op = 1 then (if risL x.sp (-1) = true then 0 else 2)
  else if x.op = 5 then (if x.a ≠ 0 ∧ -1439 ≤ x.a ∧ x.a ≤ 1439 then 0 else 3)
  else if x.op = 6 then (if (k : Int) + 2 ≤ x.to ∧ x.to ≤ n then (if 1 ≤ x.a ∧ x.a ≤ 127 then 0 else 3) else 8)
  else if x.op = 7 then (if (k : Int) + 2 ≤ x.to ∧ x.to ≤ n then (if 0 ≤ x.a ∧ x.a ≤ x.b ∧ x.b < 146097 then 0 else 3) else 8)
  else if x.op = 8 then (if 0 ≤ x.a ∧ x.a < rules then 0 else 6)
  else 1
def insL : List In → Nat → Nat → Nat → Int
  | [], _, _, _ => 0
  | x :: l, k, n, r => if insE x k n r ≠ 0 then insE x k n r else insL l (k + 1) n r
theorem insL_step {l : List In} {j n r : Nat} {x : In} (h : l[j]? = some x) : insL (l.drop j) j n r = if insE x j n r ≠ 0 then insE x j n r else insL (l.drop (j + 1)) (j + 1) n r := by
  obtain ⟨h1, h2⟩ := List.getElem?_eq_some_iff.1 h
  rw [List.drop_eq_getElem_cons h1, h2]; rfl
theorem insL_ok {n r : Nat} : ∀ {l : List In} {k : Nat}, insL l k n r = 0 → ∀ j x, l[j]? = some x → insE x (k + j) n r = 0
  | [], _, _, j, x, hj => by simp at hj
  | y :: l, k, h, j, x, hj => by
    by_cases hy : insE y k n r = 0
    · have h' : insL l (k + 1) n r = 0 := by simpa [insL, hy] using h
      cases j with
      | zero => simp at hj; subst hj; simpa using hy
      | succ j =>
        have := insL_ok h' j x (by simpa using hj)
        rw [show k + (j + 1) = k + 1 + j by omega]; exact this
    · exfalso
      simp [insL, hy] at h
/-- What is wrong with a rule's code by itself. -/
def aloneE (c : Cd) (rules : Nat) : Int :=
  if ¬ (1 ≤ c.ins.length ∧ c.ins.length ≤ 2000) then 5
  else if ¬ ((1 ≤ c.high ∧ c.high ≤ 100) ∧ (1 ≤ c.steps ∧ c.steps ≤ 20000)) then 4
  else insL c.ins 0 c.ins.length rules
/-- The first one of which something is wrong. -/
def firstF (E : Nat → Int) : Nat → Nat → Int × Nat
  | 0, _ => (0, 0)
  | m + 1, i => if E i ≠ 0 then (E i, i) else firstF E m (i + 1)
theorem firstF_ext {E F : Nat → Int} : ∀ (m i : Nat), (∀ j, i ≤ j → j < i + m → E j = F j) → firstF E m i = firstF F m i
  | 0, _, _ => rfl
  | m + 1, i, h => by
    simp only [firstF]
    rw [h i (by omega) (by omega), firstF_ext m (i + 1) (fun j h1 h2 => h j (by omega) (by omega))]
theorem firstF_ok {E : Nat → Int} : ∀ (m i : Nat), (firstF E m i).1 = 0 → firstF E m i = (0, 0) ∧ ∀ j, i ≤ j → j < i + m → E j = 0
  | 0, _, _ => ⟨rfl, fun j h1 h2 => by omega⟩
  | m + 1, i, h => by
    by_cases he : E i = 0
    · have e1 : firstF E (m + 1) i = firstF E m (i + 1) := by simp [firstF, he]
      rw [e1] at h ⊢
      obtain ⟨h1, h2⟩ := firstF_ok m (i + 1) h
      refine ⟨h1, fun j hj hl => ?_⟩
      by_cases e : j = i
      · rw [e]; exact he
      · exact h2 j (by omega) (by omega)
    · exfalso
      simp [firstF, he] at h
/-- What an instruction does to the height; how much it takes; is it a guard? -/
def eff (x : In) : Int := if x.op = 1 ∨ x.op = 8 then 1 else if x.op = 2 ∨ x.op = 3 ∨ x.op = 4 then -1 else 0
def tk (x : In) : Int := if x.op = 5 then 1 else if x.op = 2 ∨ x.op = 3 ∨ x.op = 4 then 2 else 0
def isG (x : In) : Prop := x.op = 6 ∨ x.op = 7
/-- How high the stack is at a place. -/
def hAt (l : List In) : Nat → Int
  | 0 => 0
  | j + 1 => hAt l j + eff (l.getD j in0)
def mxH (cs : List Cd) (l : List In) : Nat → Int
  | 0 => 0
  | j + 1 => max (if (l.getD j in0).op = 8 then max (mxH cs l j) (hAt l j + (cs.getD (l.getD j in0).a.toNat cd0).high) else mxH cs l j) (hAt l (j + 1))
def stS (cs : List Cd) (l : List In) : Nat → Int
  | 0 => 0
  | j + 1 => stS cs l j + 1 + (if (l.getD j in0).op = 8 then (cs.getD (l.getD j in0).a.toNat cd0).steps else 0)
theorem getD_of {l : List In} {j : Nat} {x : In} (h : l[j]? = some x) : l.getD j in0 = x := by simp [List.getD, h]
theorem hAt_step {l : List In} {j : Nat} {x : In} (h : l[j]? = some x) : hAt l (j + 1) = hAt l j + eff x := by rw [hAt, getD_of h]
theorem mxH_step {cs : List Cd} {l : List In} {j : Nat} {x : In} (h : l[j]? = some x) : mxH cs l (j + 1) = max (if x.op = 8 then max (mxH cs l j) (hAt l j + (cs.getD x.a.toNat cd0).high) else mxH cs l j) (hAt l (j + 1)) := by rw [mxH, getD_of h]
theorem stS_step {cs : List Cd} {l : List In} {j : Nat} {x : In} (h : l[j]? = some x) : stS cs l (j + 1) = stS cs l j + 1 + (if x.op = 8 then (cs.getD x.a.toNat cd0).steps else 0) := by rw [stS, getD_of h]
theorem mxH_le (cs : List Cd) (l : List In) (j : Nat) : mxH cs l j ≤ mxH cs l (j + 1) := by
  simp only [mxH]
  split <;> omega
theorem mxH_mono (cs : List Cd) (l : List In) {j k : Nat} (h : j ≤ k) : mxH cs l j ≤ mxH cs l k := by
  obtain ⟨d, rfl⟩ := Nat.exists_eq_add_of_le h
  clear h
  induction d with
  | zero => exact Int.le_refl _
  | succ d ih => exact Int.le_trans ih (mxH_le cs l (j + d))
theorem hAt_mx (cs : List Cd) (l : List In) : ∀ j, hAt l j ≤ mxH cs l j
  | 0 => Int.le_refl _
  | j + 1 => by
    simp only [mxH]
    omega
theorem hAt_top {cs : List Cd} {l : List In} {j n : Nat} (h : j ≤ n) : hAt l j ≤ mxH cs l n := Int.le_trans (hAt_mx cs l j) (mxH_mono cs l h)
theorem call_top {cs : List Cd} {l : List In} {j n : Nat} {x : In} (hj : l[j]? = some x) (h : j < n) (ho : x.op = 8) : hAt l j + (cs.getD x.a.toNat cd0).high ≤ mxH cs l n := by
  refine Int.le_trans ?_ (mxH_mono cs l (show j + 1 ≤ n by omega))
  rw [mxH_step hj, if_pos ho]
  omega
/-- The stack is used well. -/
structure WellV (l : List In) : Prop where
  tk : ∀ j x, l[j]? = some x → tk x ≤ hAt l j
  to : ∀ j x, l[j]? = some x → isG x → hAt l x.to.toNat = hAt l j + 1
  fin : hAt l l.length = 1
/-- It is as high, and takes as many steps, as it says. -/
structure FitV (cs : List Cd) (c : Cd) : Prop where
  well : WellV c.ins
  high : mxH cs c.ins c.ins.length = c.high
  steps : stS cs c.ins c.ins.length = c.steps
def wellB (l : List In) : Bool := ((List.range l.length).all fun j => decide (tk (l.getD j in0) ≤ hAt l j) && (!(decide ((l.getD j in0).op = 6) || decide ((l.getD j in0).op = 7)) || decide (hAt l (l.getD j in0).to.toNat = hAt l j + 1))) && decide (hAt l l.length = 1)
theorem wellB_iff {l : List In} : wellB l = true ↔ WellV l := by
  unfold wellB
  rw [Bool.and_eq_true, List.all_eq_true, decide_eq_true_eq]
  constructor
  · rintro ⟨h1, h2⟩
    refine ⟨fun j x hx => ?_, fun j x hx hg => ?_, h2⟩
    · have h3 := h1 j (List.mem_range.2 (List.getElem?_eq_some_iff.1 hx).1)
      rw [getD_of hx, Bool.and_eq_true, decide_eq_true_eq] at h3
      exact h3.1
    · have h3 := h1 j (List.mem_range.2 (List.getElem?_eq_some_iff.1 hx).1)
      rw [getD_of hx, Bool.and_eq_true, Bool.or_eq_true] at h3
      rcases h3.2 with h4 | h4
      · unfold isG at hg
        rcases hg with e | e <;> simp [e] at h4
      · exact of_decide_eq_true h4
  · intro h
    refine ⟨fun j hj => ?_, h.fin⟩
    have hj' := List.mem_range.1 hj
    have hx : l[j]? = some l[j] := List.getElem?_eq_getElem hj'
    rw [getD_of hx, Bool.and_eq_true, Bool.or_eq_true]
    refine ⟨decide_eq_true (h.tk j _ hx), ?_⟩
    by_cases hg : isG l[j]
    · exact .inr (decide_eq_true (h.to j _ hx hg))
    · left
      unfold isG at hg
      have h6 : ¬ (l[j]).op = 6 := fun e => hg (.inl e)
      have h7 : ¬ (l[j]).op = 7 := fun e => hg (.inr e)
      simp [h6, h7]
def fitB (cs : List Cd) (c : Cd) : Bool := wellB c.ins && (decide (mxH cs c.ins c.ins.length = c.high) && decide (stS cs c.ins c.ins.length = c.steps))
theorem fitB_iff {cs : List Cd} {c : Cd} : fitB cs c = true ↔ FitV cs c := by
  unfold fitB
  rw [Bool.and_eq_true, Bool.and_eq_true, decide_eq_true_eq, decide_eq_true_eq, wellB_iff]
  exact ⟨fun h => ⟨h.1, h.2.1, h.2.2⟩, fun h => ⟨h.well, h.high, h.steps⟩⟩
/-- Who calls whom. -/
def callE (cs : List Cd) (i k : Nat) : Bool := (cs.getD i cd0).ins.any fun x => decide (x.op = 8) && decide (x.a = (k : Int))
def lateE (cs : List Cd) (i : Nat) : Int := if wars (callE cs) cs.length i i = true then 9 else if fitB cs (cs.getD i cd0) = true then 0 else 8
def wrongV (cs : List Cd) : Int × Nat :=
  if 40 < cs.length then (5, 0)
  else if (firstF (fun i => aloneE (cs.getD i cd0) cs.length) cs.length 0).1 ≠ 0 then firstF (fun i => aloneE (cs.getD i cd0) cs.length) cs.length 0
  else firstF (lateE cs) cs.length 0
/-- Right code. -/
structure Right (cs : List Cd) : Prop where
  len : cs.length ≤ 40
  alone : ∀ (i : Nat) (c : Cd), cs[i]? = some c → aloneE c cs.length = 0
  cyc : ∀ i, i < cs.length → wars (callE cs) cs.length i i = false
  fit : ∀ (i : Nat) (c : Cd), cs[i]? = some c → FitV cs c
theorem cd_at {cs : List Cd} {i : Nat} {c : Cd} (h : cs[i]? = some c) : cs.getD i cd0 = c := by simp [List.getD, h]
theorem wrong_right {cs : List Cd} (h : (wrongV cs).1 = 0) : Right cs := by
  unfold wrongV at h
  by_cases h1 : 40 < cs.length
  · rw [if_pos h1] at h; simp at h
  · rw [if_neg h1] at h
    by_cases h2 : (firstF (fun i => aloneE (cs.getD i cd0) cs.length) cs.length 0).1 ≠ 0
    · rw [if_pos h2] at h; exact absurd h h2
    · rw [if_neg h2] at h
      have a := (firstF_ok _ _ (Decidable.not_not.1 h2)).2
      have b := (firstF_ok _ _ h).2
      refine ⟨by omega, fun i c hi => ?_, fun i hi => ?_, fun i c hi => ?_⟩
      · have := a i (by omega) (by have := (List.getElem?_eq_some_iff.1 hi).1; omega)
        rw [cd_at hi] at this; exact this
      · have := b i (by omega) (by omega)
        unfold lateE at this
        cases hw : wars (callE cs) cs.length i i with
        | false => rfl
        | true => rw [if_pos hw] at this; simp at this
      · have := b i (by omega) (by have := (List.getElem?_eq_some_iff.1 hi).1; omega)
        unfold lateE at this
        rw [cd_at hi] at this
        by_cases hw : wars (callE cs) cs.length i i = true
        · rw [if_pos hw] at this; simp at this
        · rw [if_neg hw] at this
          by_cases hf : fitB cs c = true
          · exact fitB_iff.1 hf
          · rw [if_neg hf] at this; simp at this
theorem alone_ins {c : Cd} {r : Nat} (h : aloneE c r = 0) : (1 ≤ c.ins.length ∧ c.ins.length ≤ 2000) ∧ ((1 ≤ c.high ∧ c.high ≤ 100) ∧ (1 ≤ c.steps ∧ c.steps ≤ 20000)) ∧ ∀ j x, c.ins[j]? = some x → insE x j c.ins.length r = 0 := by
  unfold aloneE at h
  by_cases h1 : 1 ≤ c.ins.length ∧ c.ins.length ≤ 2000
  · rw [if_neg (fun e => e h1)] at h
    by_cases h2 : (1 ≤ c.high ∧ c.high ≤ 100) ∧ (1 ≤ c.steps ∧ c.steps ≤ 20000)
    · rw [if_neg (fun e => e h2)] at h
      refine ⟨h1, h2, fun j x hj => ?_⟩
      have := insL_ok h j x hj
      simpa using this
    · rw [if_pos h2] at h; simp at h
  · rw [if_pos h1] at h; simp at h
/-- What is right of an instruction with which nothing is wrong. -/
theorem ins_call {x : In} {k n r : Nat} (h : insE x k n r = 0) (ho : x.op = 8) : 0 ≤ x.a ∧ x.a < r := by
  simp only [insE, ho] at h
  simp only [show ¬ ((8 : Int) = 2 ∨ (8 : Int) = 3 ∨ (8 : Int) = 4) by omega, show ¬ (8 : Int) = 1 by omega, show ¬ (8 : Int) = 5 by omega, show ¬ (8 : Int) = 6 by omega, show ¬ (8 : Int) = 7 by omega, if_false, if_true] at h
  by_cases hh : 0 ≤ x.a ∧ x.a < r
  · exact hh
  · rw [if_neg hh] at h; simp at h
theorem ins_to {x : In} {k n r : Nat} (h : insE x k n r = 0) (ho : isG x) : (k : Int) + 2 ≤ x.to ∧ x.to ≤ n := by
  rcases ho with ho | ho
  · simp only [insE, ho] at h
    simp only [show ¬ ((6 : Int) = 2 ∨ (6 : Int) = 3 ∨ (6 : Int) = 4) by omega, show ¬ (6 : Int) = 1 by omega, show ¬ (6 : Int) = 5 by omega, if_false, if_true] at h
    by_cases hh : (k : Int) + 2 ≤ x.to ∧ x.to ≤ n
    · exact hh
    · rw [if_neg hh] at h; simp at h
  · simp only [insE, ho] at h
    simp only [show ¬ ((7 : Int) = 2 ∨ (7 : Int) = 3 ∨ (7 : Int) = 4) by omega, show ¬ (7 : Int) = 1 by omega, show ¬ (7 : Int) = 5 by omega, show ¬ (7 : Int) = 6 by omega, if_false, if_true] at h
    by_cases hh : (k : Int) + 2 ≤ x.to ∧ x.to ≤ n
    · exact hh
    · rw [if_neg hh] at h; simp at h
end Vx

/- How heights are found, plainly: by a map of places, and by a row of places. -/
namespace Vx

/-- Numbers by numbers, the first one counts. -/
def lk : List (Int × Int) → Int → Option Int
  | [], _ => none
  | e :: L, k => if k = e.1 then some e.2 else lk L k
def upL : List (Int × Int) → Int → Int → List (Int × Int)
  | [], k, v => [(k, v)]
  | e :: L, k, v => if k = e.1 then (k, v) :: L else e :: upL L k v
theorem lk_up : ∀ (L : List (Int × Int)) (k v q : Int), lk (upL L k v) q = if q = k then some v else lk L q
  | [], k, v, q => by simp [upL, lk]
  | e :: L, k, v, q => by
    unfold upL
    by_cases h : k = e.1
    · rw [if_pos h]
      simp only [lk]
      by_cases hq : q = k
      · rw [if_pos hq, if_pos hq]
      · rw [if_neg hq, if_neg hq, if_neg (fun e' => hq (e'.trans h.symm))]
    · rw [if_neg h]
      simp only [lk]
      rw [lk_up L k v q]
      by_cases hq : q = e.1
      · rw [if_pos hq, if_neg (fun e' => h (e'.symm.trans hq)), if_pos hq]
      · rw [if_neg hq, if_neg hq]
/-- What is known ahead of a place, with a map of those that guards lead to. -/
structure MInv (l : List In) (k : Nat) (L : List (Int × Int)) : Prop where
  set : ∀ (j : Nat) (x : In), j < k → l[j]? = some x → isG x → lk L x.to = some (hAt l j + 1)
  got : ∀ p v, lk L p = some v → ∃ (j : Nat) (x : In), j < k ∧ l[j]? = some x ∧ isG x ∧ x.to = p ∧ v = hAt l j + 1
  tk : ∀ (j : Nat) (x : In), j < k → l[j]? = some x → tk x ≤ hAt l j
  met : ∀ p : Nat, p < k → ∀ v, lk L (p : Int) = some v → v = hAt l p
/-- Guards lead on, and not too far. -/
def Tos (l : List In) : Prop := ∀ (j : Nat) (x : In), l[j]? = some x → isG x → (j : Int) + 2 ≤ x.to ∧ x.to ≤ l.length
theorem MInv.nil (l : List In) : MInv l 0 [] := ⟨fun j x h => by omega, fun p v h => by simp [lk] at h, fun j x h => by omega, fun p h => by omega⟩
theorem MInv.step {l : List In} {k : Nat} {L : List (Int × Int)} {x : In} (h : MInv l k L) (hT : Tos l) (hx : l[k]? = some x) (ht : Vx.tk x ≤ hAt l k) (hm : ∀ v, lk L (k : Int) = some v → v = hAt l k) (hg : ¬ isG x) : MInv l (k + 1) L := by
  have _ := hT
  refine ⟨fun j y hj hy hgy => ?_, fun p v hp => ?_, fun j y hj hy => ?_, fun p hp v hv => ?_⟩
  · by_cases e : j = k
    · subst e; rw [hx] at hy; cases hy; exact absurd hgy hg
    · exact h.set j y (by omega) hy hgy
  · obtain ⟨j, y, h1, h2⟩ := h.got p v hp
    exact ⟨j, y, by omega, h2⟩
  · by_cases e : j = k
    · subst e; rw [hx] at hy; cases hy; exact ht
    · exact h.tk j y (by omega) hy
  · by_cases e : p = k
    · subst e; exact hm v hv
    · exact h.met p (by omega) v hv
theorem MInv.stepG {l : List In} {k : Nat} {L : List (Int × Int)} {x : In} (h : MInv l k L) (hT : Tos l) (hx : l[k]? = some x) (ht : Vx.tk x ≤ hAt l k) (hm : ∀ v, lk L (k : Int) = some v → v = hAt l k) (hg : isG x) (ha : ∀ v, lk L x.to = some v → v = hAt l k + 1) : MInv l (k + 1) (upL L x.to (hAt l k + 1)) := by
  have t := hT k x hx hg
  refine ⟨fun j y hj hy hgy => ?_, fun p v hp => ?_, fun j y hj hy => ?_, fun p hp v hv => ?_⟩
  · rw [lk_up]
    by_cases e : j = k
    · subst e; rw [hx] at hy; cases hy; rw [if_pos rfl]
    · have := h.set j y (by omega) hy hgy
      by_cases e2 : y.to = x.to
      · rw [if_pos e2]
        rw [e2] at this
        rw [ha _ this]
      · rw [if_neg e2]; exact this
  · rw [lk_up] at hp
    by_cases e : p = x.to
    · rw [if_pos e] at hp
      exact ⟨k, x, by omega, hx, hg, e.symm, (Option.some.inj hp).symm⟩
    · rw [if_neg e] at hp
      obtain ⟨j, y, h1, h2⟩ := h.got p v hp
      exact ⟨j, y, by omega, h2⟩
  · by_cases e : j = k
    · subst e; rw [hx] at hy; cases hy; exact ht
    · exact h.tk j y (by omega) hy
  · rw [lk_up, if_neg (by omega)] at hv
    by_cases e : p = k
    · subst e; exact hm v hv
    · exact h.met p (by omega) v hv
theorem not_tk {l : List In} {k : Nat} {x : In} (hx : l[k]? = some x) (h : hAt l k < tk x) : ¬ WellV l := fun hw => by
  have := hw.tk k x hx
  omega
theorem MInv.not_met {l : List In} {k : Nat} {L : List (Int × Int)} (h : MInv l k L) {p : Nat} {v : Int} (hp : lk L (p : Int) = some v) (hv : v ≠ hAt l p) : ¬ WellV l := fun hw => by
  obtain ⟨j, x, _, hj, hg, ht, rfl⟩ := h.got _ _ hp
  have := hw.to j x hj hg
  rw [ht] at this
  simp at this
  exact hv this.symm
theorem MInv.not_two {l : List In} {k : Nat} {L : List (Int × Int)} {x : In} (h : MInv l k L) (hx : l[k]? = some x) (hg : isG x) {v : Int} (hp : lk L x.to = some v) (hv : v ≠ hAt l k + 1) : ¬ WellV l := fun hw => by
  obtain ⟨j, y, _, hj, hgy, ht, rfl⟩ := h.got _ _ hp
  have h1 := hw.to j y hj hgy
  have h2 := hw.to k x hx hg
  rw [ht] at h1
  exact hv (h1.symm.trans h2)
theorem MInv.fin {l : List In} {L : List (Int × Int)} (h : MInv l l.length L) (hT : Tos l) : (hAt l l.length = 1 ∧ ∀ v, lk L (l.length : Int) = some v → v = hAt l l.length) ↔ WellV l := by
  constructor
  · rintro ⟨h1, h2⟩
    refine ⟨fun j x hj => h.tk j x (List.getElem?_eq_some_iff.1 hj).1 hj, fun j x hj hg => ?_, h1⟩
    have t := hT j x hj hg
    have hs := h.set j x (List.getElem?_eq_some_iff.1 hj).1 hj hg
    have e : x.to = (x.to.toNat : Int) := by omega
    rw [e] at hs
    by_cases hl : x.to.toNat < l.length
    · exact (h.met _ hl _ hs).symm
    · have e2 : x.to.toNat = l.length := by omega
      rw [e2] at hs ⊢
      exact (h2 _ hs).symm
  · intro hw
    refine ⟨hw.fin, fun v hv => ?_⟩
    exact Classical.byContradiction fun hne => h.not_met hv hne hw
/-- What is known ahead of a place, with a row of heights, none of which is below -1. -/
structure UInv (l : List In) (k : Nat) (A : Nat → Int) : Prop where
  cur : A k = hAt l k
  pos : ∀ j, j ≤ k → 0 ≤ hAt l j
  set : ∀ (j : Nat) (x : In), j < k → l[j]? = some x → isG x → (k : Int) < x.to → A x.to.toNat = hAt l j + 1
  got : ∀ p : Nat, k < p → p ≤ l.length → A p = -1 ∨ ∃ (j : Nat) (x : In), j < k ∧ l[j]? = some x ∧ isG x ∧ x.to = (p : Int) ∧ A p = hAt l j + 1
  tk : ∀ (j : Nat) (x : In), j < k → l[j]? = some x → tk x ≤ hAt l j
  met : ∀ (j : Nat) (x : In), j < k → l[j]? = some x → isG x → x.to ≤ k → hAt l x.to.toNat = hAt l j + 1
def setA (A : Nat → Int) (p : Nat) (v : Int) : Nat → Int := fun q => if q = p then v else A q
theorem UInv.nil (l : List In) : UInv l 0 (setA (fun _ => -1) 0 0) :=
  ⟨by simp [setA, hAt], fun j h => by rw [show j = 0 by omega]; exact Int.le_refl _, fun j x h => by omega, fun p h _ => .inl (by simp only [setA]; rw [if_neg (by omega)]), fun j x h => by omega, fun j x h => by omega⟩
theorem eff_pos {x : In} {h : Int} (ht : tk x ≤ h) (hp : 0 ≤ h) : 0 ≤ h + eff x := by
  unfold tk at ht
  unfold eff
  by_cases h1 : x.op = 1 ∨ x.op = 8
  · rw [if_pos h1]; omega
  · rw [if_neg h1]
    by_cases h2 : x.op = 2 ∨ x.op = 3 ∨ x.op = 4
    · rw [if_pos h2]
      rw [if_neg (by omega), if_pos h2] at ht
      omega
    · rw [if_neg h2]; omega
/-- The height of the next place, where what was said of it ahead is the same. -/
theorem UInv.next {l : List In} {k : Nat} {A B : Nat → Int} {x : In} (h : UInv l k A) (hx : l[k]? = some x) (ht : Vx.tk x ≤ hAt l k) (hn : B (k + 1) < 0 ∨ B (k + 1) = hAt l (k + 1))
    (hs : ∀ (j : Nat) (y : In), j < k + 1 → l[j]? = some y → isG y → (k : Int) < y.to → B y.to.toNat = hAt l j + 1)
    (hg : ∀ p : Nat, k < p → p ≤ l.length → B p = -1 ∨ ∃ (j : Nat) (y : In), j < k + 1 ∧ l[j]? = some y ∧ isG y ∧ y.to = (p : Int) ∧ B p = hAt l j + 1)
    (h2 : isG x → (k : Int) + 2 ≤ x.to) : UInv l (k + 1) (setA B (k + 1) (hAt l (k + 1))) := by
  have hpos : ∀ j, j ≤ k + 1 → 0 ≤ hAt l j := fun j hj => by
    by_cases e : j = k + 1
    · rw [e, hAt_step hx]; exact eff_pos ht (h.pos k (Nat.le_refl _))
    · exact h.pos j (by omega)
  refine ⟨by simp [setA], hpos, fun j y hj hy hgy ht' => ?_, fun p hp hl => ?_, fun j y hj hy => ?_, fun j y hj hy hgy hty => ?_⟩
  · have := hs j y hj hy hgy (by omega)
    simp only [setA]
    rw [if_neg (by omega)]
    exact this
  · simp only [setA]
    rw [if_neg (by omega)]
    exact hg p (by omega) hl
  · by_cases e : j = k
    · subst e; rw [hx] at hy; cases hy; exact ht
    · exact h.tk j y (by omega) hy
  · by_cases e2 : y.to ≤ k
    · by_cases e : j = k
      · subst e; rw [hx] at hy; cases hy
        have := h2 hgy
        omega
      · exact h.met j y (by omega) hy hgy e2
    · have e3 : y.to.toNat = k + 1 := by omega
      have hs' := hs j y hj hy hgy (by omega)
      rw [e3] at hs' ⊢
      have := hpos j (by omega)
      omega
theorem UInv.step {l : List In} {k : Nat} {A : Nat → Int} {x : In} (h : UInv l k A) (hx : l[k]? = some x) (ht : Vx.tk x ≤ hAt l k) (hg : ¬ isG x) (hn : A (k + 1) < 0 ∨ A (k + 1) = hAt l (k + 1)) : UInv l (k + 1) (setA A (k + 1) (hAt l (k + 1))) := by
  refine h.next hx ht hn (fun j y hj hy hgy ht' => ?_) (fun p hp hl => ?_) (fun e => absurd e hg)
  · by_cases e : j = k
    · subst e; rw [hx] at hy; cases hy; exact absurd hgy hg
    · exact h.set j y (by omega) hy hgy ht'
  · rcases h.got p hp hl with h1 | ⟨j, y, h1, h2⟩
    · exact .inl h1
    · exact .inr ⟨j, y, by omega, h2⟩
theorem UInv.stepG {l : List In} {k : Nat} {A : Nat → Int} {x : In} (h : UInv l k A) (hx : l[k]? = some x) (ht : Vx.tk x ≤ hAt l k) (hg : isG x) (hto : (k : Int) + 2 ≤ x.to) (ha : A x.to.toNat < 0 ∨ A x.to.toNat = hAt l k + 1) (hn : A (k + 1) < 0 ∨ A (k + 1) = hAt l (k + 1)) : UInv l (k + 1) (setA (setA A x.to.toNat (hAt l k + 1)) (k + 1) (hAt l (k + 1))) := by
  have e1 : setA A x.to.toNat (hAt l k + 1) (k + 1) = A (k + 1) := by simp only [setA]; rw [if_neg (by omega)]
  refine h.next hx ht (by rw [e1]; exact hn) (fun j y hj hy hgy ht' => ?_) (fun p hp hl => ?_) (fun _ => hto)
  · simp only [setA]
    by_cases e : j = k
    · subst e; rw [hx] at hy; cases hy; rw [if_pos rfl]
    · have := h.set j y (by omega) hy hgy ht'
      by_cases e2 : y.to.toNat = x.to.toNat
      · rw [if_pos e2]
        rw [e2] at this
        have := h.pos j (by omega)
        omega
      · rw [if_neg e2]; exact this
  · simp only [setA]
    by_cases e2 : p = x.to.toNat
    · rw [if_pos e2]
      exact .inr ⟨k, x, by omega, hx, hg, by omega, rfl⟩
    · rw [if_neg e2]
      rcases h.got p hp hl with h1 | ⟨j, y, h1, h2⟩
      · exact .inl h1
      · exact .inr ⟨j, y, by omega, h2⟩
theorem UInv.not_met {l : List In} {k : Nat} {A : Nat → Int} (h : UInv l k A) (hk : k + 1 ≤ l.length) (h0 : 0 ≤ A (k + 1)) (hv : A (k + 1) ≠ hAt l (k + 1)) : ¬ WellV l := fun hw => by
  rcases h.got (k + 1) (by omega) hk with h1 | ⟨j, x, _, hj, hg, ht, hA⟩
  · omega
  · have := hw.to j x hj hg
    rw [ht] at this
    simp only [Int.toNat_natCast] at this
    omega
theorem UInv.not_two {l : List In} {k : Nat} {A : Nat → Int} {x : In} (h : UInv l k A) (hx : l[k]? = some x) (hg : isG x) (hto : (k : Int) + 2 ≤ x.to ∧ x.to ≤ l.length) (h0 : 0 ≤ A x.to.toNat) (hv : A x.to.toNat ≠ hAt l k + 1) : ¬ WellV l := fun hw => by
  rcases h.got x.to.toNat (by omega) (by omega) with h1 | ⟨j, y, _, hj, hgy, ht, hA⟩
  · omega
  · have h1 := hw.to j y hj hgy
    have h2 := hw.to k x hx hg
    rw [ht] at h1
    simp only [Int.toNat_natCast] at h1
    omega
theorem UInv.fin {l : List In} {A : Nat → Int} (h : UInv l l.length A) (hT : Tos l) : A l.length = 1 ↔ WellV l := by
  constructor
  · intro h1
    refine ⟨fun j x hj => h.tk j x (List.getElem?_eq_some_iff.1 hj).1 hj, fun j x hj hg => ?_, by rw [← h.cur]; exact h1⟩
    exact h.met j x (List.getElem?_eq_some_iff.1 hj).1 hj hg (hT j x hj hg).2
  · intro hw
    rw [h.cur]; exact hw.fin
/-- How high it grows, so far. -/
structure TInv (cs : List Cd) (l : List In) (k : Nat) (top : Int) : Prop where
  lo : mxH cs l k ≤ top
  hi : WellV l → top ≤ mxH cs l l.length
theorem TInv.nil (cs : List Cd) (l : List In) : TInv cs l 0 0 := ⟨Int.le_refl _, fun _ => Int.le_trans (by show (0 : Int) ≤ hAt l 0; exact Int.le_refl _) (hAt_top (cs := cs) (Nat.zero_le _))⟩
theorem TInv.fin {cs : List Cd} {l : List In} {top : Int} (h : TInv cs l l.length top) (hw : WellV l) : top = mxH cs l l.length := by
  have := h.lo
  have := h.hi hw
  omega
theorem TInv.step {cs : List Cd} {l : List In} {k : Nat} {top : Int} {x : In} (h : TInv cs l k top) (hx : l[k]? = some x) (h8 : x.op ≠ 8) : TInv cs l (k + 1) (max top (max (hAt l k) (hAt l (k + 1)))) := by
  have hk := (List.getElem?_eq_some_iff.1 hx).1
  have a := hAt_top (cs := cs) (l := l) (j := k) (n := l.length) (by omega)
  have b := hAt_top (cs := cs) (l := l) (j := k + 1) (n := l.length) (by omega)
  refine ⟨?_, fun hw => ?_⟩
  · rw [mxH_step hx, if_neg h8]
    have := h.lo
    omega
  · have := h.hi hw
    omega
theorem TInv.stepC {cs : List Cd} {l : List In} {k : Nat} {top : Int} {x : In} (h : TInv cs l k top) (hx : l[k]? = some x) (h8 : x.op = 8) : TInv cs l (k + 1) (max (max top (hAt l k + (cs.getD x.a.toNat cd0).high)) (max (hAt l k) (hAt l (k + 1)))) := by
  have hk := (List.getElem?_eq_some_iff.1 hx).1
  have a := hAt_top (cs := cs) (l := l) (j := k) (n := l.length) (by omega)
  have b := hAt_top (cs := cs) (l := l) (j := k + 1) (n := l.length) (by omega)
  have c := call_top (cs := cs) hx hk h8
  refine ⟨?_, fun hw => ?_⟩
  · rw [mxH_step hx, if_pos h8]
    have := h.lo
    omega
  · have := h.hi hw
    omega
theorem TInv.stepG {cs : List Cd} {l : List In} {k : Nat} {top : Int} {x : In} (h : TInv cs l k top) (hx : l[k]? = some x) (hg : isG x) (hto : 0 ≤ x.to ∧ x.to ≤ l.length) : TInv cs l (k + 1) (max (max top (hAt l k + 1)) (max (hAt l k) (hAt l (k + 1)))) := by
  have hk := (List.getElem?_eq_some_iff.1 hx).1
  have a := hAt_top (cs := cs) (l := l) (j := k) (n := l.length) (by omega)
  have b := hAt_top (cs := cs) (l := l) (j := k + 1) (n := l.length) (by omega)
  refine ⟨?_, fun hw => ?_⟩
  · rw [mxH_step hx, if_neg (by unfold isG at hg; omega)]
    have := h.lo
    omega
  · have := h.hi hw
    have := hw.to k x hx hg
    have := hAt_top (cs := cs) (l := l) (j := x.to.toNat) (n := l.length) (by omega)
    omega
end Vx

/- How the machine runs, plainly. -/
namespace Vx

abbrev M := Nat → Bool
def spM (l : List (Int × Int)) : M := fun i => l.any fun s => decide (s.1 ≤ (i : Int)) && decide ((i : Int) < s.2) && decide (i < 1440)
def unM (f g : M) : M := fun i => (f i || g i) && decide (i < 1440)
def dfM (f g : M) : M := fun i => (f i && !g i) && decide (i < 1440)
def boM (f g : M) : M := fun i => (f i && g i) && decide (i < 1440)
def shM (f : M) (x : Int) : M := fun t => decide (t < 1440) && (decide (x ≤ (t : Int)) && (decide ((t : Int) - x < 1440) && f ((t : Int) - x).toNat))
def noM : M := fun _ => false
def pop1 (F : M → M) (S : List M) : List M := match S.reverse with
  | g :: T => T.reverse ++ [F g]
  | [] => []
def pop2 (F : M → M → M) (S : List M) : List M := match S.reverse with
  | g :: f :: T => T.reverse ++ [F f g]
  | _ => []
theorem pop1_eq (F : M → M) (T : List M) (g : M) : pop1 F (T ++ [g]) = T ++ [F g] := by simp [pop1]
theorem pop2_eq (F : M → M → M) (T : List M) (f g : M) : pop2 F (T ++ [f, g]) = T ++ [F f g] := by simp [pop2]
theorem last1 {S : List M} (h : 1 ≤ S.length) : ∃ T g, S = T ++ [g] := by
  rcases List.eq_nil_or_concat S with rfl | ⟨T, g, rfl⟩
  · simp at h
  · exact ⟨T, g, by simp⟩
theorem last2 {S : List M} (h : 2 ≤ S.length) : ∃ T f g, S = T ++ [f, g] := by
  obtain ⟨T, g, rfl⟩ := last1 (S := S) (by omega)
  obtain ⟨U, f, rfl⟩ := last1 (S := T) (by simp at h; omega)
  exact ⟨U, f, g, by simp⟩
/-- Where the machine is, what lies on its stack of this rule, how many steps it took. -/
structure St where
  k : Nat
  S : List M
  n : Nat
section
variable (wk : Int → Bool) (day : Int)
def onD (x : In) : Bool := if x.op = 6 then wk x.a else decide (x.a ≤ day) && decide (day ≤ x.b)
def stepV (ev : Nat → M × Nat) (x : In) (s : St) : St :=
  if x.op = 1 then ⟨s.k + 1, s.S ++ [spM x.sp], s.n + 1⟩
  else if x.op = 2 then ⟨s.k + 1, pop2 unM s.S, s.n + 1⟩
  else if x.op = 3 then ⟨s.k + 1, pop2 dfM s.S, s.n + 1⟩
  else if x.op = 4 then ⟨s.k + 1, pop2 boM s.S, s.n + 1⟩
  else if x.op = 5 then ⟨s.k + 1, pop1 (fun f => shM f x.a) s.S, s.n + 1⟩
  else if x.op = 8 then ⟨s.k + 1, s.S ++ [(ev x.a.toNat).1], s.n + 1 + (ev x.a.toNat).2⟩
  else if onD wk day x = true then ⟨s.k + 1, s.S, s.n + 1⟩
  else ⟨x.to.toNat, s.S ++ [noM], s.n + 1⟩
def goV (ev : Nat → M × Nat) (l : List In) : Nat → St → St
  | 0, s => s
  | f + 1, s => match l[s.k]? with
    | none => s
    | some x => goV ev l f (stepV wk day ev x s)
def runV (ev : Nat → M × Nat) (l : List In) (s : St) : St := goV wk day ev l (l.length - s.k) s
def evV (cs : List Cd) : Nat → Nat → M × Nat
  | 0, _ => (noM, 0)
  | d + 1, r => ((runV wk day (evV cs d) (cs.getD r cd0).ins ⟨0, [], 0⟩).S.getD 0 noM, (runV wk day (evV cs d) (cs.getD r cd0).ins ⟨0, [], 0⟩).n)
end
/-- What is so at each place of a rule's code. -/
structure SInv (cs : List Cd) (l : List In) (s : St) : Prop where
  le : s.k ≤ l.length
  hi : (s.S.length : Int) = hAt l s.k
  st : (s.n : Int) ≤ stS cs l s.k
  on : s.k = 0 ∨ 1 ≤ s.n
variable {wk : Int → Bool} {day : Int} {ev : Nat → M × Nat} {cs : List Cd} {l : List In}
theorem SInv.nil : SInv cs l ⟨0, [], 0⟩ := ⟨Nat.zero_le _, by simp [hAt], by simp [stS], .inl rfl⟩
theorem stS_mono (h0 : ∀ i, 0 ≤ (cs.getD i cd0).steps) {j k : Nat} (h : j ≤ k) : stS cs l j ≤ stS cs l k := by
  obtain ⟨d, rfl⟩ := Nat.exists_eq_add_of_le h
  clear h
  induction d with
  | zero => exact Int.le_refl _
  | succ d ih =>
    refine Int.le_trans ih ?_
    show stS cs l (j + d) ≤ stS cs l ((j + d) + 1)
    simp only [stS]
    have := h0 (l.getD (j + d) in0).a.toNat
    split <;> omega
/-- The kinds that there are. -/
theorem ins_kinds {x : In} {k n r : Nat} (h : insE x k n r = 0) : x.op = 1 ∨ x.op = 2 ∨ x.op = 3 ∨ x.op = 4 ∨ x.op = 5 ∨ x.op = 8 ∨ isG x := by
  unfold insE at h
  unfold isG
  split at h
  · omega
  split at h
  · omega
  split at h
  · omega
  split at h
  · omega
  split at h
  · omega
  split at h
  · omega
  · simp at h
theorem SInv.step {s : St} {x : In} {r : Nat} (hs : SInv cs l s) (hw : WellV l) (hx : l[s.k]? = some x) (hi : insE x s.k l.length r = 0) (h0 : ∀ i, 0 ≤ (cs.getD i cd0).steps)
    (hev : x.op = 8 → ((ev x.a.toNat).2 : Int) ≤ (cs.getD x.a.toNat cd0).steps) : SInv cs l (stepV wk day ev x s) ∧ s.k < (stepV wk day ev x s).k := by
  have hk := (List.getElem?_eq_some_iff.1 hx).1
  have htk := hw.tk _ _ hx
  have hst := stS_step (cs := cs) hx
  have hht := hAt_step hx
  have a1 := hs.hi
  have a2 := hs.st
  rcases ins_kinds hi with ho | ho | ho | ho | ho | ho | ho
  · have e : stepV wk day ev x s = ⟨s.k + 1, s.S ++ [spM x.sp], s.n + 1⟩ := by simp [stepV, ho]
    rw [e]
    have : eff x = 1 := by simp [eff, ho]
    rw [if_neg (by omega)] at hst
    refine ⟨⟨by dsimp only; omega, ?_, ?_, .inr (by dsimp only; omega)⟩, by dsimp only; omega⟩
    · dsimp only; rw [List.length_append]; simp; omega
    · dsimp only; omega
  · have e : stepV wk day ev x s = ⟨s.k + 1, pop2 unM s.S, s.n + 1⟩ := by simp [stepV, ho]
    rw [e]
    have h1 : eff x = -1 := by simp [eff, ho]
    have h2 : tk x = 2 := by simp [tk, ho]
    obtain ⟨T, f, g, hS⟩ := last2 (S := s.S) (by omega)
    rw [if_neg (by omega)] at hst
    rw [hS] at a1
    simp at a1
    refine ⟨⟨by dsimp only; omega, ?_, ?_, .inr (by dsimp only; omega)⟩, by dsimp only; omega⟩
    · dsimp only; rw [hS, pop2_eq]; simp; omega
    · dsimp only; omega
  · have e : stepV wk day ev x s = ⟨s.k + 1, pop2 dfM s.S, s.n + 1⟩ := by simp [stepV, ho]
    rw [e]
    have h1 : eff x = -1 := by simp [eff, ho]
    have h2 : tk x = 2 := by simp [tk, ho]
    obtain ⟨T, f, g, hS⟩ := last2 (S := s.S) (by omega)
    rw [if_neg (by omega)] at hst
    rw [hS] at a1
    simp at a1
    refine ⟨⟨by dsimp only; omega, ?_, ?_, .inr (by dsimp only; omega)⟩, by dsimp only; omega⟩
    · dsimp only; rw [hS, pop2_eq]; simp; omega
    · dsimp only; omega
  · have e : stepV wk day ev x s = ⟨s.k + 1, pop2 boM s.S, s.n + 1⟩ := by simp [stepV, ho]
    rw [e]
    have h1 : eff x = -1 := by simp [eff, ho]
    have h2 : tk x = 2 := by simp [tk, ho]
    obtain ⟨T, f, g, hS⟩ := last2 (S := s.S) (by omega)
    rw [if_neg (by omega)] at hst
    rw [hS] at a1
    simp at a1
    refine ⟨⟨by dsimp only; omega, ?_, ?_, .inr (by dsimp only; omega)⟩, by dsimp only; omega⟩
    · dsimp only; rw [hS, pop2_eq]; simp; omega
    · dsimp only; omega
  · have e : stepV wk day ev x s = ⟨s.k + 1, pop1 (fun f => shM f x.a) s.S, s.n + 1⟩ := by simp [stepV, ho]
    rw [e]
    have h1 : eff x = 0 := by simp [eff, ho]
    have h2 : tk x = 1 := by simp [tk, ho]
    obtain ⟨T, g, hS⟩ := last1 (S := s.S) (by omega)
    rw [if_neg (by omega)] at hst
    rw [hS] at a1
    simp at a1
    refine ⟨⟨by dsimp only; omega, ?_, ?_, .inr (by dsimp only; omega)⟩, by dsimp only; omega⟩
    · dsimp only; rw [hS, pop1_eq]; simp; omega
    · dsimp only; omega
  · have e : stepV wk day ev x s = ⟨s.k + 1, s.S ++ [(ev x.a.toNat).1], s.n + 1 + (ev x.a.toNat).2⟩ := by simp [stepV, ho]
    rw [e]
    have h1 : eff x = 1 := by simp [eff, ho]
    have h3 := hev ho
    rw [if_pos ho] at hst
    refine ⟨⟨by dsimp only; omega, ?_, ?_, .inr (by dsimp only; omega)⟩, by dsimp only; omega⟩
    · dsimp only; rw [List.length_append]; simp; omega
    · dsimp only; omega
  · have hto := ins_to hi ho
    have hgt := hw.to _ _ hx ho
    have hs8 : ¬ x.op = 8 := by unfold isG at ho; omega
    rw [if_neg hs8] at hst
    have he : eff x = 0 := by
      unfold eff
      unfold isG at ho
      rw [if_neg (by omega), if_neg (by omega)]
    by_cases hd : onD wk day x = true
    · have e : stepV wk day ev x s = ⟨s.k + 1, s.S, s.n + 1⟩ := by
        unfold isG at ho
        unfold stepV
        rw [if_neg (by omega), if_neg (by omega), if_neg (by omega), if_neg (by omega), if_neg (by omega), if_neg (by omega), if_pos hd]
      rw [e]
      refine ⟨⟨by dsimp only; omega, ?_, ?_, .inr (by dsimp only; omega)⟩, by dsimp only; omega⟩
      · dsimp only; omega
      · dsimp only; omega
    · have e : stepV wk day ev x s = ⟨x.to.toNat, s.S ++ [noM], s.n + 1⟩ := by
        unfold isG at ho
        unfold stepV
        rw [if_neg (by omega), if_neg (by omega), if_neg (by omega), if_neg (by omega), if_neg (by omega), if_neg (by omega), if_neg hd]
      rw [e]
      have := stS_mono (l := l) h0 (show s.k + 1 ≤ x.to.toNat by omega)
      refine ⟨⟨by dsimp only; omega, ?_, ?_, .inr (by dsimp only; omega)⟩, by dsimp only; omega⟩
      · dsimp only; rw [List.length_append]; simp; omega
      · dsimp only; omega
theorem runV_end {s : St} (h : s.k = l.length) : runV wk day ev l s = s := by
  unfold runV
  rw [show l.length - s.k = 0 by omega]
  rfl
/-- Places only rise. -/
def Up (wk : Int → Bool) (day : Int) (ev : Nat → M × Nat) (l : List In) : Prop := ∀ s x, l[s.k]? = some x → s.k < (stepV wk day ev x s).k
theorem goV_more (hu : Up wk day ev l) : ∀ (f : Nat) (s : St), l.length - s.k ≤ f → goV wk day ev l f s = goV wk day ev l (l.length - s.k) s
  | 0, s, h => by rw [show l.length - s.k = 0 by omega]
  | f + 1, s, h => by
    cases hx : l[s.k]? with
    | none =>
      have : l.length ≤ s.k := List.getElem?_eq_none_iff.1 hx
      rw [show l.length - s.k = 0 by omega]
      simp [goV, hx]
    | some x =>
      have hk := (List.getElem?_eq_some_iff.1 hx).1
      obtain ⟨m, hm⟩ : ∃ m, l.length - s.k = m + 1 := ⟨l.length - s.k - 1, by omega⟩
      have hu1 := hu s x hx
      rw [hm]
      simp only [goV, hx]
      rw [goV_more hu f _ (by omega), goV_more hu m _ (by omega)]
theorem runV_step (hu : Up wk day ev l) {s : St} {x : In} (hx : l[s.k]? = some x) : runV wk day ev l s = runV wk day ev l (stepV wk day ev x s) := by
  have hk := (List.getElem?_eq_some_iff.1 hx).1
  obtain ⟨m, hm⟩ : ∃ m, l.length - s.k = m + 1 := ⟨l.length - s.k - 1, by omega⟩
  have hu1 := hu s x hx
  unfold runV
  rw [hm]
  simp only [goV, hx]
  rw [goV_more hu m _ (by omega)]
theorem up_of {r : Nat} (hi : ∀ (j : Nat) (x : In), l[j]? = some x → insE x j l.length r = 0) : Up wk day ev l := fun s x hx => by
  rcases ins_kinds (hi _ _ hx) with ho | ho | ho | ho | ho | ho | ho
  · simp [stepV, ho]
  · simp [stepV, ho]
  · simp [stepV, ho]
  · simp [stepV, ho]
  · simp [stepV, ho]
  · simp [stepV, ho]
  · have hto := ins_to (hi _ _ hx) ho
    unfold isG at ho
    unfold stepV
    rw [if_neg (by omega), if_neg (by omega), if_neg (by omega), if_neg (by omega), if_neg (by omega), if_neg (by omega)]
    split
    · dsimp only; omega
    · dsimp only; omega
/-- To the end. -/
theorem SInv.run {r : Nat} (hw : WellV l) (hi : ∀ (j : Nat) (x : In), l[j]? = some x → insE x j l.length r = 0) (h0 : ∀ i, 0 ≤ (cs.getD i cd0).steps)
    (hev : ∀ (j : Nat) (x : In), l[j]? = some x → x.op = 8 → ((ev x.a.toNat).2 : Int) ≤ (cs.getD x.a.toNat cd0).steps) : ∀ (f : Nat) (s : St), l.length - s.k ≤ f → SInv cs l s → SInv cs l (runV wk day ev l s) ∧ (runV wk day ev l s).k = l.length
  | f, s, hf, hs => by
    have hu : Up wk day ev l := up_of hi
    cases hx : l[s.k]? with
    | none =>
      have h1 : l.length ≤ s.k := List.getElem?_eq_none_iff.1 hx
      have h2 := hs.le
      rw [runV_end (by omega)]
      exact ⟨hs, by omega⟩
    | some x =>
      have hk := (List.getElem?_eq_some_iff.1 hx).1
      obtain ⟨h1, h2⟩ := hs.step (wk := wk) (day := day) (ev := ev) hw hx (hi _ _ hx) h0 (hev _ _ hx)
      rw [runV_step hu hx]
      cases f with
      | zero => omega
      | succ f => exact SInv.run hw hi h0 hev f _ (by omega) h1
theorem Right.steps0 (h : Right cs) (i : Nat) : 0 ≤ (cs.getD i cd0).steps := by
  cases hi : cs[i]? with
  | none => simp [List.getD, hi, cd0]
  | some c =>
    rw [cd_at hi]
    have := (alone_ins (h.alone i c hi)).2.1
    omega
theorem Right.call (h : Right cs) {i : Nat} {c : Cd} (hc : cs[i]? = some c) {j : Nat} {x : In} (hx : c.ins[j]? = some x) (ho : x.op = 8) : x.a.toNat < cs.length ∧ (x.a.toNat : Int) = x.a ∧ rk (callE cs) cs.length x.a.toNat < rk (callE cs) cs.length i := by
  have h1 := ins_call ((alone_ins (h.alone i c hc)).2.2 j x hx) ho
  have h2 : x.a.toNat < cs.length := by omega
  refine ⟨h2, by omega, rk_less h2 ?_ (h.cyc _ h2)⟩
  unfold callE
  rw [cd_at hc, List.any_eq_true]
  exact ⟨x, List.mem_of_getElem? hx, by simp [ho]; omega⟩
/-- Each rule's code leaves one mask, in one step at least, and no more than it says. -/
theorem Right.run (h : Right cs) : ∀ (d i : Nat) (c : Cd), cs[i]? = some c → rk (callE cs) cs.length i < d →
    1 ≤ (evV wk day cs d i).2 ∧ ((evV wk day cs d i).2 : Int) ≤ c.steps ∧ SInv cs c.ins (runV wk day (evV wk day cs (d - 1)) c.ins ⟨0, [], 0⟩) ∧ (runV wk day (evV wk day cs (d - 1)) c.ins ⟨0, [], 0⟩).k = c.ins.length ∧ (runV wk day (evV wk day cs (d - 1)) c.ins ⟨0, [], 0⟩).S = [(evV wk day cs d i).1] ∧ (runV wk day (evV wk day cs (d - 1)) c.ins ⟨0, [], 0⟩).n = (evV wk day cs d i).2
  | 0, _, _, _, hd => by omega
  | d + 1, i, c, hc, hd => by
    have ha := alone_ins (h.alone i c hc)
    have hf := h.fit i c hc
    have hrun := SInv.run (wk := wk) (day := day) (ev := evV wk day cs d) (cs := cs) hf.well ha.2.2 h.steps0 (fun j x hx ho => by
      obtain ⟨h1, _, h3⟩ := h.call hc hx ho
      have hg : cs[x.a.toNat]? = some cs[x.a.toNat] := List.getElem?_eq_getElem h1
      rw [cd_at hg]
      exact (h.run d _ _ hg (by omega)).2.1) c.ins.length ⟨0, [], 0⟩ (by simp) SInv.nil
    rw [Nat.add_sub_cancel]
    have e2 : evV wk day cs (d + 1) i = ((runV wk day (evV wk day cs d) c.ins ⟨0, [], 0⟩).S.getD 0 noM, (runV wk day (evV wk day cs d) c.ins ⟨0, [], 0⟩).n) := by
      rw [evV, cd_at hc]
    rw [e2]
    dsimp only
    generalize runV wk day (evV wk day cs d) c.ins ⟨0, [], 0⟩ = R at *
    obtain ⟨hI, hk⟩ := hrun
    have h1 := hI.hi
    have h2 := hI.st
    rw [hk] at h1 h2
    rw [hf.well.fin] at h1
    rw [hf.steps] at h2
    have h3 := hI.on
    refine ⟨by omega, h2, hI, hk, ?_, rfl⟩
    obtain ⟨T, g, hS⟩ := last1 (S := R.S) (by omega)
    rw [hS] at h1 ⊢
    have hT : T = [] := by
      apply List.eq_nil_of_length_eq_zero
      simp at h1
      omega
    subst hT
    simp
end Vx

/- What is wrong with an instruction: vm.instruction, and what it calls. -/
namespace Go.Proofs.Ytclkmldegjdohaa
open Go.RowKit Msk Vx

theorem hidv {p : Prop} (h : p) : Hid p := h
theorem isNumber_any (n m : Int) (w : World) : Calls Try.prog 19 #[.int .i64 n, .int .i64 m] w fun e w' => e = .returned (.bool (decide (0 ≤ n ∧ n < m))) ∧ w' = w := by
  by_cases h1 : 0 ≤ n
  · by_cases h2 : n < m
    · rw [decide_eq_true (⟨h1, h2⟩ : 0 ≤ n ∧ n < m)]
      go_enter Try.func19, Try.ntmps19
      go_wp2
      go_ret
      exact ⟨rfl, rfl⟩
    · rw [decide_eq_false (fun e : 0 ≤ n ∧ n < m => h2 e.2)]
      go_enter Try.func19, Try.ntmps19
      go_wp2
      go_ret
      exact ⟨rfl, rfl⟩
  · rw [decide_eq_false (fun e : 0 ≤ n ∧ n < m => h1 e.1)]
    go_enter Try.func19, Try.ntmps19
    go_wp2
    go_ret
    exact ⟨rfl, rfl⟩
theorem within_any (n lo hi : Int) (w : World) : Calls Try.prog 56 #[.int .i64 n, .int .i64 lo, .int .i64 hi] w fun e w' => e = .returned (.bool (decide (lo ≤ n ∧ n ≤ hi))) ∧ w' = w := by
  by_cases h1 : lo ≤ n
  · by_cases h2 : n ≤ hi
    · rw [decide_eq_true (⟨h1, h2⟩ : lo ≤ n ∧ n ≤ hi)]
      go_enter Try.func56, Try.ntmps56
      go_wp2
      go_ret
      exact ⟨rfl, rfl⟩
    · rw [decide_eq_false (fun e : lo ≤ n ∧ n ≤ hi => h2 e.2)]
      go_enter Try.func56, Try.ntmps56
      go_wp2
      go_ret
      exact ⟨rfl, rfl⟩
  · rw [decide_eq_false (fun e : lo ≤ n ∧ n ≤ hi => h1 e.1)]
    go_enter Try.func56, Try.ntmps56
    go_wp2
    go_ret
    exact ⟨rfl, rfl⟩
theorem unless_any (b : Bool) (e : Int) (w : World) : Calls Try.prog 70 #[.bool b, .int .i64 e] w fun r w' => r = .returned (.int .i64 (if b = true then 0 else e)) ∧ w' = w := by
  cases b
  · go_enter Try.func70, Try.ntmps70
    go_wp2
    go_ret
    exact ⟨rfl, rfl⟩
  · go_enter Try.func70, Try.ntmps70
    go_wp2
    go_ret
    exact ⟨rfl, rfl⟩
/-- A row of spans in memory; where there are none, anywhere. -/
def RowV (w : World) (v : Value) (l : List (Int × Int)) : Prop := (l = [] ∧ ∃ p c, v = .slice p 0 c) ∨ Row w v l
theorem RowV.later {w w' : World} {v : Value} {l : List (Int × Int)} (h : RowV w v l) (hb : Below w.heap.size w w') : RowV w' v l := by
  rcases h with h | h
  · exact .inl h
  · exact .inr (h.later hb)
theorem RowV.form {w : World} {v : Value} {l : List (Int × Int)} (h : RowV w v l) : ∃ p c, v = .slice p l.length c ∧ l.length < 9223372036854775808 ∧ ∀ (j : Nat) (s : Int × Int), l[j]? = some s → ∃ g o : Nat, p = some ⟨g, o, none⟩ ∧ w.cell? ⟨g, o + j * 2, none⟩ = some (.int .i64 s.1) ∧ w.cell? ⟨g, o + j * 2 + 1, none⟩ = some (.int .i64 s.2) := by
  rcases h with ⟨rfl, p, c, rfl⟩ | ⟨c, rfl, rfl⟩ | ⟨g, o, c, rfl, hl, hc⟩
  · exact ⟨p, c, rfl, by decide, fun j s hj => by simp at hj⟩
  · exact ⟨none, c, rfl, by decide, fun j s hj => by simp at hj⟩
  · refine ⟨_, c, rfl, hl, fun j s hj => ⟨g, o, rfl, ?_⟩⟩
    have h1 := (List.getElem?_eq_some_iff.1 hj).1
    have := hc j h1
    have e : l.getD j (0, 0) = s := by simp [List.getD, hj]
    rw [e] at this
    exact this
set_option maxHeartbeats 1000000 in
theorem of_nil (p : Option Addr) (c : Nat) (w : World) :
    Calls Try.prog 64 #[.slice p 0 c] w fun e w' => e = .returned (.agg (mv (inl []))) ∧ Below w.heap.size w w' := by
  have hz := mv_lit
  have h1 : ((w.alloc (.cells (mv fun _ => false) 25)).alloc (.cells (mv fun _ => false) 25)).heap[w.heap.size]? = some (.cells (mv fun _ => false) 25 (0, 0)) := by (repeat (first | refine blk_old _ _ _ (by simp only [size_alloc]; omega) ?_ | exact blk_new _ _ _ (by first | rfl | simp only [size_alloc])))
  have h2 : ((w.alloc (.cells (mv fun _ => false) 25)).alloc (.cells (mv fun _ => false) 25)).heap[w.heap.size + 1]? = some (.cells (mv fun _ => false) 25 (0, 0)) := by (repeat (first | refine blk_old _ _ _ (by simp only [size_alloc]; omega) ?_ | exact blk_new _ _ _ (by first | rfl | simp only [size_alloc])))
  have hb0 : Below w.heap.size w ((w.alloc (.cells (mv fun _ => false) 25)).alloc (.cells (mv fun _ => false) 25)) := ((Below.refl _ _).alloc (Nat.le_refl _) _).alloc (by simp) _
  · go_enter Try.func64, Try.ntmps64
    go_wp2
    refine wp_loop_rounds 1 ?_
    rw [rounds_succ]
    go_wp2_with (first
      | (refine wpList_load_row rfl 25 _ rfl _ rfl _ _ _ _ h2 maskType rfl (maskSize _) ?_)
      | (refine wpList_store_row rfl 25 _ _ rfl _ _ rfl rfl _ _ h1 (maskSize _) (by simp [mv_size]) (mv_all _) ?_))
    refine bodyPost_ret (v := .agg (mv (inl []))) ?_ rfl ⟨rfl, below_setRow hb0 (Nat.le_refl _) _⟩
    exact results_cell_row rfl _ _ w.heap.size _ _ _ _ rfl (setRow_heap _ _ _ _ _ _ h1) maskType rfl (maskSize _)
theorem of_anyV (v : Value) (l : List (Int × Int)) (w : World) (hl : RowV w v l) :
    Calls Try.prog 64 #[v] w fun e w' => e = .returned (.agg (mv (inl l))) ∧ Below w.heap.size w w' := by
  rcases hl with ⟨rfl, p, c, rfl⟩ | hl
  · exact of_nil p c w
  · exact of_any v l w hl
set_option maxRecDepth 100000 in
set_option maxHeartbeats 1000000 in
theorem rising_any (l : List (Int × Int)) (v : Value) (w : World) (h : RowV w v l) : Calls Try.prog 71 #[v] w fun r w' => r = .returned (.bool (risL l (-1))) ∧ Below w.heap.size w w' := by
  obtain ⟨p, c, rfl, hlen, hc⟩ := h.form
  have HC := hidv hc
  clear hc h
  go_enter Try.func71, Try.ntmps71
  go_wp2_with fail
  go_loopw [3, 8] (fun x t wr => ∃ (j : Nat) (e : Int), x = .int .i64 e ∧ t = .int .i64 (j : Int) ∧ j ≤ l.length ∧ risL l (-1) = risL (l.drop j) e ∧ Below w.heap.size w wr) (fun _ t _ => l.length - (intOf t).toNat)
  case atStart => exact ⟨0, -1, rfl, rfl, by omega, rfl, Below.refl _ _⟩
  case round =>
    obtain ⟨j, e, rfl, rfl, hj, hX, hb⟩ := hrel
    have hj0 : (0 : Int) ≤ (j : Int) := by omega
    by_cases hlt : j < l.length
    · have hlt' : (j : Int) < (l.length : Int) := by omega
      obtain ⟨s, hjk⟩ : ∃ p, l[j]? = some p := ⟨l[j], List.getElem?_eq_getElem hlt⟩
      rw [risL_step hjk] at hX
      obtain ⟨g, o, hpe, c0, c1⟩ := HC.out j _ hjk
      subst hpe
      obtain ⟨x, y⟩ := s
      dsimp only at c0 c1 hX
      have d0 := (hb.cell (block_lt_of_cell c0)).trans c0
      have d1 := (hb.cell (block_lt_of_cell c1)).trans c1
      have hb2 := hb.alloc hb.size (.cells #[.int .i64 x, .int .i64 y] 97)
      by_cases h1 : x ≤ e
      · rw [if_pos (.inl h1)] at hX
        have HX := hidv hX
        clear hX hjk HC c0 c1
        go_wp2_with fail
        go_ret
        exact ⟨by (rw [HX.out]) <;> rfl, hb2⟩
      · by_cases h2 : y ≤ x
        · rw [if_pos (.inr (.inl h2))] at hX
          have HX := hidv hX
          clear hX hjk HC c0 c1
          go_wp2_with fail
          go_ret
          exact ⟨by (rw [HX.out]) <;> rfl, hb2⟩
        · by_cases h3 : 1440 < y
          · rw [if_pos (.inr (.inr h3))] at hX
            have HX := hidv hX
            clear hX hjk HC c0 c1
            go_wp2_with fail
            go_ret
            exact ⟨by (rw [HX.out]) <;> rfl, hb2⟩
          · rw [if_neg (by omega)] at hX
            have HX := hidv hX
            clear hX hjk c0 c1
            go_wp2_with fail
            go_roundw
            case rel => exact ⟨j + 1, y, rfl, by go_num, by omega, HX.out, hb2⟩
            case measure => simp [intOf]; omega
    · have hlt' : ¬ (j : Int) < (l.length : Int) := by omega
      have HX : Hid (risL l (-1) = true) := by
        show _ = _
        rw [hX, List.drop_of_length_le (by omega)]
        rfl
      clear hX HC
      go_wp2_with fail
      go_ret
      exact ⟨by (rw [HX.out]) <;> rfl, hb⟩
end Go.Proofs.Ytclkmldegjdohaa
