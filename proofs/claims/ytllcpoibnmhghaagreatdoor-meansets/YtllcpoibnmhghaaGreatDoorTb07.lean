/- Rows of tokens that are written, and texts put together: what LexJoined needs of memory. -/
import Derived.Test.YtllcpoibnmhghaaGreatDoorTb06
import Derived.Test.YtllcpoibnmhghaaGreatDoorTb02
namespace Go.Proofs.YtllcpoibnmhghaaGreatDoor
open Go.RowKit Lx

theorem cat_data (s t : ByteArray) : (s ++ ⟨#[10]⟩ ++ t).data.toList = s.data.toList ++ 10 :: t.data.toList := by
  simp [ByteArray.data_append]
theorem own_set {w : World} {base : Nat} {e : TypeId} {size g n cap : Nat} {xs : List Value} (h : w.ownsRow base e size (.slice (some ⟨g, 0, none⟩) n cap) n xs) (i : Nat) (u : Value) :
    (w.setCell ⟨g, i, none⟩ u).ownsRow base e size (.slice (some ⟨g, 0, none⟩) n cap) n (xs.set i u) := by
  obtain ⟨h1, h2⟩ := h
  rcases h2 with ⟨h2, _⟩ | ⟨g', cap', cur, hv, hb, hh, h4, h5, h6, h7⟩
  · cases h2
  · have eg : g' = g ∧ cap' = cap := by
      injection hv with a1 a2 a3
      injection a1 with a1
      injection a1 with a1
      exact ⟨a1.symm, a3.symm⟩
    obtain ⟨rfl, rfl⟩ := eg
    refine ⟨by simpa using h1, .inr ⟨g', cap', _, rfl, hb, heap_setCell_same _ _ _ _ _ _ hh, h4, h5, by simpa using h6, ?_⟩⟩
    rw [Array.toList_setIfInBounds, List.take_set, h7]
/-- Tokens of which the first ones are so many bytes on. -/
def part (n : Nat) (us : List (T1 × Nat)) (j : Nat) : List (T1 × Nat) := onBy n (us.take j) ++ us.drop j
theorem part_zero (n : Nat) (us : List (T1 × Nat)) : part n us 0 = us := by simp [part, onBy]
theorem part_all (n : Nat) (us : List (T1 × Nat)) : part n us us.length = onBy n us := by simp [part]
theorem part_len (n : Nat) (us : List (T1 × Nat)) (j : Nat) : (part n us j).length = us.length := by
  simp [part, onBy]; omega
theorem flatT_append : ∀ a b : List (T1 × Nat), flatT (a ++ b) = flatT a ++ flatT b
  | [], b => rfl
  | p :: a, b => by simp [flatT, flatT_append a b]
theorem flatT_len : ∀ ts : List (T1 × Nat), (flatT ts).length = ts.length * 4
  | [] => rfl
  | p :: ts => by simp [flatT, flatT_len ts]; omega
theorem part_set (n : Nat) (us : List (T1 × Nat)) (j : Nat) (t : T1) (k : Nat) (h : us[j]? = some (t, k)) :
    (flatT (part n us j)).set (j * 4 + 2) (.int .i64 ((n + k : Nat) : Int)) = flatT (part n us (j + 1)) := by
  obtain ⟨hj, hjk⟩ := List.getElem?_eq_some_iff.1 h
  have e1 : us.drop j = (t, k) :: us.drop (j + 1) := by rw [List.drop_eq_getElem_cons hj, hjk]
  have e2 : us.take (j + 1) = us.take j ++ [(t, k)] := by rw [List.take_succ_eq_append_getElem hj, hjk]
  have hl : (flatT (onBy n (us.take j))).length = j * 4 := by rw [flatT_len]; simp [onBy]; omega
  unfold part
  rw [e1, e2, flatT_append, List.set_append_right _ _ (by omega), hl, show j * 4 + 2 - j * 4 = 2 by omega]
  have e3 : onBy n (us.take j ++ [(t, k)]) = onBy n (us.take j) ++ [(t, n + k)] := by simp [onBy]
  rw [e3, List.append_assoc, flatT_append]
  simp [flatT]
theorem part_at (n : Nat) (us : List (T1 × Nat)) (j : Nat) (t : T1) (k : Nat) (h : us[j]? = some (t, k)) : (part n us j)[j]? = some (t, k) := by
  obtain ⟨hj, _⟩ := List.getElem?_eq_some_iff.1 h
  have hl : (onBy n (us.take j)).length = j := by simp [onBy]; omega
  unfold part
  rw [List.getElem?_append_right (by omega), hl, Nat.sub_self, List.getElem?_drop]
  simpa using h
theorem flatT_at : ∀ (ts : List (T1 × Nat)) (j : Nat) (t : T1) (k : Nat), ts[j]? = some (t, k) → (flatT ts)[j * 4]? = some (.int .i64 t.kind) ∧ (flatT ts)[j * 4 + 1]? = some (.int .i64 t.n) ∧ (flatT ts)[j * 4 + 2]? = some (.int .i64 (k : Int)) ∧ (flatT ts)[j * 4 + 3]? = some (.string ⟨t.text.toArray⟩)
  | [], j, t, k, h => by simp at h
  | p :: ts, 0, t, k, h => by
    have : p = (t, k) := by simpa using h
    subst this
    simp [flatT]
  | p :: ts, j + 1, t, k, h => by
    have := flatT_at ts j t k (by simpa using h)
    have e : (j + 1) * 4 = j * 4 + 1 + 1 + 1 + 1 := by omega
    rw [e]
    simpa [flatT] using this
theorem trow_of_owns {w : World} {base : Nat} {v : Value} {ts : List (T1 × Nat)} (h : w.ownsRow base 101 4 v ts.length (flatT ts)) (hl : ts.length < 9223372036854775808) : TRow w v ts := by
  by_cases h0 : ts.length = 0
  · obtain ⟨_, h2⟩ := h
    rcases h2 with ⟨h2, h3⟩ | ⟨g, cap, cur, hv, _⟩
    · exact .inl ⟨0, h2, List.length_eq_zero_iff.1 h3⟩
    · refine .inr ⟨g, 0, cap, hv, hl, fun j t k hj => ?_⟩
      have : ts = [] := List.length_eq_zero_iff.1 h0
      rw [this] at hj; simp at hj
  · obtain ⟨g, cap, hv, hc⟩ := own_slice h (by omega)
    refine .inr ⟨g, 0, cap, hv, hl, fun j t k hj => ?_⟩
    obtain ⟨f0, f1, f2, f3⟩ := flatT_at ts j t k hj
    rw [Nat.zero_add]
    exact ⟨hc _ _ f0, hc _ _ f1, hc _ _ f2, hc _ _ f3⟩
end Go.Proofs.YtllcpoibnmhghaaGreatDoor

/- The reader of package parse in memory: its tokens, where it stands, how many expressions have ended; expressions as they lie in memory; and what met comes to. -/
namespace Go.Proofs.YtllcpoibnmhghaaGreatDoor
open Go.RowKit Lx

/-- An expression as it is handed on; its kids' row beside it. -/
def exV (e : Ex) (sl : Value) : Value := .agg #[.int .i64 e.kind, .int .i64 e.a, .int .i64 e.b, .string ⟨e.name.toArray⟩, sl]
/-- A block of expressions. -/
def TyE (w : World) (g : Nat) : Prop := ∃ (cs : Array Value) (fr : Nat × Nat), w.heap[g]? = some (.cells cs 25 fr)
/-- A row of expressions in memory, in blocks that are so; so deep at most. -/
def KidsAt (B : Nat → Prop) : Nat → World → Value → List Ex → Prop
  | 0, _, sl, ks => ks = [] ∧ ∃ p c, sl = .slice p 0 c
  | d + 1, w, sl, ks => (ks = [] ∧ ∃ p c, sl = .slice p 0 c) ∨ ∃ g o c : Nat, (B g ∧ TyE w g) ∧ sl = .slice (some ⟨g, o, none⟩) ks.length c ∧ ks.length < 9223372036854775808 ∧ ∀ (j : Nat) (k : Ex), ks[j]? = some k → ∃ sk : Value,
      w.cell? ⟨g, o + j * 5, none⟩ = some (.int .i64 k.kind) ∧ w.cell? ⟨g, o + j * 5 + 1, none⟩ = some (.int .i64 k.a) ∧ w.cell? ⟨g, o + j * 5 + 2, none⟩ = some (.int .i64 k.b) ∧
      w.cell? ⟨g, o + j * 5 + 3, none⟩ = some (.string ⟨k.name.toArray⟩) ∧ w.cell? ⟨g, o + j * 5 + 4, none⟩ = some sk ∧ KidsAt B d w sk k.kids
theorem KidsAt.up {B : Nat → Prop} : ∀ {d : Nat} {w : World} {sl : Value} {ks : List Ex}, KidsAt B d w sl ks → KidsAt B (d + 1) w sl ks
  | 0, _, _, _, h => .inl h
  | d + 1, w, sl, ks, h => by
    rcases h with h | ⟨g, o, c, hB, hs, hl, hk⟩
    · exact .inl h
    · refine .inr ⟨g, o, c, hB, hs, hl, fun j k hj => ?_⟩
      obtain ⟨sk, c0, c1, c2, c3, c4, r⟩ := hk j k hj
      exact ⟨sk, c0, c1, c2, c3, c4, KidsAt.up r⟩
theorem KidsAt.le {B : Nat → Prop} {d d' : Nat} {w : World} {sl : Value} {ks : List Ex} (h : KidsAt B d w sl ks) (hd : d ≤ d') : KidsAt B d' w sl ks := by
  obtain ⟨n, rfl⟩ : ∃ n, d' = d + n := ⟨d' - d, by omega⟩
  clear hd
  induction n with
  | zero => exact h
  | succ n ih => exact KidsAt.up ih
/-- Where the blocks stay, the row stays. -/
theorem KidsAt.kept {B : Nat → Prop} {w w' : World} (hw : ∀ g, B g → g < w.heap.size → w'.heap[g]? = w.heap[g]?) : ∀ {d : Nat} {sl : Value} {ks : List Ex}, KidsAt B d w sl ks → KidsAt B d w' sl ks
  | 0, _, _, h => h
  | d + 1, sl, ks, h => by
    rcases h with h | ⟨g, o, c, hB, hs, hl, hk⟩
    · exact .inl h
    · have ht : TyE w' g := by
        obtain ⟨cs, fr, h⟩ := hB.2
        exact ⟨cs, fr, (hw g hB.1 (lt_of_block h)).trans h⟩
      refine .inr ⟨g, o, c, ⟨hB.1, ht⟩, hs, hl, fun j k hj => ?_⟩
      obtain ⟨sk, c0, c1, c2, c3, c4, r⟩ := hk j k hj
      have e : w'.heap[g]? = w.heap[g]? := hw g hB.1 (block_lt_of_cell c0)
      have ce : ∀ i, w'.cell? ⟨g, i, none⟩ = w.cell? ⟨g, i, none⟩ := fun i => World.cell?_of_block e
      exact ⟨sk, (ce _).trans c0, (ce _).trans c1, (ce _).trans c2, (ce _).trans c3, (ce _).trans c4, KidsAt.kept hw r⟩
theorem KidsAt.mono {B B' : Nat → Prop} (hB : ∀ g, B g → B' g) : ∀ {d : Nat} {w : World} {sl : Value} {ks : List Ex}, KidsAt B d w sl ks → KidsAt B' d w sl ks
  | 0, _, _, _, h => h
  | d + 1, w, sl, ks, h => by
    rcases h with h | ⟨g, o, c, hg, hs, hl, hk⟩
    · exact .inl h
    · refine .inr ⟨g, o, c, ⟨hB g hg.1, hg.2⟩, hs, hl, fun j k hj => ?_⟩
      obtain ⟨sk, c0, c1, c2, c3, c4, r⟩ := hk j k hj
      exact ⟨sk, c0, c1, c2, c3, c4, KidsAt.mono hB r⟩
/-- Its blocks are there. -/
theorem KidsAt.lt {B : Nat → Prop} : ∀ {d : Nat} {w : World} {sl : Value} {ks : List Ex}, KidsAt B d w sl ks → KidsAt (fun k => B k ∧ k < w.heap.size) d w sl ks
  | 0, _, _, _, h => h
  | d + 1, w, sl, ks, h => by
    rcases h with h | ⟨g, o, c, hg, hs, hl, hk⟩
    · exact .inl h
    · cases ks with
      | nil => exact .inl ⟨rfl, _, _, hs⟩
      | cons k0 ks =>
        obtain ⟨_, c0, _⟩ := hk 0 k0 rfl
        refine .inr ⟨g, o, c, ⟨⟨hg.1, block_lt_of_cell c0⟩, hg.2⟩, hs, hl, fun j k hj => ?_⟩
        obtain ⟨sk, c0, c1, c2, c3, c4, r⟩ := hk j k hj
        exact ⟨sk, c0, c1, c2, c3, c4, KidsAt.lt r⟩
/-- A block of another type is none of its. -/
theorem KidsAt.other {B : Nat → Prop} {b : Nat} {cs : Array Value} {t : TypeId} {fr : Nat × Nat} : ∀ {d : Nat} {w : World} {sl : Value} {ks : List Ex}, w.heap[b]? = some (.cells cs t fr) → t ≠ 25 → KidsAt B d w sl ks → KidsAt (fun k => B k ∧ k ≠ b) d w sl ks
  | 0, _, _, _, _, _, h => h
  | d + 1, w, sl, ks, hb, ht, h => by
    rcases h with h | ⟨g, o, c, hg, hs, hl, hk⟩
    · exact .inl h
    · have hne : g ≠ b := by
        rintro rfl
        obtain ⟨cs', fr', h'⟩ := hg.2
        rw [hb] at h'
        exact ht (Obj.cells.inj (Option.some.inj h')).2.1
      refine .inr ⟨g, o, c, ⟨⟨hg.1, hne⟩, hg.2⟩, hs, hl, fun j k hj => ?_⟩
      obtain ⟨sk, c0, c1, c2, c3, c4, r⟩ := hk j k hj
      exact ⟨sk, c0, c1, c2, c3, c4, KidsAt.other hb ht r⟩
theorem KidsAt.nil (B : Nat → Prop) (d : Nat) (w : World) (p : Option Addr) (c : Nat) : KidsAt B d w (.slice p 0 c) [] := by
  cases d with
  | zero => exact ⟨rfl, p, c, rfl⟩
  | succ d => exact .inl ⟨rfl, p, c, rfl⟩
theorem KidsAt.form {B : Nat → Prop} {d : Nat} {w : World} {sl : Value} {ks : List Ex} (h : KidsAt B d w sl ks) : ∃ p c, sl = .slice p ks.length c := by
  cases d with
  | zero =>
    obtain ⟨rfl, p, c, rfl⟩ := h
    exact ⟨p, c, rfl⟩
  | succ d =>
    rcases h with ⟨rfl, p, c, rfl⟩ | ⟨g, o, c, _, hs, _⟩
    · exact ⟨p, c, rfl⟩
    · exact ⟨_, c, hs⟩
/-- Nothing old has turned but that block. -/
abbrev Kept (g : Nat) (w w' : World) : Prop := w.grownBy w' (some g)
theorem Kept.refl (g : Nat) (w : World) : Kept g w w := ⟨rfl, rfl, rfl, Nat.le_refl _, fun _ _ _ => rfl⟩
theorem Kept.trans {g : Nat} {w w' w'' : World} (h : Kept g w w') (h' : Kept g w' w'') : Kept g w w'' :=
  ⟨h'.os.trans h.os, h'.tape.trans h.tape, h'.output.trans h.output, Nat.le_trans h.size h'.size, fun k hk hne => (h'.block k (Nat.lt_of_lt_of_le hk h.size) hne).trans (h.block k hk hne)⟩
theorem Kept.of_below {g : Nat} {w w' : World} (h : Below w.heap.size w w') : Kept g w w' := ⟨h.os, h.tape, h.output, h.size, fun k hk _ => h.block k hk⟩
theorem Kept.kids {B : Nat → Prop} {g d : Nat} {w w' : World} {sl : Value} {ks : List Ex} (h : Kept g w w') (hg : ∀ k, B k → k ≠ g) (hk : KidsAt B d w sl ks) : KidsAt B d w' sl ks :=
  hk.kept fun k hB hl => h.block k hl (fun e => hg k hB (Option.some.inj e))
theorem Kept.row {g : Nat} {w w' : World} {v : Value} {ts : List (T1 × Nat)} (h : Kept g w w') (hv : v.ownBlock ≠ some g) (hr : TRow w v ts) : TRow w' v ts := by
  rcases hr with hr | ⟨gt, o, c, hs, hl, hc⟩
  · exact .inl hr
  · refine .inr ⟨gt, o, c, hs, hl, fun j t k hj => ?_⟩
    obtain ⟨c1, c2, c3, c4⟩ := hc j t k hj
    have hne : gt ≠ g := fun e => hv (by rw [hs, e]; rfl)
    have e : w'.heap[gt]? = w.heap[gt]? := h.block gt (block_lt_of_cell c1) (fun e => hne (Option.some.inj e))
    have ce : ∀ i, w'.cell? ⟨gt, i, none⟩ = w.cell? ⟨gt, i, none⟩ := fun i => World.cell?_of_block e
    exact ⟨(ce _).trans c1, (ce _).trans c2, (ce _).trans c3, (ce _).trans c4⟩
/-- What holds all the while: few tokens, small numbers, and that the tokens lie elsewhere than the reader. -/
structure PS0 (all : List Tk) (E g : Nat) (v : Value) : Prop where
  len : all.length ≤ 6000
  fin : E ≤ 6000
  own : v.ownBlock ≠ some g
  num : ∀ p ∈ all, 0 ≤ p.1.n ∧ p.1.n ≤ 999999
  glob : 2 ≠ g
/-- The table of the days of the week. -/
def DTab (w : World) : Prop := ∀ j : Nat, j < 7 → w.cell? ⟨2, j, none⟩ = some (.string ⟨(wDays.getD j []).toArray⟩)
theorem Kept.days {g : Nat} {w w' : World} (h : Kept g w w') (hg : 2 ≠ g) (hd : DTab w) : DTab w' := fun j hj => by
  have c := hd j hj
  exact (World.cell?_of_block (h.block 2 (block_lt_of_cell c) (fun e => hg (Option.some.inj e)))).trans c
/-- The reader stands ahead of token i, and so many expressions have ended. -/
structure PSt (all : List Tk) (E g : Nat) (v : Value) (w : World) (i n : Nat) : Prop where
  blk : w.heap[g]? = some (.cells #[v, .int .i64 (i : Int), .int .i64 (E : Int), .int .i64 (n : Int)] 88 (0, 0))
  row : TRow w v all
  le : i ≤ all.length
  tab : DTab w
theorem PSt.below {all : List Tk} {E g : Nat} {v : Value} {w w' : World} {i n : Nat} (h : PSt all E g v w i n) (hb : Below w.heap.size w w') (h0 : PS0 all E g v) : PSt all E g v w' i n :=
  ⟨(hb.block g (lt_of_block h.blk)).trans h.blk, (Kept.of_below (g := g) hb).row h0.own h.row, h.le, (Kept.of_below (g := g) hb).days h0.glob h.tab⟩
/-- The token that is met. -/
def tokV (E : Nat) (r : List Tk) : Value := .agg #[.int .i64 (kindP r), .int .i64 (numP r), .int .i64 (atP E r : Int), .string ⟨(textP r).toArray⟩]
theorem parserType : Tryz.prog.underlying 88 = some (.struct (Tryz.prog.fieldsOf 88)) := by kernel_rfl
theorem exprType : Tryz.prog.underlying 25 = some (.struct (Tryz.prog.fieldsOf 25)) := by kernel_rfl
/-- A token in a cell is handed back. -/
theorem tok_ret {fn : Func} (s : Nat) (h : fn.results = #[ResultVar.cell s 101]) {R : Ending → World → Prop} {a : Act} {w : World} (g : Nat) (c0 c1 c2 c3 : Value) (hd : a.defers = []) (h2 : a.tmps.getD s undef = .pointer (some ⟨g, 0, none⟩))
    (hg : w.heap[g]? = some (.cells #[c0, c1, c2, c3] 101 (0, 0))) (hR : R (.returned (.agg #[c0, c1, c2, c3])) w) : bodyPost Tryz.prog fn R .ret a w := by
  refine bodyPost_ret (v := .agg #[c0, c1, c2, c3]) ?_ hd hR
  have h2' : a.tmps[s]?.getD undef = .pointer (some ⟨g, 0, none⟩) := by simpa using h2
  have hv := run_loadVar_row (P := Tryz.prog) w g 101 101 _ _ _ hg tokType rfl (by kernel_rfl)
  simp [results, h, h2', asAddr, hv]
/-- An expression in a cell is handed back. -/
theorem ex_ret {fn : Func} (s : Nat) (h : fn.results = #[ResultVar.cell s 25]) {R : Ending → World → Prop} {a : Act} {w : World} (g : Nat) (c0 c1 c2 c3 c4 : Value) (hd : a.defers = []) (h2 : a.tmps.getD s undef = .pointer (some ⟨g, 0, none⟩))
    (hg : w.heap[g]? = some (.cells #[c0, c1, c2, c3, c4] 25 (0, 0))) (hR : R (.returned (.agg #[c0, c1, c2, c3, c4])) w) : bodyPost Tryz.prog fn R .ret a w := by
  refine bodyPost_ret (v := .agg #[c0, c1, c2, c3, c4]) ?_ hd hR
  have h2' : a.tmps[s]?.getD undef = .pointer (some ⟨g, 0, none⟩) := by simpa using h2
  have hv := run_loadVar_row (P := Tryz.prog) w g 25 25 _ _ _ hg exprType rfl (by kernel_rfl)
  simp [results, h, h2', asAddr, hv]
theorem fieldTok0 (c0 c1 c2 c3 : Value) (w : World) : (Instr.field 101 (.agg #[c0, c1, c2, c3]) 0).run Tryz.prog w = .ok c0 w := by
  unfold Instr.field
  simp [go_sem, asAgg]
theorem fieldTok1 (c0 c1 c2 c3 : Value) (w : World) : (Instr.field 101 (.agg #[c0, c1, c2, c3]) 1).run Tryz.prog w = .ok c1 w := by
  unfold Instr.field
  simp [go_sem, asAgg]
theorem fieldTok2 (c0 c1 c2 c3 : Value) (w : World) : (Instr.field 101 (.agg #[c0, c1, c2, c3]) 2).run Tryz.prog w = .ok c2 w := by
  unfold Instr.field
  simp [go_sem, asAgg]
theorem fieldTok3 (c0 c1 c2 c3 : Value) (w : World) : (Instr.field 101 (.agg #[c0, c1, c2, c3]) 3).run Tryz.prog w = .ok c3 w := by
  unfold Instr.field
  simp [go_sem, asAgg]
attribute [go_sem] fieldTok0 fieldTok1 fieldTok2 fieldTok3
end Go.Proofs.YtllcpoibnmhghaaGreatDoor

/- What met and fail come to. -/
namespace Go.Proofs.YtllcpoibnmhghaaGreatDoor
open Go.RowKit Lx

set_option maxRecDepth 100000 in
set_option maxHeartbeats 1000000 in
theorem met_any {all : List Tk} {E g : Nat} {v : Value} {w : World} {i n : Nat} (h0 : PS0 all E g v) (h : PSt all E g v w i n) :
    Calls Tryz.prog 75 #[.pointer (some ⟨g, 0, none⟩)] w fun e w' => e = .returned (tokV E (all.drop i)) ∧ Below w.heap.size w w' := by
  have hgl := lt_of_block h.blk
  have hA := (Below.heap_alloc w (.cells #[.int .i64 0, .int .i64 0, .int .i64 0, .string ⟨#[]⟩] 101) _ hgl).trans h.blk
  have k0 := (cell_of_row _ _ 0 _ _ _ hA).trans rfl
  have k1 := (cell_of_row _ _ 1 _ _ _ hA).trans rfl
  have k2 := (cell_of_row _ _ 2 _ _ _ hA).trans rfl
  have hb0 : Below w.heap.size w (w.alloc (.cells #[.int .i64 0, .int .i64 0, .int .i64 0, .string ⟨#[]⟩] 101)) := (Below.refl _ _).alloc (Nat.le_refl _) _
  have hn := heap_alloc_new w (.cells #[.int .i64 0, .int .i64 0, .int .i64 0, .string ⟨#[]⟩] 101)
  have hlen := h0.len
  have hle := h.le
  have hrow := h.row
  by_cases hi : i < all.length
  · have hi' : (i : Int) < (all.length : Int) := by omega
    have hi0 : (0 : Int) ≤ (i : Int) := by omega
    rcases hrow with ⟨_, _, e⟩ | ⟨gt, o, c, rfl, _, hc⟩
    · rw [e] at hi; simp at hi
    obtain ⟨⟨t, k⟩, htk⟩ : ∃ q, all[i]? = some q := ⟨all[i], List.getElem?_eq_getElem hi⟩
    obtain ⟨c0, c1, c2, c3⟩ := hc i t k htk
    have d0 := (hb0.cell (block_lt_of_cell c0)).trans c0
    have d1 := (hb0.cell (block_lt_of_cell c1)).trans c1
    have d2 := (hb0.cell (block_lt_of_cell c2)).trans c2
    have d3 := (hb0.cell (block_lt_of_cell c3)).trans c3
    have ed : all.drop i = (t, k) :: all.drop (i + 1) := by
      obtain ⟨h1, h2⟩ := List.getElem?_eq_some_iff.1 htk
      rw [List.drop_eq_getElem_cons h1, h2]
    have HR : Hid (tokV E (all.drop i) = .agg #[.int .i64 t.kind, .int .i64 t.n, .int .i64 (k : Int), .string ⟨t.text.toArray⟩]) := by
      show _ = _
      rw [ed]; rfl
    clear hA hgl ed h hc c0 c1 c2 c3 htk
    generalize (⟨t.text.toArray⟩ : ByteArray) = x at *
    generalize hw1 : w.alloc (.cells #[.int .i64 0, .int .i64 0, .int .i64 0, .string ⟨#[]⟩] 101) = w1 at *
    go_enter Tryz.func75, Tryz.ntmps75
    go_wp2
    go_quiet (fail)
    have hn2 : (w1.drewN nq).heap[w.heap.size]? = some (.cells #[.int .i64 0, .int .i64 0, .int .i64 0, .string ⟨#[]⟩] 101 (0, 0)) := hn
    have e0 : (w1.drewN nq).cell? ⟨g, 0, none⟩ = some (.slice (some ⟨gt, o, none⟩) all.length c) := k0
    have e1 : (w1.drewN nq).cell? ⟨g, 1, none⟩ = some (.int .i64 (i : Int)) := k1
    have f0 : (w1.drewN nq).cell? ⟨gt, o + i * 4, none⟩ = some (.int .i64 t.kind) := d0
    have f1 : (w1.drewN nq).cell? ⟨gt, o + i * 4 + 1, none⟩ = some (.int .i64 t.n) := d1
    have f2 : (w1.drewN nq).cell? ⟨gt, o + i * 4 + 2, none⟩ = some (.int .i64 (k : Int)) := d2
    have f3 : (w1.drewN nq).cell? ⟨gt, o + i * 4 + 3, none⟩ = some (.string x) := d3
    have hb2 := below_drewN hb0 nq
    clear hw1 k0 k1 k2 hn hb0 d0 d1 d2 d3
    generalize w1.drewN nq = w2 at *
    have z0 := (cell_of_row _ _ 0 _ _ _ hn2).trans rfl
    have z1 := (cell_of_row _ _ 1 _ _ _ hn2).trans rfl
    have z2 := (cell_of_row _ _ 2 _ _ _ hn2).trans rfl
    have z3 := (cell_of_row _ _ 3 _ _ _ hn2).trans rfl
    have y0 := frozen_of_row _ _ 0 _ _ hn2
    have y1 := frozen_of_row _ _ 1 _ _ hn2
    have y2 := frozen_of_row _ _ 2 _ _ hn2
    have y3 := frozen_of_row _ _ 3 _ _ hn2
    have hm : ((((w2.setCell ⟨w.heap.size, 0, none⟩ (.int .i64 t.kind)).setCell ⟨w.heap.size, 1, none⟩ (.int .i64 t.n)).setCell ⟨w.heap.size, 2, none⟩ (.int .i64 (k : Int))).setCell ⟨w.heap.size, 3, none⟩ (.string x)).heap[w.heap.size]? = some (.cells #[.int .i64 t.kind, .int .i64 t.n, .int .i64 (k : Int), .string x] 101 (0, 0)) :=
      heap_setCell_same _ _ 3 _ _ _ (heap_setCell_same _ _ 2 _ _ _ (heap_setCell_same _ _ 1 _ _ _ (heap_setCell_same _ _ 0 _ _ _ hn2)))
    have hb3 := (((hb2.setCell (p := ⟨w.heap.size, 0, none⟩) (Nat.le_refl _) (.int .i64 t.kind)).setCell (p := ⟨w.heap.size, 1, none⟩) (Nat.le_refl _) (.int .i64 t.n)).setCell (p := ⟨w.heap.size, 2, none⟩) (Nat.le_refl _) (.int .i64 (k : Int))).setCell (p := ⟨w.heap.size, 3, none⟩) (Nat.le_refl _) (.string x)
    go_wp2
    go_region
    go_wp2
    exact tok_ret 2 (by kernel_rfl) w.heap.size (.int .i64 t.kind) (.int .i64 t.n) (.int .i64 (k : Int)) (.string x) rfl rfl hm ⟨by rw [HR.out], below_drewN hb3 1⟩
  · have hi' : ¬ (i : Int) < (all.length : Int) := by omega
    obtain ⟨p, c, rfl⟩ := TRow.form hrow
    have ed : all.drop i = [] := List.drop_eq_nil_of_le (by omega)
    rw [ed]
    clear hA hgl ed hrow h
    generalize hw1 : w.alloc (.cells #[.int .i64 0, .int .i64 0, .int .i64 0, .string ⟨#[]⟩] 101) = w1 at *
    go_enter Tryz.func75, Tryz.ntmps75
    go_wp2
    go_quiet (fail)
    have hn2 : (w1.drewN nq).heap[w.heap.size]? = some (.cells #[.int .i64 0, .int .i64 0, .int .i64 0, .string ⟨#[]⟩] 101 (0, 0)) := hn
    have e2 : (w1.drewN nq).cell? ⟨g, 2, none⟩ = some (.int .i64 (E : Int)) := k2
    have hb2 := below_drewN hb0 nq
    clear hw1 k0 k1 k2 hn hb0
    generalize w1.drewN nq = w2 at *
    go_wp2_with (refine wpList_store_row rfl 101 _ _ rfl _ _ rfl rfl _ _ hn2 (by kernel_rfl) (by simp) (by simp [Value.oneCell']) ?_)
    exact tok_ret 2 (by kernel_rfl) w.heap.size _ _ _ _ rfl rfl (setRow_heap _ _ _ _ _ _ hn2) ⟨rfl, below_setRow hb2 (Nat.le_refl _) _⟩
/-- What is thrown. -/
def thrownV (er : Int) (at_ : Nat) : List PanicEntry := [{ v := .iface 86 (.agg #[.int .i64 er, .int .i64 (at_ : Int)]), recovered := false }]
set_option maxRecDepth 100000 in
theorem fail_any {all : List Tk} {E g : Nat} {v : Value} {w : World} {i n : Nat} (h0 : PS0 all E g v) (h : PSt all E g v w i n) (er : Int) :
    Calls Tryz.prog 57 #[.pointer (some ⟨g, 0, none⟩), .int .i64 er] w fun e w' => e = .panicked (thrownV er (atP E (all.drop i))) ∧ Below w.heap.size w w' := by
  have c := met_any h0 h
  unfold tokV at c
  generalize atP E (all.drop i) = a at *
  go_enter Tryz.func57, Tryz.ntmps57
  go_wp2_with fail
  refine c.mono ?_
  rintro e w1 ⟨rfl, hb1⟩
  go_wp2_with fail
  exact ⟨rfl, rfl, hb1⟩
/-- How a text reads in memory. -/
theorem str_eq (x y : List UInt8) : ((⟨x.toArray⟩ : ByteArray).toList == (⟨y.toArray⟩ : ByteArray).toList) = (x == y) := by rw [Lib.toList_data, Lib.toList_data]
theorem Kept.set (w : World) (g j : Nat) (u : Value) : Kept g w (w.setCell ⟨g, j, none⟩ u) := ⟨rfl, rfl, rfl, by simp, fun k _ hk => heap_setCell_other w ⟨g, j, none⟩ k u (fun e => hk (by rw [e]))⟩
theorem PSt.of_kept {all : List Tk} {E g : Nat} {v : Value} {w : World} {i n i' n' : Nat} {w' : World} (h : PSt all E g v w i n) (h0 : PS0 all E g v) (hk : Kept g w w') (hb : w'.heap[g]? = some (.cells #[v, .int .i64 (i' : Int), .int .i64 (E : Int), .int .i64 (n' : Int)] 88 (0, 0))) (hi : i' ≤ all.length) : PSt all E g v w' i' n' :=
  ⟨hb, hk.row h0.own h.row, hi, hk.days h0.glob h.tab⟩
theorem PSt.set {all : List Tk} {E g : Nat} {v : Value} {w : World} {i n : Nat} (h : PSt all E g v w i n) (h0 : PS0 all E g v) (hi : i + 1 ≤ all.length) : PSt all E g v (w.setCell ⟨g, 1, none⟩ (.int .i64 ((i + 1 : Nat) : Int))) (i + 1) n :=
  h.of_kept h0 (Kept.set _ _ _ _) (heap_setCell_same _ _ 1 _ _ _ h.blk) hi
theorem PSt.setN {all : List Tk} {E g : Nat} {v : Value} {w : World} {i n : Nat} (h : PSt all E g v w i n) (h0 : PS0 all E g v) (m : Nat) : PSt all E g v (w.setCell ⟨g, 3, none⟩ (.int .i64 (m : Int))) i m :=
  h.of_kept h0 (Kept.set _ _ _ _) (heap_setCell_same _ _ 3 _ _ _ h.blk) h.le
theorem isT_len {x : List UInt8} {all : List Tk} {i : Nat} (hx : x ≠ []) (h : isT x (all.drop i) = true) : i + 1 ≤ all.length := by
  have := isT_cons hx h
  simp at this; omega

set_option maxRecDepth 100000 in
theorem skip_yes {all : List Tk} {E g : Nat} {v : Value} {w : World} {i n : Nat} (h0 : PS0 all E g v) (h : PSt all E g v w i n) (x : List UInt8) (hx : x ≠ []) (hT : isT x (all.drop i) = true) :
    Calls Tryz.prog 74 #[.pointer (some ⟨g, 0, none⟩), .string ⟨x.toArray⟩] w fun e w' => e = .returned (.bool true) ∧ PSt all E g v w' (i + 1) n ∧ Kept g w w' := by
  have c := met_any h0 h
  have hlen := h0.len
  have hi := isT_len hx hT
  have he : ((⟨(textP (all.drop i)).toArray⟩ : ByteArray).toList == (⟨x.toArray⟩ : ByteArray).toList) = true := by rw [str_eq]; exact hT
  unfold tokV at c
  generalize (⟨(textP (all.drop i)).toArray⟩ : ByteArray) = tx at *
  generalize (⟨x.toArray⟩ : ByteArray) = xx at *
  go_enter Tryz.func74, Tryz.ntmps74
  go_wp2_with fail
  refine c.mono ?_
  rintro e w1 ⟨rfl, hb1⟩
  have h1 := h.below hb1 h0
  have k1 := (cell_of_row _ _ 1 _ _ _ h1.blk).trans rfl
  have y1 := frozen_of_row _ _ 1 _ _ h1.blk
  have h2 := h1.set h0 hi
  have hk2 := (Kept.of_below (g := g) hb1).trans (Kept.set w1 g 1 (.int .i64 ((i + 1 : Nat) : Int)))
  have ei : (i : Int) + 1 = ((i + 1 : Nat) : Int) := by omega
  have hi6 : (i : Int) ≤ 6000 := by omega
  generalize ((i + 1 : Nat) : Int) = vv at *
  clear c h h1 hb1 hT
  go_wp2_with fail
  go_ret
  exact ⟨rfl, h2, hk2⟩
end Go.Proofs.YtllcpoibnmhghaaGreatDoor

/- What skip, must, see, take, takeFrom, ended and pair come to. -/
namespace Go.Proofs.YtllcpoibnmhghaaGreatDoor
open Go.RowKit Lx
variable {all : List Tk} {E g : Nat} {v : Value} {w : World} {i n : Nat}

set_option maxRecDepth 100000 in
theorem skip_no (h0 : PS0 all E g v) (h : PSt all E g v w i n) (x : List UInt8) (hT : isT x (all.drop i) = false) :
    Calls Tryz.prog 74 #[.pointer (some ⟨g, 0, none⟩), .string ⟨x.toArray⟩] w fun e w' => e = .returned (.bool false) ∧ PSt all E g v w' i n ∧ Kept g w w' := by
  have c := met_any h0 h
  have he : ((⟨(textP (all.drop i)).toArray⟩ : ByteArray).toList == (⟨x.toArray⟩ : ByteArray).toList) = false := by rw [str_eq]; exact hT
  unfold tokV at c
  generalize (⟨(textP (all.drop i)).toArray⟩ : ByteArray) = tx at *
  generalize (⟨x.toArray⟩ : ByteArray) = xx at *
  clear hT
  go_enter Tryz.func74, Tryz.ntmps74
  go_wp2_with fail
  refine c.mono ?_
  rintro e w1 ⟨rfl, hb1⟩
  have h1 := h.below hb1 h0
  have hk1 := Kept.of_below (g := g) hb1
  clear c h hb1
  go_wp2_with fail
  go_ret
  exact ⟨rfl, h1, hk1⟩
theorem must_yes (h0 : PS0 all E g v) (h : PSt all E g v w i n) (x : List UInt8) (hx : x ≠ []) (hT : isT x (all.drop i) = true) :
    Calls Tryz.prog 56 #[.pointer (some ⟨g, 0, none⟩), .string ⟨x.toArray⟩] w fun e w' => e = .returned (.tuple #[]) ∧ PSt all E g v w' (i + 1) n ∧ Kept g w w' := by
  have c := skip_yes h0 h x hx hT
  clear hT h
  go_enter Tryz.func56, Tryz.ntmps56
  go_wp2_with fail
  refine c.mono ?_
  rintro e w1 ⟨rfl, h1, hk1⟩
  go_wp2_with fail
  go_end0
  exact ⟨rfl, h1, hk1⟩
theorem must_no (h0 : PS0 all E g v) (h : PSt all E g v w i n) (x : List UInt8) (hT : isT x (all.drop i) = false) :
    Calls Tryz.prog 56 #[.pointer (some ⟨g, 0, none⟩), .string ⟨x.toArray⟩] w fun e w' => e = .panicked (thrownV 2 (atP E (all.drop i))) ∧ Kept g w w' := by
  have c := skip_no h0 h x hT
  clear hT h
  go_enter Tryz.func56, Tryz.ntmps56
  go_wp2_with fail
  refine c.mono ?_
  rintro e w1 ⟨rfl, h1, hk1⟩
  go_wp2_with fail
  refine (fail_any h0 h1 2).mono ?_
  rintro e w2 ⟨rfl, hb2⟩
  exact ⟨rfl, rfl, hk1.trans (Kept.of_below hb2)⟩

set_option maxRecDepth 100000 in
theorem see_yes (h0 : PS0 all E g v) (h : PSt all E g v w i n) (kd : Int) (hk : kindP (all.drop i) = kd) :
    Calls Tryz.prog 87 #[.pointer (some ⟨g, 0, none⟩), .int .i64 kd] w fun e w' => e = .returned (tokV E (all.drop i)) ∧ PSt all E g v w' i n ∧ Below w.heap.size w w' := by
  have hb0 : Below w.heap.size w (w.alloc (.cells #[.int .i64 0, .int .i64 0, .int .i64 0, .string ⟨#[]⟩] 101)) := (Below.refl _ _).alloc (Nat.le_refl _) _
  have hn := heap_alloc_new w (.cells #[.int .i64 0, .int .i64 0, .int .i64 0, .string ⟨#[]⟩] 101)
  have hA := h.below hb0 h0
  have c := met_any h0 hA
  have c2 := fun (w1 : World) (h1 : PSt all E g v w1 i n) => met_any h0 h1
  unfold tokV at c c2 ⊢
  rw [hk] at c
  generalize hw1 : w.alloc (.cells #[.int .i64 0, .int .i64 0, .int .i64 0, .string ⟨#[]⟩] 101) = wA at *
  go_enter Tryz.func87, Tryz.ntmps87
  go_wp2_with fail
  refine c.mono ?_
  rintro e w1 ⟨rfl, hb1⟩
  have h1 := hA.below hb1 h0
  have hn1 := (hb1.block _ (lt_of_block hn)).trans hn
  have hbw1 := hb0.trans (hb1.mono hb0.size)
  have hne : (kd != kd) = false := by simp
  clear c hA hb1 hw1 hn hb0 hk
  go_wp2_with fail
  refine (c2 _ h1).mono ?_
  rintro e w2 ⟨rfl, hb2⟩
  have h2 := h1.below hb2 h0
  have hn2 := (hb2.block _ (lt_of_block hn1)).trans hn1
  have hbw2 := hbw1.trans (hb2.mono hbw1.size)
  clear c2 h1 hb2 hn1 hbw1
  have hs : Below w.heap.size w (w2.setRow w.heap.size #[.int .i64 (kindP (all.drop i)), .int .i64 (numP (all.drop i)), .int .i64 (atP E (all.drop i) : Int), .string ⟨(textP (all.drop i)).toArray⟩]) := below_setRow hbw2 (Nat.le_refl _) _
  go_wp2_with (refine wpList_store_row rfl 101 _ _ rfl _ _ rfl rfl _ _ hn2 (by kernel_rfl) (by simp) (by simp [Value.oneCell']) ?_)
  exact tok_ret 4 (by kernel_rfl) w.heap.size _ _ _ _ rfl rfl (setRow_heap _ _ _ _ _ _ hn2) ⟨rfl, h.below hs h0, hs⟩
set_option maxRecDepth 100000 in
theorem see_no (h0 : PS0 all E g v) (h : PSt all E g v w i n) (kd : Int) (hk : kindP (all.drop i) ≠ kd) :
    Calls Tryz.prog 87 #[.pointer (some ⟨g, 0, none⟩), .int .i64 kd] w fun e w' => e = .panicked (thrownV 2 (atP E (all.drop i))) ∧ Below w.heap.size w w' := by
  have hb0 : Below w.heap.size w (w.alloc (.cells #[.int .i64 0, .int .i64 0, .int .i64 0, .string ⟨#[]⟩] 101)) := (Below.refl _ _).alloc (Nat.le_refl _) _
  have hA := h.below hb0 h0
  have c := met_any h0 hA
  unfold tokV at c
  have hne : (kindP (all.drop i) != kd) = true := by simpa using hk
  have c2 := fun (w1 : World) (h1 : PSt all E g v w1 i n) => fail_any h0 h1 2
  generalize kindP (all.drop i) = kq at *
  generalize hw1 : w.alloc (.cells #[.int .i64 0, .int .i64 0, .int .i64 0, .string ⟨#[]⟩] 101) = wA at *
  clear hk
  go_enter Tryz.func87, Tryz.ntmps87
  go_wp2_with fail
  refine c.mono ?_
  rintro e w1 ⟨rfl, hb1⟩
  have h1 := hA.below hb1 h0
  have hbw1 := hb0.trans (hb1.mono hb0.size)
  clear c hA hb1 hw1 hb0
  go_wp2_with fail
  refine (c2 _ h1).mono ?_
  rintro e w2 ⟨rfl, hb2⟩
  exact ⟨rfl, rfl, hbw1.trans (hb2.mono hbw1.size)⟩
end Go.Proofs.YtllcpoibnmhghaaGreatDoor
