/- What lex.remarkLength and lex.skip come to. -/
import Derived.Test.YtgjggpgkcbekoadRa06
import Derived.OwnWalk
import Derived.Test.YtgjggpgkcbekoadRa03
namespace Go.Proofs.Ytgjggpgkcbekoad
open Go.RowKit Lx

end Go.Proofs.Ytgjggpgkcbekoad

/- What lex.Lex comes to. -/
namespace Go.Proofs.Ytgjggpgkcbekoad
open Go.RowKit Lx

/-- The cells of a row of tokens. -/
def flatT : List (T1 × Nat) → List Value
  | [] => []
  | p :: l => .int .i64 p.1.kind :: .int .i64 p.1.n :: .int .i64 (p.2 : Int) :: .string ⟨p.1.text.toArray⟩ :: flatT l
theorem flatT_snoc (t : T1) (k : Nat) : ∀ l : List (T1 × Nat), flatT (l ++ [(t, k)]) = flatT l ++ [.int .i64 t.kind, .int .i64 t.n, .int .i64 (k : Int), .string ⟨t.text.toArray⟩]
  | [] => rfl
  | s :: l => by simp [flatT, flatT_snoc t k l]
theorem owns_below {w w' : World} {base : Nat} {e : TypeId} {size : Nat} {v : Value} {n : Nat} {xs : List Value} (h : w.ownsRow base e size v n xs) (hb : Below w.heap.size w w') : w'.ownsRow base e size v n xs := by
  obtain ⟨h1, h2⟩ := h
  refine ⟨h1, ?_⟩
  rcases h2 with h2 | ⟨g, cap, cur, hv, hg, hh, r⟩
  · exact .inl h2
  · exact .inr ⟨g, cap, cur, hv, hg, (hb.block g (lt_of_block hh)).trans hh, r⟩
theorem owns_type {w : World} {base : Nat} {e : TypeId} {size : Nat} {v : Value} {n : Nat} {xs : List Value} (h : w.ownsRow base e size v n xs) {k : Nat} {c : Array Value} {t : TypeId} (hk : w.heap[k]? = some (.cells c t (0, 0))) (ht : t ≠ e) : v.ownBlock ≠ some k := by
  obtain ⟨_, h2⟩ := h
  rcases h2 with ⟨h2, _⟩ | ⟨g, cap, cur, hv, hg, hh, r⟩
  · subst h2; simp [Value.ownBlock]
  · subst hv
    intro e1
    have e2 : g = k := by simpa [Value.ownBlock] using e1
    subst e2
    rw [hh] at hk
    exact ht (Obj.cells.inj (Option.some.inj hk)).2.1.symm
theorem faultType : Try.prog.underlying 25 = some (.struct (Try.prog.fieldsOf 25)) := by kernel_rfl
theorem owns_setRow {w : World} {base : Nat} {e : TypeId} {size : Nat} {v : Value} {n : Nat} {xs : List Value} (h : w.ownsRow base e size v n xs) {g : Nat} (hg : v.ownBlock ≠ some g) (cs : Array Value) : (w.setRow g cs).ownsRow base e size v n xs := by
  obtain ⟨h1, h2⟩ := h
  refine ⟨h1, ?_⟩
  rcases h2 with h2 | ⟨g', cap, cur, hv, hb, hh, r⟩
  · exact .inl h2
  · refine .inr ⟨g', cap, cur, hv, hb, (setRow_other _ _ _ _ fun e => hg ?_).trans hh, r⟩
    subst hv
    simp [Value.ownBlock, e]
end Go.Proofs.Ytgjggpgkcbekoad

/- What lex.Named comes to; how tokens lie in memory; the tokens of one text, told. -/
namespace Go.Proofs.Ytgjggpgkcbekoad
open Go.RowKit Lx

def namedL (l : List UInt8) : Bool := decide (l.length ≠ 0) && (decide (l.length ≤ 20) && (decide (wordLen l = l.length) && !isWordL l))
theorem own_slice {w : World} {base : Nat} {e : TypeId} {size : Nat} {v : Value} {n : Nat} {xs : List Value} (h : w.ownsRow base e size v n xs) (hn : 0 < n) :
    ∃ g cap : Nat, v = .slice (some ⟨g, 0, none⟩) n cap ∧ ∀ (i : Nat) (u : Value), xs[i]? = some u → w.cell? ⟨g, i, none⟩ = some u := by
  obtain ⟨_, h2⟩ := h
  rcases h2 with ⟨_, h2⟩ | ⟨g, cap, cur, hv, hb, hh, _, _, _, h6⟩
  · omega
  · refine ⟨g, cap, hv, fun i u hu => ?_⟩
    rw [cell_of_row _ _ _ _ _ _ hh]
    rw [← h6, List.getElem?_take] at hu
    split at hu
    · simpa using hu
    · cases hu
theorem Lexed.iter {l : List UInt8} {ts : List (T1 × Nat)} {k : Nat} (h : Lexed l ts k) : ∃ n, iterN l n = some (ts, k) := h
theorem iter_none {l : List UInt8} {n : Nat} (h : iterN l n = none) : ∀ m, n ≤ m → iterN l m = none
  | 0, hm => by have : n = 0 := by omega
                subst this; exact h
  | m + 1, hm => by
    by_cases e : n = m + 1
    · rw [← e]; exact h
    · simp only [iterN, iter_none h m (by omega)]
/-- The text that the law asks about first. -/
def aliveL : List UInt8 := [114, 117, 108, 101, 32, 97, 32, 61, 32, 48, 57, 58, 51, 48, 45, 49, 48, 58, 48, 48, 59, 32, 35, 32, 110]
def aliveTs : List (T1 × Nat) := [(⟨2, 0, [114, 117, 108, 101], 4, 0⟩, 0), (⟨1, 0, [97], 1, 0⟩, 5), (⟨3, 0, [61], 1, 0⟩, 7), (⟨4, 570, [], 5, 0⟩, 9), (⟨3, 0, [45], 1, 0⟩, 14), (⟨4, 600, [], 5, 0⟩, 15), (⟨3, 0, [59], 1, 0⟩, 20)]
set_option maxRecDepth 100000 in
theorem alive_iter : iterN aliveL 7 = some (aliveTs, 25) := by rfl
end Go.Proofs.Ytgjggpgkcbekoad

/- What is wrong with an expression's form: plain. -/
namespace Lx

/-- How many kids a kind has. -/
def kidsP (k : Int) : Nat := if k = 4 ∨ k = 5 ∨ k = 9 then 1 else if k = 6 ∨ k = 7 ∨ k = 8 then 2 else 0
/-- Are the numbers as the kind asks? -/
def rangeP (k a b : Int) : Bool :=
  if k = 3 then decide (0 ≤ a ∧ a < b ∧ b ≤ 1440)
  else if k = 4 then decide (1 ≤ a ∧ a < 128)
  else if k = 5 then decide (0 ≤ a ∧ a ≤ b ∧ b < 146097)
  else if k = 9 then decide (a ≠ 0 ∧ -1440 < a ∧ a < 1440) else true
/-- What is wrong with an expression, whatever its kids are. -/
def aloneP (e : Ex) : Int :=
  if e.kind < 1 ∨ 10 < e.kind then 1 else if e.kids.length ≠ kidsP e.kind then 5 else if rangeP e.kind e.a e.b = false then 3 else if e.kind = 10 ∧ Go.Proofs.Ytgjggpgkcbekoad.namedL e.name = false then 7 else 0
/-- What is wrong with an expression so deep, so many being counted; and how many are counted then. -/
def shapeP (e : Ex) (deep n : Nat) : Int × Nat :=
  if 600 < n + 1 ∨ 40 < deep then (4, n + 1)
  else if aloneP e ≠ 0 then (aloneP e, n + 1)
  else e.kids.attach.foldl (fun acc k => if acc.1 ≠ 0 then acc else shapeP k.1 (deep + 1) acc.2) (0, n + 1)
  termination_by sizeOf e
  decreasing_by exact kid_lt k.2
def shapeL (ks : List Ex) (deep : Nat) (acc : Int × Nat) : Int × Nat := ks.foldl (fun acc k => if acc.1 ≠ 0 then acc else shapeP k deep acc.2) acc
theorem shapeP_eq (e : Ex) (deep n : Nat) : shapeP e deep n = if 600 < n + 1 ∨ 40 < deep then (4, n + 1) else if aloneP e ≠ 0 then (aloneP e, n + 1) else shapeL e.kids (deep + 1) (0, n + 1) := by
  rw [shapeP]
  unfold shapeL
  rw [← List.foldl_attach (f := fun (acc : Int × Nat) k => if acc.1 ≠ 0 then acc else shapeP k (deep + 1) acc.2)]
theorem shapeL_nil (deep : Nat) (acc : Int × Nat) : shapeL [] deep acc = acc := rfl
theorem shapeL_cons (k : Ex) (ks : List Ex) (deep : Nat) (acc : Int × Nat) : shapeL (k :: ks) deep acc = shapeL ks deep (if acc.1 ≠ 0 then acc else shapeP k deep acc.2) := rfl
theorem shapeL_bad {ks : List Ex} {deep : Nat} {acc : Int × Nat} (h : acc.1 ≠ 0) : shapeL ks deep acc = acc := by
  induction ks with
  | nil => rfl
  | cons k ks ih => rw [shapeL_cons, if_pos h, ih]
/-- One kid more. -/
theorem shapeL_step {ks : List Ex} {deep j m : Nat} {k : Ex} (h : ks[j]? = some k) : shapeL (ks.drop j) deep (0, m) = shapeL (ks.drop (j + 1)) deep (shapeP k deep m) := by
  obtain ⟨h1, h2⟩ := List.getElem?_eq_some_iff.1 h
  rw [List.drop_eq_getElem_cons h1, h2, shapeL_cons, if_neg (by simp)]
theorem shape_le : ∀ (N : Nat) (e : Ex) (deep n : Nat), sizeOf e ≤ N → (shapeP e deep n).1 = 0 → (shapeP e deep n).2 ≤ 600
  | 0, e, _, _, hN, _ => by cases e; simp at hN
  | N + 1, e, deep, n, hN, h => by
    rw [shapeP_eq] at h ⊢
    split at h
    · cases h
    · rename_i h1
      rw [if_neg h1]
      split at h
      · rename_i h2; exact absurd h h2
      · rename_i h2
        rw [if_neg h2]
        have aux : ∀ (ks : List Ex), (∀ k ∈ ks, sizeOf k ≤ N) → ∀ acc : Int × Nat, acc.2 ≤ 600 → (shapeL ks (deep + 1) acc).1 = 0 → (shapeL ks (deep + 1) acc).2 ≤ 600 := by
          intro ks
          induction ks with
          | nil => intro _ acc ha _; exact ha
          | cons k ks ih =>
            intro hk acc ha h0
            rw [shapeL_cons] at h0 ⊢
            by_cases hb : acc.1 ≠ 0
            · rw [if_pos hb] at h0 ⊢
              exact ih (fun q hq => hk q (List.mem_cons_of_mem _ hq)) acc ha h0
            · rw [if_neg hb] at h0 ⊢
              refine ih (fun q hq => hk q (List.mem_cons_of_mem _ hq)) _ ?_ h0
              by_cases hz : (shapeP k (deep + 1) acc.2).1 = 0
              · exact shape_le N k (deep + 1) acc.2 (hk k List.mem_cons_self) hz
              · rw [shapeL_bad hz] at h0; exact absurd h0 hz
        exact aux e.kids (fun k hk => by have := kid_lt hk; omega) (0, n + 1) (by simp at h1 ⊢; omega) h
theorem shapeP_le {e : Ex} {deep n : Nat} (h : (shapeP e deep n).1 = 0) : (shapeP e deep n).2 ≤ 600 := shape_le _ e deep n (Nat.le_refl _) h
end Lx

/- Plain facts about two texts on two lines. -/
namespace Go.Proofs.Ytgjggpgkcbekoad
open Go.RowKit Lx

theorem run_line (p : UInt8 → Bool) (hp : p 10 = false) (y : List UInt8) : ∀ x : List UInt8, runOf p (x ++ 10 :: y) = runOf p x
  | [] => by simp [runOf, hp]
  | c :: x => by simp only [List.cons_append, runOf, run_line p hp y x]
theorem word_line (y : List UInt8) : ∀ x : List UInt8, wordLen (x ++ 10 :: y) = wordLen x
  | [] => by simp [wordLen, show isL 10 = false from by decide]
  | c :: x => by simp only [List.cons_append, wordLen, run_line isC (by decide) y x]
theorem getD_line (x y : List UInt8) (i : Nat) (hi : i < x.length) : (x ++ 10 :: y).getD i 0 = x.getD i 0 := by
  rw [List.getD_eq_getElem?_getD, List.getD_eq_getElem?_getD, List.getElem?_append_left hi]
theorem getD_lf (x y : List UInt8) : (x ++ 10 :: y).getD x.length 0 = 10 := by
  rw [List.getD_eq_getElem?_getD, List.getElem?_append_right (Nat.le_refl _)]; simp
/-- A form that asks for no line feed fits where it does on the first line. -/
theorem fits_line (x y m : List UInt8) (hm : ∀ i, i < m.length → okB (m.getD i 0) 10 = false) : fitsL (x ++ 10 :: y) m = fitsL x m := by
  by_cases hle : m.length ≤ x.length
  · cases h : fitsL x m with
    | true =>
      obtain ⟨_, h2⟩ := fitsL_at h
      exact fitsL_yes (by simp; omega) fun i hi => by rw [getD_line x y i (by omega)]; exact h2 i hi
    | false =>
      cases h' : fitsL (x ++ 10 :: y) m with
      | false => rfl
      | true =>
        obtain ⟨_, h2⟩ := fitsL_at h'
        have : fitsL x m = true := fitsL_yes hle fun i hi => by
          have := h2 i hi
          rw [getD_line x y i (by omega)] at this
          exact this
        rw [h] at this; cases this
  · rw [fitsL_short hle]
    exact fitsL_no x.length (by omega) (by rw [getD_lf]; exact hm _ (by omega))
theorem take_line (x y : List UInt8) (a n : Nat) (h : a + n ≤ x.length) : ((x ++ 10 :: y).drop a).take n = (x.drop a).take n := by
  rw [List.drop_append_of_le_length (by omega), List.take_append_of_le_length (by simp; omega)]
/-- The first token of a line that has bytes does not see the next line. -/
theorem first_line (x y : List UInt8) (h0 : 0 < x.length) : firstT (x ++ 10 :: y) = firstT x := by
  have hg : (x ++ 10 :: y).getD 0 0 = x.getD 0 0 := getD_line x y 0 h0
  unfold firstT
  rw [fits_line x y dateF (by decide), fits_line x y timeF (by decide), hg]
  split
  · rename_i h
    have hl : 10 ≤ x.length := (fitsL_at h).1
    unfold dateT
    rw [take_line x y 0 4 (by omega), take_line x y 5 2 (by omega), take_line x y 8 2 (by omega)]
  · split
    · rename_i h
      have hl : 5 ≤ x.length := (fitsL_at h).1
      unfold timeT
      rw [take_line x y 0 2 (by omega), take_line x y 3 2 (by omega)]
    · split
      · unfold numT
        have hr := runOf_le isD x
        rw [run_line isD (by decide) y x]
        rw [List.take_append_of_le_length hr]
      · split
        · unfold wordT
          have hr := wordLen_le x
          rw [word_line y x, List.take_append_of_le_length hr]
        · unfold signT
          rw [hg]
          have hp : Lib.hasPrefix (x ++ 10 :: y) [46, 46] = Lib.hasPrefix x [46, 46] := by
            match x, h0 with
            | [c], _ => simp [Lib.hasPrefix, List.isPrefixOf]
            | c :: d :: r, _ => simp [Lib.hasPrefix, List.isPrefixOf]
          rw [hp]
/-- What is skipped on the first line, and then. -/
theorem skip_line (y : List UInt8) : ∀ (b : Bool) (x : List UInt8), skipS b (x ++ 10 :: y) = if skipS b x = x.length then x.length + 1 + skipS false y else skipS b x
  | true, [] => by simp [skipS]; omega
  | false, [] => by simp [skipS]; omega
  | true, c :: x => by
    have h1 := skip_line y true x
    have h2 := skip_line y false x
    simp only [List.cons_append, skipS, List.length_cons]
    split
    · rw [h2]; split <;> split <;> omega
    · rw [h1]; split <;> split <;> omega
  | false, c :: x => by
    have h1 := skip_line y true x
    have h2 := skip_line y false x
    simp only [List.cons_append, skipS, List.length_cons]
    split
    · rw [h2]; split <;> split <;> omega
    · split
      · rw [h1]; split <;> split <;> omega
      · split
        · omega
        · rfl
end Go.Proofs.Ytgjggpgkcbekoad
