/- What lex.Lex comes to. -/
import Derived.Test.YtpmobjgnmidolaaDoorCu14
import Derived.OwnWalk
import Derived.Test.YtpmobjgnmidolaaDoorCu01
import Derived.Laws.StructEq
namespace Go.Proofs.YtpmobjgnmidolaaDoor
open Go.RowKit Lx

/-- The cells of a row of tokens. -/
def flatT : List (T1 × Nat) → List Value
  | [] => []
  | p :: l => .int .i64 p.1.kind :: .int .i64 p.1.n :: .int .i64 (p.2 : Int) :: .string ⟨p.1.text.toArray⟩ :: flatT l
theorem flatT_snoc (t : T1) (k : Nat) : ∀ l : List (T1 × Nat), flatT (l ++ [(t, k)]) = flatT l ++ [.int .i64 t.kind, .int .i64 t.n, .int .i64 (k : Int), .string ⟨t.text.toArray⟩]
  | [] => rfl
  | s :: l => by simp [flatT, flatT_snoc t k l]
theorem owns_below {w w' : World} {base : Nat} {e : TypeId} {size : Nat} {v : Value} {n : Nat} {xs : List Value} (h : w.ownsRow base e size v n xs) (hb : Below w.heap.size w w') : w'.ownsRow base e size v n xs := by
  obtain ⟨h1, h2⟩ := h
  refine ⟨h1, ?_⟩
  rcases h2 with h2 | ⟨g, cap, cur, hv, hg, hh, r⟩
  · exact .inl h2
  · exact .inr ⟨g, cap, cur, hv, hg, (hb.block g (lt_of_block hh)).trans hh, r⟩
theorem owns_type {w : World} {base : Nat} {e : TypeId} {size : Nat} {v : Value} {n : Nat} {xs : List Value} (h : w.ownsRow base e size v n xs) {k : Nat} {c : Array Value} {t : TypeId} (hk : w.heap[k]? = some (.cells c t (0, 0))) (ht : t ≠ e) : v.ownBlock ≠ some k := by
  obtain ⟨_, h2⟩ := h
  rcases h2 with ⟨h2, _⟩ | ⟨g, cap, cur, hv, hg, hh, r⟩
  · subst h2; simp [Value.ownBlock]
  · subst hv
    intro e1
    have e2 : g = k := by simpa [Value.ownBlock] using e1
    subst e2
    rw [hh] at hk
    exact ht (Obj.cells.inj (Option.some.inj hk)).2.1.symm
theorem faultType : Tryd.prog.underlying 26 = some (.struct (Tryd.prog.fieldsOf 26)) := by kernel_rfl
theorem owns_setRow {w : World} {base : Nat} {e : TypeId} {size : Nat} {v : Value} {n : Nat} {xs : List Value} (h : w.ownsRow base e size v n xs) {g : Nat} (hg : v.ownBlock ≠ some g) (cs : Array Value) : (w.setRow g cs).ownsRow base e size v n xs := by
  obtain ⟨h1, h2⟩ := h
  refine ⟨h1, ?_⟩
  rcases h2 with h2 | ⟨g', cap, cur, hv, hb, hh, r⟩
  · exact .inl h2
  · refine .inr ⟨g', cap, cur, hv, hb, (setRow_other _ _ _ _ fun e => hg ?_).trans hh, r⟩
    subst hv
    simp [Value.ownBlock, e]
end Go.Proofs.YtpmobjgnmidolaaDoor

/- What lex.Named comes to; how tokens lie in memory; the tokens of one text, told. -/
namespace Go.Proofs.YtpmobjgnmidolaaDoor
open Go.RowKit Lx

def namedL (l : List UInt8) : Bool := decide (l.length ≠ 0) && (decide (l.length ≤ 20) && (decide (wordLen l = l.length) && !isWordL l))
theorem own_slice {w : World} {base : Nat} {e : TypeId} {size : Nat} {v : Value} {n : Nat} {xs : List Value} (h : w.ownsRow base e size v n xs) (hn : 0 < n) :
    ∃ g cap : Nat, v = .slice (some ⟨g, 0, none⟩) n cap ∧ ∀ (i : Nat) (u : Value), xs[i]? = some u → w.cell? ⟨g, i, none⟩ = some u := by
  obtain ⟨_, h2⟩ := h
  rcases h2 with ⟨_, h2⟩ | ⟨g, cap, cur, hv, hb, hh, _, _, _, h6⟩
  · omega
  · refine ⟨g, cap, hv, fun i u hu => ?_⟩
    rw [cell_of_row _ _ _ _ _ _ hh]
    rw [← h6, List.getElem?_take] at hu
    split at hu
    · simpa using hu
    · cases hu
theorem Lexed.iter {l : List UInt8} {ts : List (T1 × Nat)} {k : Nat} (h : Lexed l ts k) : ∃ n, iterN l n = some (ts, k) := h
theorem iter_none {l : List UInt8} {n : Nat} (h : iterN l n = none) : ∀ m, n ≤ m → iterN l m = none
  | 0, hm => by have : n = 0 := by omega
                subst this; exact h
  | m + 1, hm => by
    by_cases e : n = m + 1
    · rw [← e]; exact h
    · simp only [iterN, iter_none h m (by omega)]
/-- The text that the law asks about first. -/
def aliveL : List UInt8 := [114, 117, 108, 101, 32, 97, 32, 61, 32, 48, 57, 58, 51, 48, 45, 49, 48, 58, 48, 48, 59, 32, 35, 32, 110]
def aliveTs : List (T1 × Nat) := [(⟨2, 0, [114, 117, 108, 101], 4, 0⟩, 0), (⟨1, 0, [97], 1, 0⟩, 5), (⟨3, 0, [61], 1, 0⟩, 7), (⟨4, 570, [], 5, 0⟩, 9), (⟨3, 0, [45], 1, 0⟩, 14), (⟨4, 600, [], 5, 0⟩, 15), (⟨3, 0, [59], 1, 0⟩, 20)]
set_option maxRecDepth 100000 in
theorem alive_iter : iterN aliveL 7 = some (aliveTs, 25) := by rfl
end Go.Proofs.YtpmobjgnmidolaaDoor

/- What is wrong with an expression's form: plain. -/
namespace Lx

/-- How many kids a kind has. -/
def kidsP (k : Int) : Nat := if k = 4 ∨ k = 5 ∨ k = 9 then 1 else if k = 6 ∨ k = 7 ∨ k = 8 then 2 else 0
/-- Are the numbers as the kind asks? -/
def rangeP (k a b : Int) : Bool :=
  if k = 3 then decide (0 ≤ a ∧ a < b ∧ b ≤ 1440)
  else if k = 4 then decide (1 ≤ a ∧ a < 128)
  else if k = 5 then decide (0 ≤ a ∧ a ≤ b ∧ b < 146097)
  else if k = 9 then decide (a ≠ 0 ∧ -1440 < a ∧ a < 1440) else true
/-- What is wrong with an expression, whatever its kids are. -/
def aloneP (e : Ex) : Int :=
  if e.kind < 1 ∨ 10 < e.kind then 1 else if e.kids.length ≠ kidsP e.kind then 5 else if rangeP e.kind e.a e.b = false then 3 else if e.kind = 10 ∧ Go.Proofs.YtpmobjgnmidolaaDoor.namedL e.name = false then 7 else 0
/-- What is wrong with an expression so deep, so many being counted; and how many are counted then. -/
def shapeP (e : Ex) (deep n : Nat) : Int × Nat :=
  if 600 < n + 1 ∨ 40 < deep then (4, n + 1)
  else if aloneP e ≠ 0 then (aloneP e, n + 1)
  else e.kids.attach.foldl (fun acc k => if acc.1 ≠ 0 then acc else shapeP k.1 (deep + 1) acc.2) (0, n + 1)
  termination_by sizeOf e
  decreasing_by exact kid_lt k.2
def shapeL (ks : List Ex) (deep : Nat) (acc : Int × Nat) : Int × Nat := ks.foldl (fun acc k => if acc.1 ≠ 0 then acc else shapeP k deep acc.2) acc
theorem shapeP_eq (e : Ex) (deep n : Nat) : shapeP e deep n = if 600 < n + 1 ∨ 40 < deep then (4, n + 1) else if aloneP e ≠ 0 then (aloneP e, n + 1) else shapeL e.kids (deep + 1) (0, n + 1) := by
  rw [shapeP]
  unfold shapeL
  rw [← List.foldl_attach (f := fun (acc : Int × Nat) k => if acc.1 ≠ 0 then acc else shapeP k (deep + 1) acc.2)]
theorem shapeL_nil (deep : Nat) (acc : Int × Nat) : shapeL [] deep acc = acc := rfl
theorem shapeL_cons (k : Ex) (ks : List Ex) (deep : Nat) (acc : Int × Nat) : shapeL (k :: ks) deep acc = shapeL ks deep (if acc.1 ≠ 0 then acc else shapeP k deep acc.2) := rfl
theorem shapeL_bad {ks : List Ex} {deep : Nat} {acc : Int × Nat} (h : acc.1 ≠ 0) : shapeL ks deep acc = acc := by
  induction ks with
  | nil => rfl
  | cons k ks ih => rw [shapeL_cons, if_pos h, ih]
/-- One kid more. -/
theorem shapeL_step {ks : List Ex} {deep j m : Nat} {k : Ex} (h : ks[j]? = some k) : shapeL (ks.drop j) deep (0, m) = shapeL (ks.drop (j + 1)) deep (shapeP k deep m) := by
  obtain ⟨h1, h2⟩ := List.getElem?_eq_some_iff.1 h
  rw [List.drop_eq_getElem_cons h1, h2, shapeL_cons, if_neg (by simp)]
theorem shape_le : ∀ (N : Nat) (e : Ex) (deep n : Nat), sizeOf e ≤ N → (shapeP e deep n).1 = 0 → (shapeP e deep n).2 ≤ 600
  | 0, e, _, _, hN, _ => by cases e; simp at hN
  | N + 1, e, deep, n, hN, h => by
    rw [shapeP_eq] at h ⊢
    split at h
    · cases h
    · rename_i h1
      rw [if_neg h1]
      split at h
      · rename_i h2; exact absurd h h2
      · rename_i h2
        rw [if_neg h2]
        have aux : ∀ (ks : List Ex), (∀ k ∈ ks, sizeOf k ≤ N) → ∀ acc : Int × Nat, acc.2 ≤ 600 → (shapeL ks (deep + 1) acc).1 = 0 → (shapeL ks (deep + 1) acc).2 ≤ 600 := by
          intro ks
          induction ks with
          | nil => intro _ acc ha _; exact ha
          | cons k ks ih =>
            intro hk acc ha h0
            rw [shapeL_cons] at h0 ⊢
            by_cases hb : acc.1 ≠ 0
            · rw [if_pos hb] at h0 ⊢
              exact ih (fun q hq => hk q (List.mem_cons_of_mem _ hq)) acc ha h0
            · rw [if_neg hb] at h0 ⊢
              refine ih (fun q hq => hk q (List.mem_cons_of_mem _ hq)) _ ?_ h0
              by_cases hz : (shapeP k (deep + 1) acc.2).1 = 0
              · exact shape_le N k (deep + 1) acc.2 (hk k List.mem_cons_self) hz
              · rw [shapeL_bad hz] at h0; exact absurd h0 hz
        exact aux e.kids (fun k hk => by have := kid_lt hk; omega) (0, n + 1) (by simp at h1 ⊢; omega) h
theorem shapeP_le {e : Ex} {deep n : Nat} (h : (shapeP e deep n).1 = 0) : (shapeP e deep n).2 ≤ 600 := shape_le _ e deep n (Nat.le_refl _) h
end Lx

/- Plain facts about two texts on two lines. -/
namespace Go.Proofs.YtpmobjgnmidolaaDoor
open Go.RowKit Lx

theorem run_line (p : UInt8 → Bool) (hp : p 10 = false) (y : List UInt8) : ∀ x : List UInt8, runOf p (x ++ 10 :: y) = runOf p x
  | [] => by simp [runOf, hp]
  | c :: x => by simp only [List.cons_append, runOf, run_line p hp y x]
theorem word_line (y : List UInt8) : ∀ x : List UInt8, wordLen (x ++ 10 :: y) = wordLen x
  | [] => by simp [wordLen, show isL 10 = false from by decide]
  | c :: x => by simp only [List.cons_append, wordLen, run_line isC (by decide) y x]
theorem getD_line (x y : List UInt8) (i : Nat) (hi : i < x.length) : (x ++ 10 :: y).getD i 0 = x.getD i 0 := by
  rw [List.getD_eq_getElem?_getD, List.getD_eq_getElem?_getD, List.getElem?_append_left hi]
theorem getD_lf (x y : List UInt8) : (x ++ 10 :: y).getD x.length 0 = 10 := by
  rw [List.getD_eq_getElem?_getD, List.getElem?_append_right (Nat.le_refl _)]; simp
/-- A form that asks for no line feed fits where it does on the first line. -/
theorem fits_line (x y m : List UInt8) (hm : ∀ i, i < m.length → okB (m.getD i 0) 10 = false) : fitsL (x ++ 10 :: y) m = fitsL x m := by
  by_cases hle : m.length ≤ x.length
  · cases h : fitsL x m with
    | true =>
      obtain ⟨_, h2⟩ := fitsL_at h
      exact fitsL_yes (by simp; omega) fun i hi => by rw [getD_line x y i (by omega)]; exact h2 i hi
    | false =>
      cases h' : fitsL (x ++ 10 :: y) m with
      | false => rfl
      | true =>
        obtain ⟨_, h2⟩ := fitsL_at h'
        have : fitsL x m = true := fitsL_yes hle fun i hi => by
          have := h2 i hi
          rw [getD_line x y i (by omega)] at this
          exact this
        rw [h] at this; cases this
  · rw [fitsL_short hle]
    exact fitsL_no x.length (by omega) (by rw [getD_lf]; exact hm _ (by omega))
theorem take_line (x y : List UInt8) (a n : Nat) (h : a + n ≤ x.length) : ((x ++ 10 :: y).drop a).take n = (x.drop a).take n := by
  rw [List.drop_append_of_le_length (by omega), List.take_append_of_le_length (by simp; omega)]
/-- The first token of a line that has bytes does not see the next line. -/
theorem first_line (x y : List UInt8) (h0 : 0 < x.length) : firstT (x ++ 10 :: y) = firstT x := by
  have hg : (x ++ 10 :: y).getD 0 0 = x.getD 0 0 := getD_line x y 0 h0
  unfold firstT
  rw [fits_line x y dateF (by decide), fits_line x y timeF (by decide), hg]
  split
  · rename_i h
    have hl : 10 ≤ x.length := (fitsL_at h).1
    unfold dateT
    rw [take_line x y 0 4 (by omega), take_line x y 5 2 (by omega), take_line x y 8 2 (by omega)]
  · split
    · rename_i h
      have hl : 5 ≤ x.length := (fitsL_at h).1
      unfold timeT
      rw [take_line x y 0 2 (by omega), take_line x y 3 2 (by omega)]
    · split
      · unfold numT
        have hr := runOf_le isD x
        rw [run_line isD (by decide) y x]
        rw [List.take_append_of_le_length hr]
      · split
        · unfold wordT
          have hr := wordLen_le x
          rw [word_line y x, List.take_append_of_le_length hr]
        · unfold signT
          rw [hg]
          have hp : Lib.hasPrefix (x ++ 10 :: y) [46, 46] = Lib.hasPrefix x [46, 46] := by
            match x, h0 with
            | [c], _ => simp [Lib.hasPrefix, List.isPrefixOf]
            | c :: d :: r, _ => simp [Lib.hasPrefix, List.isPrefixOf]
          rw [hp]
/-- What is skipped on the first line, and then. -/
theorem skip_line (y : List UInt8) : ∀ (b : Bool) (x : List UInt8), skipS b (x ++ 10 :: y) = if skipS b x = x.length then x.length + 1 + skipS false y else skipS b x
  | true, [] => by simp [skipS]; omega
  | false, [] => by simp [skipS]; omega
  | true, c :: x => by
    have h1 := skip_line y true x
    have h2 := skip_line y false x
    simp only [List.cons_append, skipS, List.length_cons]
    split
    · rw [h2]; split <;> split <;> omega
    · rw [h1]; split <;> split <;> omega
  | false, c :: x => by
    have h1 := skip_line y true x
    have h2 := skip_line y false x
    simp only [List.cons_append, skipS, List.length_cons]
    split
    · rw [h2]; split <;> split <;> omega
    · split
      · rw [h1]; split <;> split <;> omega
      · split
        · omega
        · rfl
end Go.Proofs.YtpmobjgnmidolaaDoor

/- The tokens of two texts on two lines; that tokens are told one way alone. -/
namespace Go.Proofs.YtpmobjgnmidolaaDoor
open Go.RowKit Lx

theorem drop_line (x y : List UInt8) (k : Nat) (hk : k ≤ x.length) : (x ++ 10 :: y).drop k = x.drop k ++ 10 :: y := List.drop_append_of_le_length hk
theorem skip_at (x y : List UInt8) (k : Nat) (hk : k ≤ x.length) : k + skipS false ((x ++ 10 :: y).drop k) = if k + skipS false (x.drop k) < x.length then k + skipS false (x.drop k) else x.length + 1 + skipS false y := by
  rw [drop_line x y k hk, skip_line]
  have := skipS_le false (x.drop k)
  simp only [List.length_drop] at this ⊢
  split <;> split <;> omega
/-- The first line's tokens are the text's. -/
theorem lexed_line {x : List UInt8} (y : List UInt8) {ts : List (T1 × Nat)} {k : Nat} (h : Lexed x ts k) : Lexed (x ++ 10 :: y) ts (if k < x.length then k else x.length + 1 + skipS false y) := by
  obtain ⟨n, hn⟩ := h
  refine Lexed.ind (M := fun ts k => Lexed (x ++ 10 :: y) ts (if k < x.length then k else x.length + 1 + skipS false y)) ?_ ?_ n hn
  · have e := skip_at x y 0 (by omega)
    have s := Lexed.start (l := x ++ 10 :: y)
    rw [e] at s
    exact s
  · intro ts k _ hk he ih
    rw [if_pos hk] at ih
    have f := first_fine _ (drop_pos hk) he
    have hle := f.le
    simp only [List.length_drop] at hle
    have e1 : firstT ((x ++ 10 :: y).drop k) = firstT (x.drop k) := by rw [drop_line x y k (by omega), first_line _ y (drop_pos hk)]
    have s := Lexed.step ih (by simp; omega) (by rw [e1]; exact he)
    rw [e1, skip_at x y (k + (firstT (x.drop k)).len) (by omega)] at s
    exact s
/-- Tokens so many bytes on. -/
def onBy (n : Nat) (ts : List (T1 × Nat)) : List (T1 × Nat) := ts.map fun p => (p.1, n + p.2)
theorem drop_second (x y : List UInt8) (k : Nat) : (x ++ 10 :: y).drop (x.length + 1 + k) = y.drop k := by
  rw [show x.length + 1 + k = x.length + (1 + k) by omega, ← List.drop_drop, List.drop_left, show 1 + k = k + 1 by omega]
  rfl
theorem lexed_both {x y : List UInt8} {ts us : List (T1 × Nat)} {k : Nat} (hx : Lexed (x ++ 10 :: y) ts (x.length + 1 + skipS false y)) (h : Lexed y us k) : Lexed (x ++ 10 :: y) (ts ++ onBy (x.length + 1) us) (x.length + 1 + k) := by
  obtain ⟨n, hn⟩ := h
  refine Lexed.ind (M := fun us k => Lexed (x ++ 10 :: y) (ts ++ onBy (x.length + 1) us) (x.length + 1 + k)) ?_ ?_ n hn
  · simp only [onBy, List.map_nil, List.append_nil, Nat.zero_add, List.drop_zero]
    exact hx
  · intro us k _ hk he ih
    have e1 := drop_second x y k
    have s := Lexed.step ih (by simp; omega) (by rw [e1]; exact he)
    rw [e1] at s
    rw [show x.length + 1 + k + (firstT (y.drop k)).len = x.length + 1 + (k + (firstT (y.drop k)).len) by omega, drop_second] at s
    simp only [onBy, List.map_append, List.map_cons, List.map_nil]
    rw [← List.append_assoc, ← Nat.add_assoc (x.length + 1)]
    exact s
/-- Where the tokens end, they end one way alone. -/
theorem lexed_one {l : List UInt8} {ts us : List (T1 × Nat)} {k j : Nat} (h : Lexed l ts k) (h' : Lexed l us j) (hk : ¬ (k < l.length ∧ (firstT (l.drop k)).err = 0)) (hj : ¬ (j < l.length ∧ (firstT (l.drop j)).err = 0)) : ts = us ∧ k = j := by
  obtain ⟨n, hn⟩ := h.iter
  obtain ⟨m, hm⟩ := h'.iter
  have n1 : iterN l (n + 1) = none := by simp only [iterN, hn]; rw [if_neg hk]
  have m1 : iterN l (m + 1) = none := by simp only [iterN, hm]; rw [if_neg hj]
  have e : n = m := by
    rcases Nat.lt_trichotomy n m with g | g | g
    · have := iter_none n1 m (by omega)
      rw [hm] at this; cases this
    · exact g
    · have := iter_none m1 n (by omega)
      rw [hn] at this; cases this
  subst e
  rw [hn] at hm
  have := Option.some.inj hm
  exact ⟨congrArg Prod.fst this, congrArg Prod.snd this⟩
end Go.Proofs.YtpmobjgnmidolaaDoor

/- What lex.Named comes to, and that the law's first question is answered yes. -/
namespace Go.Proofs.YtpmobjgnmidolaaDoor
open Go.RowKit Lx

set_option maxRecDepth 10000 in
set_option maxHeartbeats 400000 in
theorem named_any (s : ByteArray) (l : List UInt8) (hs : s.data.toList = l) (hl : l.length ≤ 9223372036854775806) (w : World) :
    Calls Tryd.prog 90 #[.string s] w fun e w' => e = .returned (.bool (namedL l)) ∧ Below w.heap.size w w' := by
  have hz : s.size = l.length := by rw [← hs, Lib.size_eq]
  have hnil : s.toList.isEmpty = l.isEmpty := by rw [Lib.toList_data, hs]
  have cl := fun w => wordLen_any s l hs hl w
  have cw := fun w => isWord_any s l hs w
  by_cases h0 : l.length = 0
  · have HN : Hid (namedL l = false) := by show namedL l = false; simp [namedL, h0]
    have hq : s.toList.isEmpty = true := by rw [hnil]; simpa using h0
    clear hnil h0
    go_enter Tryd.func90, Tryd.ntmps90
    go_wp2_with (first
      | (go_at_call 112; refine (cl _).mono ?_; rintro e w' ⟨rfl, rfl⟩)
      | (go_at_call 113; refine (cw _).mono ?_; rintro e w1 ⟨rfl, hb1⟩))
    go_ret
    exact ⟨by rw [HN.out]; rfl, Below.refl _ _⟩
  · have hq : s.toList.isEmpty = false := by rw [hnil]; cases l <;> simp at h0 ⊢
    clear hnil
    by_cases h20 : l.length ≤ 20
    · have i20 : (l.length : Int) ≤ 20 := by omega
      by_cases hw : wordLen l = l.length
      · have HN : Hid (namedL l = !isWordL l) := by show namedL l = _; simp [namedL, h0, h20, hw]
        rw [hw] at cl
        clear h0 hw
        generalize isWordL l = b at *
        go_enter Tryd.func90, Tryd.ntmps90
        go_wp2_with (first
          | (go_at_call 112; refine (cl _).mono ?_; rintro e w' ⟨rfl, rfl⟩)
          | (go_at_call 113; refine (cw _).mono ?_; rintro e w1 ⟨rfl, hb1⟩))
        go_ret
        exact ⟨by rw [HN.out]; rfl, hb1⟩
      · have HN : Hid (namedL l = false) := by show namedL l = false; simp [namedL, hw]
        have iw : ((wordLen l : Int) == (l.length : Int)) = false := by simp; omega
        clear h0 hw
        generalize wordLen l = k at *
        go_enter Tryd.func90, Tryd.ntmps90
        go_wp2_with (first
          | (go_at_call 112; refine (cl _).mono ?_; rintro e w' ⟨rfl, rfl⟩)
          | (go_at_call 113; refine (cw _).mono ?_; rintro e w1 ⟨rfl, hb1⟩))
        go_ret
        exact ⟨by rw [HN.out]; rfl, Below.refl _ _⟩
    · have i20 : ¬ (l.length : Int) ≤ 20 := by omega
      have HN : Hid (namedL l = false) := by show namedL l = false; simp [namedL, h20]
      clear h0 h20
      go_enter Tryd.func90, Tryd.ntmps90
      go_wp2_with (first
        | (go_at_call 112; refine (cl _).mono ?_; rintro e w' ⟨rfl, rfl⟩)
        | (go_at_call 113; refine (cw _).mono ?_; rintro e w1 ⟨rfl, hb1⟩))
      go_ret
      exact ⟨by rw [HN.out]; rfl, Below.refl _ _⟩
end Go.Proofs.YtpmobjgnmidolaaDoor

/- A row of tokens in memory. -/
namespace Go.Proofs.YtpmobjgnmidolaaDoor
open Go.RowKit Lx

/-- A row of tokens in memory. -/
def TRow (w : World) (v : Value) (ts : List (T1 × Nat)) : Prop :=
  (∃ c, v = .slice none 0 c ∧ ts = []) ∨ ∃ g o c : Nat, v = .slice (some ⟨g, o, none⟩) ts.length c ∧ ts.length < 9223372036854775808 ∧ ∀ (j : Nat) (t : T1) (k : Nat), ts[j]? = some (t, k) →
    w.cell? ⟨g, o + j * 4, none⟩ = some (.int .i64 t.kind) ∧ w.cell? ⟨g, o + j * 4 + 1, none⟩ = some (.int .i64 t.n) ∧ w.cell? ⟨g, o + j * 4 + 2, none⟩ = some (.int .i64 (k : Int)) ∧ w.cell? ⟨g, o + j * 4 + 3, none⟩ = some (.string ⟨t.text.toArray⟩)
theorem TRow.form {w : World} {v : Value} {l : List (T1 × Nat)} (h : TRow w v l) : ∃ p c, v = .slice p l.length c := by
  rcases h with ⟨c, h, rfl⟩ | ⟨g, o, c, h, _⟩
  · exact ⟨none, c, h⟩
  · exact ⟨_, c, h⟩
end Go.Proofs.YtpmobjgnmidolaaDoor

/- Rows of tokens that are written, and texts put together: what LexJoined needs of memory. -/
namespace Go.Proofs.YtpmobjgnmidolaaDoor
open Go.RowKit Lx

theorem cat_data (s t : ByteArray) : (s ++ ⟨#[10]⟩ ++ t).data.toList = s.data.toList ++ 10 :: t.data.toList := by
  simp [ByteArray.data_append]
theorem own_set {w : World} {base : Nat} {e : TypeId} {size g n cap : Nat} {xs : List Value} (h : w.ownsRow base e size (.slice (some ⟨g, 0, none⟩) n cap) n xs) (i : Nat) (u : Value) :
    (w.setCell ⟨g, i, none⟩ u).ownsRow base e size (.slice (some ⟨g, 0, none⟩) n cap) n (xs.set i u) := by
  obtain ⟨h1, h2⟩ := h
  rcases h2 with ⟨h2, _⟩ | ⟨g', cap', cur, hv, hb, hh, h4, h5, h6, h7⟩
  · cases h2
  · have eg : g' = g ∧ cap' = cap := by
      injection hv with a1 a2 a3
      injection a1 with a1
      injection a1 with a1
      exact ⟨a1.symm, a3.symm⟩
    obtain ⟨rfl, rfl⟩ := eg
    refine ⟨by simpa using h1, .inr ⟨g', cap', _, rfl, hb, heap_setCell_same _ _ _ _ _ _ hh, h4, h5, by simpa using h6, ?_⟩⟩
    rw [Array.toList_setIfInBounds, List.take_set, h7]
/-- Tokens of which the first ones are so many bytes on. -/
def part (n : Nat) (us : List (T1 × Nat)) (j : Nat) : List (T1 × Nat) := onBy n (us.take j) ++ us.drop j
theorem part_zero (n : Nat) (us : List (T1 × Nat)) : part n us 0 = us := by simp [part, onBy]
theorem part_all (n : Nat) (us : List (T1 × Nat)) : part n us us.length = onBy n us := by simp [part]
theorem part_len (n : Nat) (us : List (T1 × Nat)) (j : Nat) : (part n us j).length = us.length := by
  simp [part, onBy]; omega
theorem flatT_append : ∀ a b : List (T1 × Nat), flatT (a ++ b) = flatT a ++ flatT b
  | [], b => rfl
  | p :: a, b => by simp [flatT, flatT_append a b]
theorem flatT_len : ∀ ts : List (T1 × Nat), (flatT ts).length = ts.length * 4
  | [] => rfl
  | p :: ts => by simp [flatT, flatT_len ts]; omega
theorem part_set (n : Nat) (us : List (T1 × Nat)) (j : Nat) (t : T1) (k : Nat) (h : us[j]? = some (t, k)) :
    (flatT (part n us j)).set (j * 4 + 2) (.int .i64 ((n + k : Nat) : Int)) = flatT (part n us (j + 1)) := by
  obtain ⟨hj, hjk⟩ := List.getElem?_eq_some_iff.1 h
  have e1 : us.drop j = (t, k) :: us.drop (j + 1) := by rw [List.drop_eq_getElem_cons hj, hjk]
  have e2 : us.take (j + 1) = us.take j ++ [(t, k)] := by rw [List.take_succ_eq_append_getElem hj, hjk]
  have hl : (flatT (onBy n (us.take j))).length = j * 4 := by rw [flatT_len]; simp [onBy]; omega
  unfold part
  rw [e1, e2, flatT_append, List.set_append_right _ _ (by omega), hl, show j * 4 + 2 - j * 4 = 2 by omega]
  have e3 : onBy n (us.take j ++ [(t, k)]) = onBy n (us.take j) ++ [(t, n + k)] := by simp [onBy]
  rw [e3, List.append_assoc, flatT_append]
  simp [flatT]
theorem part_at (n : Nat) (us : List (T1 × Nat)) (j : Nat) (t : T1) (k : Nat) (h : us[j]? = some (t, k)) : (part n us j)[j]? = some (t, k) := by
  obtain ⟨hj, _⟩ := List.getElem?_eq_some_iff.1 h
  have hl : (onBy n (us.take j)).length = j := by simp [onBy]; omega
  unfold part
  rw [List.getElem?_append_right (by omega), hl, Nat.sub_self, List.getElem?_drop]
  simpa using h
theorem flatT_at : ∀ (ts : List (T1 × Nat)) (j : Nat) (t : T1) (k : Nat), ts[j]? = some (t, k) → (flatT ts)[j * 4]? = some (.int .i64 t.kind) ∧ (flatT ts)[j * 4 + 1]? = some (.int .i64 t.n) ∧ (flatT ts)[j * 4 + 2]? = some (.int .i64 (k : Int)) ∧ (flatT ts)[j * 4 + 3]? = some (.string ⟨t.text.toArray⟩)
  | [], j, t, k, h => by simp at h
  | p :: ts, 0, t, k, h => by
    have : p = (t, k) := by simpa using h
    subst this
    simp [flatT]
  | p :: ts, j + 1, t, k, h => by
    have := flatT_at ts j t k (by simpa using h)
    have e : (j + 1) * 4 = j * 4 + 1 + 1 + 1 + 1 := by omega
    rw [e]
    simpa [flatT] using this
end Go.Proofs.YtpmobjgnmidolaaDoor

/- The reader of package parse in memory: its tokens, where it stands, how many expressions have ended; expressions as they lie in memory; and what met comes to. -/
namespace Go.Proofs.YtpmobjgnmidolaaDoor
open Go.RowKit Lx

/-- An expression as it is handed on; its kids' row beside it. -/
def exV (e : Ex) (sl : Value) : Value := .agg #[.int .i64 e.kind, .int .i64 e.a, .int .i64 e.b, .string ⟨e.name.toArray⟩, sl]
/-- A block of expressions. -/
def TyE (w : World) (g : Nat) : Prop := ∃ (cs : Array Value) (fr : Nat × Nat), w.heap[g]? = some (.cells cs 50 fr)
/-- A row of expressions in memory, in blocks that are so; so deep at most. -/
def KidsAt (B : Nat → Prop) : Nat → World → Value → List Ex → Prop
  | 0, _, sl, ks => ks = [] ∧ ∃ p c, sl = .slice p 0 c
  | d + 1, w, sl, ks => (ks = [] ∧ ∃ p c, sl = .slice p 0 c) ∨ ∃ g o c : Nat, (B g ∧ TyE w g) ∧ sl = .slice (some ⟨g, o, none⟩) ks.length c ∧ ks.length < 9223372036854775808 ∧ ∀ (j : Nat) (k : Ex), ks[j]? = some k → ∃ sk : Value,
      w.cell? ⟨g, o + j * 5, none⟩ = some (.int .i64 k.kind) ∧ w.cell? ⟨g, o + j * 5 + 1, none⟩ = some (.int .i64 k.a) ∧ w.cell? ⟨g, o + j * 5 + 2, none⟩ = some (.int .i64 k.b) ∧
      w.cell? ⟨g, o + j * 5 + 3, none⟩ = some (.string ⟨k.name.toArray⟩) ∧ w.cell? ⟨g, o + j * 5 + 4, none⟩ = some sk ∧ KidsAt B d w sk k.kids
theorem KidsAt.up {B : Nat → Prop} : ∀ {d : Nat} {w : World} {sl : Value} {ks : List Ex}, KidsAt B d w sl ks → KidsAt B (d + 1) w sl ks
  | 0, _, _, _, h => .inl h
  | d + 1, w, sl, ks, h => by
    rcases h with h | ⟨g, o, c, hB, hs, hl, hk⟩
    · exact .inl h
    · refine .inr ⟨g, o, c, hB, hs, hl, fun j k hj => ?_⟩
      obtain ⟨sk, c0, c1, c2, c3, c4, r⟩ := hk j k hj
      exact ⟨sk, c0, c1, c2, c3, c4, KidsAt.up r⟩
theorem KidsAt.le {B : Nat → Prop} {d d' : Nat} {w : World} {sl : Value} {ks : List Ex} (h : KidsAt B d w sl ks) (hd : d ≤ d') : KidsAt B d' w sl ks := by
  obtain ⟨n, rfl⟩ : ∃ n, d' = d + n := ⟨d' - d, by omega⟩
  clear hd
  induction n with
  | zero => exact h
  | succ n ih => exact KidsAt.up ih
/-- Where the blocks stay, the row stays. -/
theorem KidsAt.kept {B : Nat → Prop} {w w' : World} (hw : ∀ g, B g → g < w.heap.size → w'.heap[g]? = w.heap[g]?) : ∀ {d : Nat} {sl : Value} {ks : List Ex}, KidsAt B d w sl ks → KidsAt B d w' sl ks
  | 0, _, _, h => h
  | d + 1, sl, ks, h => by
    rcases h with h | ⟨g, o, c, hB, hs, hl, hk⟩
    · exact .inl h
    · have ht : TyE w' g := by
        obtain ⟨cs, fr, h⟩ := hB.2
        exact ⟨cs, fr, (hw g hB.1 (lt_of_block h)).trans h⟩
      refine .inr ⟨g, o, c, ⟨hB.1, ht⟩, hs, hl, fun j k hj => ?_⟩
      obtain ⟨sk, c0, c1, c2, c3, c4, r⟩ := hk j k hj
      have e : w'.heap[g]? = w.heap[g]? := hw g hB.1 (block_lt_of_cell c0)
      have ce : ∀ i, w'.cell? ⟨g, i, none⟩ = w.cell? ⟨g, i, none⟩ := fun i => World.cell?_of_block e
      exact ⟨sk, (ce _).trans c0, (ce _).trans c1, (ce _).trans c2, (ce _).trans c3, (ce _).trans c4, KidsAt.kept hw r⟩
theorem KidsAt.mono {B B' : Nat → Prop} (hB : ∀ g, B g → B' g) : ∀ {d : Nat} {w : World} {sl : Value} {ks : List Ex}, KidsAt B d w sl ks → KidsAt B' d w sl ks
  | 0, _, _, _, h => h
  | d + 1, w, sl, ks, h => by
    rcases h with h | ⟨g, o, c, hg, hs, hl, hk⟩
    · exact .inl h
    · refine .inr ⟨g, o, c, ⟨hB g hg.1, hg.2⟩, hs, hl, fun j k hj => ?_⟩
      obtain ⟨sk, c0, c1, c2, c3, c4, r⟩ := hk j k hj
      exact ⟨sk, c0, c1, c2, c3, c4, KidsAt.mono hB r⟩
/-- Its blocks are there. -/
theorem KidsAt.lt {B : Nat → Prop} : ∀ {d : Nat} {w : World} {sl : Value} {ks : List Ex}, KidsAt B d w sl ks → KidsAt (fun k => B k ∧ k < w.heap.size) d w sl ks
  | 0, _, _, _, h => h
  | d + 1, w, sl, ks, h => by
    rcases h with h | ⟨g, o, c, hg, hs, hl, hk⟩
    · exact .inl h
    · cases ks with
      | nil => exact .inl ⟨rfl, _, _, hs⟩
      | cons k0 ks =>
        obtain ⟨_, c0, _⟩ := hk 0 k0 rfl
        refine .inr ⟨g, o, c, ⟨⟨hg.1, block_lt_of_cell c0⟩, hg.2⟩, hs, hl, fun j k hj => ?_⟩
        obtain ⟨sk, c0, c1, c2, c3, c4, r⟩ := hk j k hj
        exact ⟨sk, c0, c1, c2, c3, c4, KidsAt.lt r⟩
/-- A block of another type is none of its. -/
theorem KidsAt.other {B : Nat → Prop} {b : Nat} {cs : Array Value} {t : TypeId} {fr : Nat × Nat} : ∀ {d : Nat} {w : World} {sl : Value} {ks : List Ex}, w.heap[b]? = some (.cells cs t fr) → t ≠ 50 → KidsAt B d w sl ks → KidsAt (fun k => B k ∧ k ≠ b) d w sl ks
  | 0, _, _, _, _, _, h => h
  | d + 1, w, sl, ks, hb, ht, h => by
    rcases h with h | ⟨g, o, c, hg, hs, hl, hk⟩
    · exact .inl h
    · have hne : g ≠ b := by
        rintro rfl
        obtain ⟨cs', fr', h'⟩ := hg.2
        rw [hb] at h'
        exact ht (Obj.cells.inj (Option.some.inj h')).2.1
      refine .inr ⟨g, o, c, ⟨⟨hg.1, hne⟩, hg.2⟩, hs, hl, fun j k hj => ?_⟩
      obtain ⟨sk, c0, c1, c2, c3, c4, r⟩ := hk j k hj
      exact ⟨sk, c0, c1, c2, c3, c4, KidsAt.other hb ht r⟩
theorem KidsAt.nil (B : Nat → Prop) (d : Nat) (w : World) (p : Option Addr) (c : Nat) : KidsAt B d w (.slice p 0 c) [] := by
  cases d with
  | zero => exact ⟨rfl, p, c, rfl⟩
  | succ d => exact .inl ⟨rfl, p, c, rfl⟩
theorem KidsAt.form {B : Nat → Prop} {d : Nat} {w : World} {sl : Value} {ks : List Ex} (h : KidsAt B d w sl ks) : ∃ p c, sl = .slice p ks.length c := by
  cases d with
  | zero =>
    obtain ⟨rfl, p, c, rfl⟩ := h
    exact ⟨p, c, rfl⟩
  | succ d =>
    rcases h with ⟨rfl, p, c, rfl⟩ | ⟨g, o, c, _, hs, _⟩
    · exact ⟨p, c, rfl⟩
    · exact ⟨_, c, hs⟩
/-- Nothing old has turned but that block. -/
abbrev Kept (g : Nat) (w w' : World) : Prop := w.grownBy w' (some g)
theorem Kept.refl (g : Nat) (w : World) : Kept g w w := ⟨rfl, rfl, rfl, Nat.le_refl _, fun _ _ _ => rfl⟩
theorem Kept.trans {g : Nat} {w w' w'' : World} (h : Kept g w w') (h' : Kept g w' w'') : Kept g w w'' :=
  ⟨h'.os.trans h.os, h'.tape.trans h.tape, h'.output.trans h.output, Nat.le_trans h.size h'.size, fun k hk hne => (h'.block k (Nat.lt_of_lt_of_le hk h.size) hne).trans (h.block k hk hne)⟩
theorem Kept.of_below {g : Nat} {w w' : World} (h : Below w.heap.size w w') : Kept g w w' := ⟨h.os, h.tape, h.output, h.size, fun k hk _ => h.block k hk⟩
theorem Kept.kids {B : Nat → Prop} {g d : Nat} {w w' : World} {sl : Value} {ks : List Ex} (h : Kept g w w') (hg : ∀ k, B k → k ≠ g) (hk : KidsAt B d w sl ks) : KidsAt B d w' sl ks :=
  hk.kept fun k hB hl => h.block k hl (fun e => hg k hB (Option.some.inj e))
theorem Kept.row {g : Nat} {w w' : World} {v : Value} {ts : List (T1 × Nat)} (h : Kept g w w') (hv : v.ownBlock ≠ some g) (hr : TRow w v ts) : TRow w' v ts := by
  rcases hr with hr | ⟨gt, o, c, hs, hl, hc⟩
  · exact .inl hr
  · refine .inr ⟨gt, o, c, hs, hl, fun j t k hj => ?_⟩
    obtain ⟨c1, c2, c3, c4⟩ := hc j t k hj
    have hne : gt ≠ g := fun e => hv (by rw [hs, e]; rfl)
    have e : w'.heap[gt]? = w.heap[gt]? := h.block gt (block_lt_of_cell c1) (fun e => hne (Option.some.inj e))
    have ce : ∀ i, w'.cell? ⟨gt, i, none⟩ = w.cell? ⟨gt, i, none⟩ := fun i => World.cell?_of_block e
    exact ⟨(ce _).trans c1, (ce _).trans c2, (ce _).trans c3, (ce _).trans c4⟩
/-- The token that is met. -/
def tokV (E : Nat) (r : List Tk) : Value := .agg #[.int .i64 (kindP r), .int .i64 (numP r), .int .i64 (atP E r : Int), .string ⟨(textP r).toArray⟩]
theorem exprType : Tryd.prog.underlying 50 = some (.struct (Tryd.prog.fieldsOf 50)) := by kernel_rfl
/-- An expression in a cell is handed back. -/
theorem ex_ret {fn : Func} (s : Nat) (h : fn.results = #[ResultVar.cell s 50]) {R : Ending → World → Prop} {a : Act} {w : World} (g : Nat) (c0 c1 c2 c3 c4 : Value) (hd : a.defers = []) (h2 : a.tmps.getD s undef = .pointer (some ⟨g, 0, none⟩))
    (hg : w.heap[g]? = some (.cells #[c0, c1, c2, c3, c4] 50 (0, 0))) (hR : R (.returned (.agg #[c0, c1, c2, c3, c4])) w) : bodyPost Tryd.prog fn R .ret a w := by
  refine bodyPost_ret (v := .agg #[c0, c1, c2, c3, c4]) ?_ hd hR
  have h2' : a.tmps[s]?.getD undef = .pointer (some ⟨g, 0, none⟩) := by simpa using h2
  have hv := run_loadVar_row (P := Tryd.prog) w g 50 50 _ _ _ hg exprType rfl (by kernel_rfl)
  simp [results, h, h2', asAddr, hv]
end Go.Proofs.YtpmobjgnmidolaaDoor

/- What met and fail come to. -/
namespace Go.Proofs.YtpmobjgnmidolaaDoor
open Go.RowKit Lx

/-- How a text reads in memory. -/
theorem str_eq (x y : List UInt8) : ((⟨x.toArray⟩ : ByteArray).toList == (⟨y.toArray⟩ : ByteArray).toList) = (x == y) := by rw [Lib.toList_data, Lib.toList_data]
theorem Kept.set (w : World) (g j : Nat) (u : Value) : Kept g w (w.setCell ⟨g, j, none⟩ u) := ⟨rfl, rfl, rfl, by simp, fun k _ hk => heap_setCell_other w ⟨g, j, none⟩ k u (fun e => hk (by rw [e]))⟩
theorem isT_len {x : List UInt8} {all : List Tk} {i : Nat} (hx : x ≠ []) (h : isT x (all.drop i) = true) : i + 1 ≤ all.length := by
  have := isT_cons hx h
  simp at this; omega

end Go.Proofs.YtpmobjgnmidolaaDoor
