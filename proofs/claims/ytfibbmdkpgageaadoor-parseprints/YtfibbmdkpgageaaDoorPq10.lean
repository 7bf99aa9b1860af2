/- What lex.Named comes to, and that the law's first question is answered yes. -/
import Derived.Test.YtfibbmdkpgageaaDoorPq07
import Derived.Laws.StructEq
import Derived.Test.YtfibbmdkpgageaaDoorPq09
import Derived.Test.YtfibbmdkpgageaaDoorPq02
namespace Go.Proofs.YtfibbmdkpgageaaDoor
open Go.RowKit Lx

set_option maxRecDepth 10000 in
set_option maxHeartbeats 400000 in
theorem named_any (s : ByteArray) (l : List UInt8) (hs : s.data.toList = l) (hl : l.length ≤ 9223372036854775806) (w : World) :
    Calls Tryd.prog 16 #[.string s] w fun e w' => e = .returned (.bool (namedL l)) ∧ Below w.heap.size w w' := by
  have hz : s.size = l.length := by rw [← hs, Lib.size_eq]
  have hnil : s.toList.isEmpty = l.isEmpty := by rw [Lib.toList_data, hs]
  have cl := fun w => wordLen_any s l hs hl w
  have cw := fun w => isWord_any s l hs w
  by_cases h0 : l.length = 0
  · have HN : Hid (namedL l = false) := by show namedL l = false; simp [namedL, h0]
    have hq : s.toList.isEmpty = true := by rw [hnil]; simpa using h0
    clear hnil h0
    go_enter Tryd.func16, Tryd.ntmps16
    go_wp2_with (first
      | (go_at_call 39; refine (cl _).mono ?_; rintro e w' ⟨rfl, rfl⟩)
      | (go_at_call 40; refine (cw _).mono ?_; rintro e w1 ⟨rfl, hb1⟩))
    go_ret
    exact ⟨by rw [HN.out]; rfl, Below.refl _ _⟩
  · have hq : s.toList.isEmpty = false := by rw [hnil]; cases l <;> simp at h0 ⊢
    clear hnil
    by_cases h20 : l.length ≤ 20
    · have i20 : (l.length : Int) ≤ 20 := by omega
      by_cases hw : wordLen l = l.length
      · have HN : Hid (namedL l = !isWordL l) := by show namedL l = _; simp [namedL, h0, h20, hw]
        rw [hw] at cl
        clear h0 hw
        generalize isWordL l = b at *
        go_enter Tryd.func16, Tryd.ntmps16
        go_wp2_with (first
          | (go_at_call 39; refine (cl _).mono ?_; rintro e w' ⟨rfl, rfl⟩)
          | (go_at_call 40; refine (cw _).mono ?_; rintro e w1 ⟨rfl, hb1⟩))
        go_ret
        exact ⟨by rw [HN.out]; rfl, hb1⟩
      · have HN : Hid (namedL l = false) := by show namedL l = false; simp [namedL, hw]
        have iw : ((wordLen l : Int) == (l.length : Int)) = false := by simp; omega
        clear h0 hw
        generalize wordLen l = k at *
        go_enter Tryd.func16, Tryd.ntmps16
        go_wp2_with (first
          | (go_at_call 39; refine (cl _).mono ?_; rintro e w' ⟨rfl, rfl⟩)
          | (go_at_call 40; refine (cw _).mono ?_; rintro e w1 ⟨rfl, hb1⟩))
        go_ret
        exact ⟨by rw [HN.out]; rfl, Below.refl _ _⟩
    · have i20 : ¬ (l.length : Int) ≤ 20 := by omega
      have HN : Hid (namedL l = false) := by show namedL l = false; simp [namedL, h20]
      clear h0 h20
      go_enter Tryd.func16, Tryd.ntmps16
      go_wp2_with (first
        | (go_at_call 39; refine (cl _).mono ?_; rintro e w' ⟨rfl, rfl⟩)
        | (go_at_call 40; refine (cw _).mono ?_; rintro e w1 ⟨rfl, hb1⟩))
      go_ret
      exact ⟨by rw [HN.out]; rfl, Below.refl _ _⟩

set_option maxRecDepth 100000 in
theorem alive_ts {base : Nat} {w : World} {v : Value} {er at_ : Int} (h : LexTells aliveL base w v er at_) : er = 0 ∧ w.ownsRow base 30 4 v 7 (flatT aliveTs) := by
  have h8 : iterN aliveL 8 = none := by rfl
  have hstep : ∀ ts k, Lexed aliveL ts k → (k < aliveL.length ∧ (firstT (aliveL.drop k)).err = 0) ∨ (ts = aliveTs ∧ k = 25) := by
    intro ts k hL
    obtain ⟨n, hn⟩ := hL.iter
    have hn8 : n < 8 := by
      rcases Nat.lt_or_ge n 8 with g | g
      · exact g
      · rw [iter_none h8 n g] at hn; cases hn
    by_cases e7 : n = 7
    · subst e7
      rw [alive_iter] at hn
      right
      have := Option.some.inj hn
      exact ⟨(congrArg Prod.fst this).symm, (congrArg Prod.snd this).symm⟩
    · left
      have hnx : iterN aliveL (n + 1) ≠ none := by
        intro e
        have := iter_none e 7 (by omega)
        rw [alive_iter] at this; cases this
      simp only [iterN, hn] at hnx
      split at hnx
      · assumption
      · exact absurd rfl hnx
  rcases h with ⟨h, _⟩ | ⟨ts, k, _, hL, hk, he, _⟩ | ⟨ts, k, _, hL, hk, ho, he, _⟩
  · exact absurd h (by decide)
  · rcases hstep _ _ hL with ⟨_, h⟩ | ⟨_, h⟩
    · exact absurd h he
    · rw [h] at hk; exact absurd hk (by decide)
  · rcases hstep _ _ hL with ⟨h, _⟩ | ⟨h, _⟩
    · exact absurd h hk
    · subst h; exact ⟨he, ho⟩

set_option maxRecDepth 10000 in
set_option maxHeartbeats 400000 in
theorem alive3_any (w : World) (hT : CTab w) : Calls Tryd.prog 6 #[] w fun e w' => e = .returned (.bool true) ∧ Below w.heap.size w w' := by
  have cx := lex_any ⟨#[114, 117, 108, 101, 32, 97, 32, 61, 32, 48, 57, 58, 51, 48, 45, 49, 48, 58, 48, 48, 59, 32, 35, 32, 110]⟩ aliveL rfl (by decide) w hT
  have c1 := fun w => named_any ⟨#[97]⟩ [97] rfl (by decide) w
  have c2 := fun w => named_any ⟨#[114, 117, 108, 101]⟩ [114, 117, 108, 101] rfl (by decide) w
  rw [show namedL [97] = true from by decide] at c1
  rw [show namedL [114, 117, 108, 101] = false from by decide] at c2
  go_enter Tryd.func6, Tryd.ntmps6
  go_wp2_with (first
    | (go_at_call 7; refine cx.mono ?_; rintro e w1 ⟨⟨v, er, at_, rfl, hx⟩, hb1⟩; obtain ⟨rfl, ho⟩ := alive_ts hx; obtain ⟨g, cap, rfl, hcell⟩ := own_slice ho (by omega); have d1' : w1.cell? ⟨g, 13, none⟩ = some (.int .i64 570) := hcell 13 _ rfl; have d2' : w1.cell? ⟨g, 22, none⟩ = some (.int .i64 15) := hcell 22 _ rfl; have hbX : Below w1.heap.size w1 (w1.alloc (.cells #[.int .i64 0, .int .i64 at_] 26)) := (Below.refl _ _).alloc (Nat.le_refl _) _; have d1 := (hbX.cell (block_lt_of_cell d1')).trans d1'; have d2 := (hbX.cell (block_lt_of_cell d2')).trans d2'; have hbA := hb1.alloc hb1.size (.cells #[.int .i64 0, .int .i64 at_] 26); clear hx ho hcell cx hb1 d1' d2' hbX)
    | (go_at_call 16; have _t := c1; refine (c1 _).mono ?_; rintro e w2 ⟨rfl, hb2⟩; have hbw2 := hbA.trans (hb2.mono hbA.size); clear _t c1 hb2 hbA)
    | (go_at_call 16; refine (c2 _).mono ?_; rintro e w3 ⟨rfl, hb3⟩; have hbw3 := hbw2.trans (hb3.mono hbw2.size)))
  go_ret
  exact ⟨rfl, hbw3⟩
end Go.Proofs.YtfibbmdkpgageaaDoor

/- What slotref3.Same comes to at two rows of the same tokens: true. -/
namespace Go.Proofs.YtfibbmdkpgageaaDoor
open Go.RowKit Lx

/-- A row of tokens in memory. -/
def TRow (w : World) (v : Value) (ts : List (T1 × Nat)) : Prop :=
  (∃ c, v = .slice none 0 c ∧ ts = []) ∨ ∃ g o c : Nat, v = .slice (some ⟨g, o, none⟩) ts.length c ∧ ts.length < 9223372036854775808 ∧ ∀ (j : Nat) (t : T1) (k : Nat), ts[j]? = some (t, k) →
    w.cell? ⟨g, o + j * 4, none⟩ = some (.int .i64 t.kind) ∧ w.cell? ⟨g, o + j * 4 + 1, none⟩ = some (.int .i64 t.n) ∧ w.cell? ⟨g, o + j * 4 + 2, none⟩ = some (.int .i64 (k : Int)) ∧ w.cell? ⟨g, o + j * 4 + 3, none⟩ = some (.string ⟨t.text.toArray⟩)
theorem TRow.form {w : World} {v : Value} {l : List (T1 × Nat)} (h : TRow w v l) : ∃ p c, v = .slice p l.length c := by
  rcases h with ⟨c, h, rfl⟩ | ⟨g, o, c, h, _⟩
  · exact ⟨none, c, h⟩
  · exact ⟨_, c, h⟩
theorem eqTok (a b c : Int) (s : ByteArray) (w : World) : (Op.equalIn 10000 30 (.agg #[.int .i64 a, .int .i64 b, .int .i64 c, .string s]) (.agg #[.int .i64 a, .int .i64 b, .int .i64 c, .string s])).run Tryd.prog w = .ok true w := by
  rw [run_equalIn_struct w 9999 30 _ _ (by kernel_rfl) (by kernel_rfl)]
  simp [Program.fieldsOf, Tryd.underlying30, Op.eqFields]
  go_simp
theorem neqTok (a b c : Int) (s : ByteArray) (w : World) : (binOp .neq 30 (.agg #[.int .i64 a, .int .i64 b, .int .i64 c, .string s]) (.agg #[.int .i64 a, .int .i64 b, .int .i64 c, .string s])).run Tryd.prog w = .ok (.bool false) w := by
  rw [run_neq_struct, eqTok]; simp [Result.andThen]
attribute [local go_sem] neqTok

set_option maxRecDepth 10000 in
set_option maxHeartbeats 1000000 in
theorem sameT_true (v v' : Value) (l : List (T1 × Nat)) (w : World) (h : TRow w v l) (h' : TRow w v' l) :
    Calls Tryd.prog 8 #[v, v'] w fun e w' => e = .returned (.bool true) ∧ Below w.heap.size w w' := by
  by_cases hl : l = []
  · subst hl
    obtain ⟨p, c, rfl⟩ := h.form
    obtain ⟨p', c', rfl⟩ := h'.form
    clear h h'
    go_enter Tryd.func8, Tryd.ntmps8
    go_wp2
    refine wp_loop_rounds 1 ?_
    rw [rounds_succ]
    go_wp2
    go_ret
    exact ⟨rfl, Below.refl _ _⟩
  · rcases h with ⟨_, _, h⟩ | ⟨g, o, c, rfl, hlen, hc⟩
    · exact absurd h hl
    rcases h' with ⟨_, _, h⟩ | ⟨g', o', c', rfl, _, hc'⟩
    · exact absurd h hl
    have HC : Hid (∀ (j : Nat) (t : T1) (k : Nat), l[j]? = some (t, k) → w.cell? ⟨g, o + j * 4, none⟩ = some (.int .i64 t.kind) ∧ w.cell? ⟨g, o + j * 4 + 1, none⟩ = some (.int .i64 t.n) ∧ w.cell? ⟨g, o + j * 4 + 2, none⟩ = some (.int .i64 (k : Int)) ∧ w.cell? ⟨g, o + j * 4 + 3, none⟩ = some (.string ⟨t.text.toArray⟩)) := hc
    have HC' : Hid (∀ (j : Nat) (t : T1) (k : Nat), l[j]? = some (t, k) → w.cell? ⟨g', o' + j * 4, none⟩ = some (.int .i64 t.kind) ∧ w.cell? ⟨g', o' + j * 4 + 1, none⟩ = some (.int .i64 t.n) ∧ w.cell? ⟨g', o' + j * 4 + 2, none⟩ = some (.int .i64 (k : Int)) ∧ w.cell? ⟨g', o' + j * 4 + 3, none⟩ = some (.string ⟨t.text.toArray⟩)) := hc'
    clear hc hc' hl
    go_enter Tryd.func8, Tryd.ntmps8
    go_wp2
    go_loopw [13] (fun i wr => ∃ k : Nat, k ≤ l.length ∧ i = .int .i64 k ∧ Below w.heap.size w wr) (fun i _ => l.length - (intOf i).toNat)
    case atStart => exact ⟨0, Nat.zero_le _, rfl, Below.refl _ _⟩
    case round =>
      obtain ⟨j, hk, rfl, hbel⟩ := hrel
      by_cases hlt : j < l.length
      · obtain ⟨⟨t, k⟩, htk⟩ : ∃ q, l[j]? = some q := ⟨l[j], List.getElem?_eq_getElem hlt⟩
        obtain ⟨c1, c2, c3, c4⟩ := HC.out j t k htk
        obtain ⟨c5, c6, c7, c8⟩ := HC'.out j t k htk
        have d1 := (hbel.cell (block_lt_of_cell c1)).trans c1
        have d2 := (hbel.cell (block_lt_of_cell c2)).trans c2
        have d3 := (hbel.cell (block_lt_of_cell c3)).trans c3
        have d4 := (hbel.cell (block_lt_of_cell c4)).trans c4
        have d5 := (hbel.cell (block_lt_of_cell c5)).trans c5
        have d6 := (hbel.cell (block_lt_of_cell c6)).trans c6
        have d7 := (hbel.cell (block_lt_of_cell c7)).trans c7
        have d8 := (hbel.cell (block_lt_of_cell c8)).trans c8
        generalize (⟨t.text.toArray⟩ : ByteArray) = x at *
        have hi0 : (0 : Int) ≤ (j : Int) := by omega
        have hi1 : (j : Int) < (l.length : Int) := by omega
        clear c1 c2 c3 c4 c5 c6 c7 c8 HC HC' htk
        go_wp2
        go_quiet (fail)
        go_wp2
        go_roundw
        case rel => exact ⟨j + 1, by omega, by go_num, below_drewN hbel _⟩
        case measure => simp [intOf]; omega
      · have hkl : j = l.length := by omega
        subst hkl
        go_wp2
        go_ret
        exact ⟨rfl, hbel⟩
end Go.Proofs.YtfibbmdkpgageaaDoor

/- Rows of tokens that are written, and texts put together: what LexJoined needs of memory. -/
namespace Go.Proofs.YtfibbmdkpgageaaDoor
open Go.RowKit Lx

theorem cat_data (s t : ByteArray) : (s ++ ⟨#[10]⟩ ++ t).data.toList = s.data.toList ++ 10 :: t.data.toList := by
  simp [ByteArray.data_append]
theorem own_set {w : World} {base : Nat} {e : TypeId} {size g n cap : Nat} {xs : List Value} (h : w.ownsRow base e size (.slice (some ⟨g, 0, none⟩) n cap) n xs) (i : Nat) (u : Value) :
    (w.setCell ⟨g, i, none⟩ u).ownsRow base e size (.slice (some ⟨g, 0, none⟩) n cap) n (xs.set i u) := by
  obtain ⟨h1, h2⟩ := h
  rcases h2 with ⟨h2, _⟩ | ⟨g', cap', cur, hv, hb, hh, h4, h5, h6, h7⟩
  · cases h2
  · have eg : g' = g ∧ cap' = cap := by
      injection hv with a1 a2 a3
      injection a1 with a1
      injection a1 with a1
      exact ⟨a1.symm, a3.symm⟩
    obtain ⟨rfl, rfl⟩ := eg
    refine ⟨by simpa using h1, .inr ⟨g', cap', _, rfl, hb, heap_setCell_same _ _ _ _ _ _ hh, h4, h5, by simpa using h6, ?_⟩⟩
    rw [Array.toList_setIfInBounds, List.take_set, h7]
/-- Tokens of which the first ones are so many bytes on. -/
def part (n : Nat) (us : List (T1 × Nat)) (j : Nat) : List (T1 × Nat) := onBy n (us.take j) ++ us.drop j
theorem part_zero (n : Nat) (us : List (T1 × Nat)) : part n us 0 = us := by simp [part, onBy]
theorem part_all (n : Nat) (us : List (T1 × Nat)) : part n us us.length = onBy n us := by simp [part]
theorem part_len (n : Nat) (us : List (T1 × Nat)) (j : Nat) : (part n us j).length = us.length := by
  simp [part, onBy]; omega
theorem flatT_append : ∀ a b : List (T1 × Nat), flatT (a ++ b) = flatT a ++ flatT b
  | [], b => rfl
  | p :: a, b => by simp [flatT, flatT_append a b]
theorem flatT_len : ∀ ts : List (T1 × Nat), (flatT ts).length = ts.length * 4
  | [] => rfl
  | p :: ts => by simp [flatT, flatT_len ts]; omega
theorem part_set (n : Nat) (us : List (T1 × Nat)) (j : Nat) (t : T1) (k : Nat) (h : us[j]? = some (t, k)) :
    (flatT (part n us j)).set (j * 4 + 2) (.int .i64 ((n + k : Nat) : Int)) = flatT (part n us (j + 1)) := by
  obtain ⟨hj, hjk⟩ := List.getElem?_eq_some_iff.1 h
  have e1 : us.drop j = (t, k) :: us.drop (j + 1) := by rw [List.drop_eq_getElem_cons hj, hjk]
  have e2 : us.take (j + 1) = us.take j ++ [(t, k)] := by rw [List.take_succ_eq_append_getElem hj, hjk]
  have hl : (flatT (onBy n (us.take j))).length = j * 4 := by rw [flatT_len]; simp [onBy]; omega
  unfold part
  rw [e1, e2, flatT_append, List.set_append_right _ _ (by omega), hl, show j * 4 + 2 - j * 4 = 2 by omega]
  have e3 : onBy n (us.take j ++ [(t, k)]) = onBy n (us.take j) ++ [(t, n + k)] := by simp [onBy]
  rw [e3, List.append_assoc, flatT_append]
  simp [flatT]
theorem part_at (n : Nat) (us : List (T1 × Nat)) (j : Nat) (t : T1) (k : Nat) (h : us[j]? = some (t, k)) : (part n us j)[j]? = some (t, k) := by
  obtain ⟨hj, _⟩ := List.getElem?_eq_some_iff.1 h
  have hl : (onBy n (us.take j)).length = j := by simp [onBy]; omega
  unfold part
  rw [List.getElem?_append_right (by omega), hl, Nat.sub_self, List.getElem?_drop]
  simpa using h
theorem flatT_at : ∀ (ts : List (T1 × Nat)) (j : Nat) (t : T1) (k : Nat), ts[j]? = some (t, k) → (flatT ts)[j * 4]? = some (.int .i64 t.kind) ∧ (flatT ts)[j * 4 + 1]? = some (.int .i64 t.n) ∧ (flatT ts)[j * 4 + 2]? = some (.int .i64 (k : Int)) ∧ (flatT ts)[j * 4 + 3]? = some (.string ⟨t.text.toArray⟩)
  | [], j, t, k, h => by simp at h
  | p :: ts, 0, t, k, h => by
    have : p = (t, k) := by simpa using h
    subst this
    simp [flatT]
  | p :: ts, j + 1, t, k, h => by
    have := flatT_at ts j t k (by simpa using h)
    have e : (j + 1) * 4 = j * 4 + 1 + 1 + 1 + 1 := by omega
    rw [e]
    simpa [flatT] using this
theorem trow_of_owns {w : World} {base : Nat} {v : Value} {ts : List (T1 × Nat)} (h : w.ownsRow base 30 4 v ts.length (flatT ts)) (hl : ts.length < 9223372036854775808) : TRow w v ts := by
  by_cases h0 : ts.length = 0
  · obtain ⟨_, h2⟩ := h
    rcases h2 with ⟨h2, h3⟩ | ⟨g, cap, cur, hv, _⟩
    · exact .inl ⟨0, h2, List.length_eq_zero_iff.1 h3⟩
    · refine .inr ⟨g, 0, cap, hv, hl, fun j t k hj => ?_⟩
      have : ts = [] := List.length_eq_zero_iff.1 h0
      rw [this] at hj; simp at hj
  · obtain ⟨g, cap, hv, hc⟩ := own_slice h (by omega)
    refine .inr ⟨g, 0, cap, hv, hl, fun j t k hj => ?_⟩
    obtain ⟨f0, f1, f2, f3⟩ := flatT_at ts j t k hj
    rw [Nat.zero_add]
    exact ⟨hc _ _ f0, hc _ _ f1, hc _ _ f2, hc _ _ f3⟩
end Go.Proofs.YtfibbmdkpgageaaDoor

/- The reader of package parse in memory: its tokens, where it stands, how many expressions have ended; expressions as they lie in memory; and what met comes to. -/
namespace Go.Proofs.YtfibbmdkpgageaaDoor
open Go.RowKit Lx

/-- An expression as it is handed on; its kids' row beside it. -/
def exV (e : Ex) (sl : Value) : Value := .agg #[.int .i64 e.kind, .int .i64 e.a, .int .i64 e.b, .string ⟨e.name.toArray⟩, sl]
/-- A block of expressions. -/
def TyE (w : World) (g : Nat) : Prop := ∃ (cs : Array Value) (fr : Nat × Nat), w.heap[g]? = some (.cells cs 60 fr)
/-- A row of expressions in memory, in blocks that are so; so deep at most. -/
def KidsAt (B : Nat → Prop) : Nat → World → Value → List Ex → Prop
  | 0, _, sl, ks => ks = [] ∧ ∃ p c, sl = .slice p 0 c
  | d + 1, w, sl, ks => (ks = [] ∧ ∃ p c, sl = .slice p 0 c) ∨ ∃ g o c : Nat, (B g ∧ TyE w g) ∧ sl = .slice (some ⟨g, o, none⟩) ks.length c ∧ ks.length < 9223372036854775808 ∧ ∀ (j : Nat) (k : Ex), ks[j]? = some k → ∃ sk : Value,
      w.cell? ⟨g, o + j * 5, none⟩ = some (.int .i64 k.kind) ∧ w.cell? ⟨g, o + j * 5 + 1, none⟩ = some (.int .i64 k.a) ∧ w.cell? ⟨g, o + j * 5 + 2, none⟩ = some (.int .i64 k.b) ∧
      w.cell? ⟨g, o + j * 5 + 3, none⟩ = some (.string ⟨k.name.toArray⟩) ∧ w.cell? ⟨g, o + j * 5 + 4, none⟩ = some sk ∧ KidsAt B d w sk k.kids
theorem KidsAt.up {B : Nat → Prop} : ∀ {d : Nat} {w : World} {sl : Value} {ks : List Ex}, KidsAt B d w sl ks → KidsAt B (d + 1) w sl ks
  | 0, _, _, _, h => .inl h
  | d + 1, w, sl, ks, h => by
    rcases h with h | ⟨g, o, c, hB, hs, hl, hk⟩
    · exact .inl h
    · refine .inr ⟨g, o, c, hB, hs, hl, fun j k hj => ?_⟩
      obtain ⟨sk, c0, c1, c2, c3, c4, r⟩ := hk j k hj
      exact ⟨sk, c0, c1, c2, c3, c4, KidsAt.up r⟩
theorem KidsAt.le {B : Nat → Prop} {d d' : Nat} {w : World} {sl : Value} {ks : List Ex} (h : KidsAt B d w sl ks) (hd : d ≤ d') : KidsAt B d' w sl ks := by
  obtain ⟨n, rfl⟩ : ∃ n, d' = d + n := ⟨d' - d, by omega⟩
  clear hd
  induction n with
  | zero => exact h
  | succ n ih => exact KidsAt.up ih
/-- Where the blocks stay, the row stays. -/
theorem KidsAt.kept {B : Nat → Prop} {w w' : World} (hw : ∀ g, B g → g < w.heap.size → w'.heap[g]? = w.heap[g]?) : ∀ {d : Nat} {sl : Value} {ks : List Ex}, KidsAt B d w sl ks → KidsAt B d w' sl ks
  | 0, _, _, h => h
  | d + 1, sl, ks, h => by
    rcases h with h | ⟨g, o, c, hB, hs, hl, hk⟩
    · exact .inl h
    · have ht : TyE w' g := by
        obtain ⟨cs, fr, h⟩ := hB.2
        exact ⟨cs, fr, (hw g hB.1 (lt_of_block h)).trans h⟩
      refine .inr ⟨g, o, c, ⟨hB.1, ht⟩, hs, hl, fun j k hj => ?_⟩
      obtain ⟨sk, c0, c1, c2, c3, c4, r⟩ := hk j k hj
      have e : w'.heap[g]? = w.heap[g]? := hw g hB.1 (block_lt_of_cell c0)
      have ce : ∀ i, w'.cell? ⟨g, i, none⟩ = w.cell? ⟨g, i, none⟩ := fun i => World.cell?_of_block e
      exact ⟨sk, (ce _).trans c0, (ce _).trans c1, (ce _).trans c2, (ce _).trans c3, (ce _).trans c4, KidsAt.kept hw r⟩
theorem KidsAt.mono {B B' : Nat → Prop} (hB : ∀ g, B g → B' g) : ∀ {d : Nat} {w : World} {sl : Value} {ks : List Ex}, KidsAt B d w sl ks → KidsAt B' d w sl ks
  | 0, _, _, _, h => h
  | d + 1, w, sl, ks, h => by
    rcases h with h | ⟨g, o, c, hg, hs, hl, hk⟩
    · exact .inl h
    · refine .inr ⟨g, o, c, ⟨hB g hg.1, hg.2⟩, hs, hl, fun j k hj => ?_⟩
      obtain ⟨sk, c0, c1, c2, c3, c4, r⟩ := hk j k hj
      exact ⟨sk, c0, c1, c2, c3, c4, KidsAt.mono hB r⟩
/-- Its blocks are there. -/
theorem KidsAt.lt {B : Nat → Prop} : ∀ {d : Nat} {w : World} {sl : Value} {ks : List Ex}, KidsAt B d w sl ks → KidsAt (fun k => B k ∧ k < w.heap.size) d w sl ks
  | 0, _, _, _, h => h
  | d + 1, w, sl, ks, h => by
    rcases h with h | ⟨g, o, c, hg, hs, hl, hk⟩
    · exact .inl h
    · cases ks with
      | nil => exact .inl ⟨rfl, _, _, hs⟩
      | cons k0 ks =>
        obtain ⟨_, c0, _⟩ := hk 0 k0 rfl
        refine .inr ⟨g, o, c, ⟨⟨hg.1, block_lt_of_cell c0⟩, hg.2⟩, hs, hl, fun j k hj => ?_⟩
        obtain ⟨sk, c0, c1, c2, c3, c4, r⟩ := hk j k hj
        exact ⟨sk, c0, c1, c2, c3, c4, KidsAt.lt r⟩
/-- A block of another type is none of its. -/
theorem KidsAt.other {B : Nat → Prop} {b : Nat} {cs : Array Value} {t : TypeId} {fr : Nat × Nat} : ∀ {d : Nat} {w : World} {sl : Value} {ks : List Ex}, w.heap[b]? = some (.cells cs t fr) → t ≠ 60 → KidsAt B d w sl ks → KidsAt (fun k => B k ∧ k ≠ b) d w sl ks
  | 0, _, _, _, _, _, h => h
  | d + 1, w, sl, ks, hb, ht, h => by
    rcases h with h | ⟨g, o, c, hg, hs, hl, hk⟩
    · exact .inl h
    · have hne : g ≠ b := by
        rintro rfl
        obtain ⟨cs', fr', h'⟩ := hg.2
        rw [hb] at h'
        exact ht (Obj.cells.inj (Option.some.inj h')).2.1
      refine .inr ⟨g, o, c, ⟨⟨hg.1, hne⟩, hg.2⟩, hs, hl, fun j k hj => ?_⟩
      obtain ⟨sk, c0, c1, c2, c3, c4, r⟩ := hk j k hj
      exact ⟨sk, c0, c1, c2, c3, c4, KidsAt.other hb ht r⟩
theorem KidsAt.nil (B : Nat → Prop) (d : Nat) (w : World) (p : Option Addr) (c : Nat) : KidsAt B d w (.slice p 0 c) [] := by
  cases d with
  | zero => exact ⟨rfl, p, c, rfl⟩
  | succ d => exact .inl ⟨rfl, p, c, rfl⟩
theorem KidsAt.form {B : Nat → Prop} {d : Nat} {w : World} {sl : Value} {ks : List Ex} (h : KidsAt B d w sl ks) : ∃ p c, sl = .slice p ks.length c := by
  cases d with
  | zero =>
    obtain ⟨rfl, p, c, rfl⟩ := h
    exact ⟨p, c, rfl⟩
  | succ d =>
    rcases h with ⟨rfl, p, c, rfl⟩ | ⟨g, o, c, _, hs, _⟩
    · exact ⟨p, c, rfl⟩
    · exact ⟨_, c, hs⟩
/-- Nothing old has turned but that block. -/
abbrev Kept (g : Nat) (w w' : World) : Prop := w.grownBy w' (some g)
theorem Kept.refl (g : Nat) (w : World) : Kept g w w := ⟨rfl, rfl, rfl, Nat.le_refl _, fun _ _ _ => rfl⟩
theorem Kept.trans {g : Nat} {w w' w'' : World} (h : Kept g w w') (h' : Kept g w' w'') : Kept g w w'' :=
  ⟨h'.os.trans h.os, h'.tape.trans h.tape, h'.output.trans h.output, Nat.le_trans h.size h'.size, fun k hk hne => (h'.block k (Nat.lt_of_lt_of_le hk h.size) hne).trans (h.block k hk hne)⟩
theorem Kept.of_below {g : Nat} {w w' : World} (h : Below w.heap.size w w') : Kept g w w' := ⟨h.os, h.tape, h.output, h.size, fun k hk _ => h.block k hk⟩
theorem Kept.kids {B : Nat → Prop} {g d : Nat} {w w' : World} {sl : Value} {ks : List Ex} (h : Kept g w w') (hg : ∀ k, B k → k ≠ g) (hk : KidsAt B d w sl ks) : KidsAt B d w' sl ks :=
  hk.kept fun k hB hl => h.block k hl (fun e => hg k hB (Option.some.inj e))
theorem Kept.row {g : Nat} {w w' : World} {v : Value} {ts : List (T1 × Nat)} (h : Kept g w w') (hv : v.ownBlock ≠ some g) (hr : TRow w v ts) : TRow w' v ts := by
  rcases hr with hr | ⟨gt, o, c, hs, hl, hc⟩
  · exact .inl hr
  · refine .inr ⟨gt, o, c, hs, hl, fun j t k hj => ?_⟩
    obtain ⟨c1, c2, c3, c4⟩ := hc j t k hj
    have hne : gt ≠ g := fun e => hv (by rw [hs, e]; rfl)
    have e : w'.heap[gt]? = w.heap[gt]? := h.block gt (block_lt_of_cell c1) (fun e => hne (Option.some.inj e))
    have ce : ∀ i, w'.cell? ⟨gt, i, none⟩ = w.cell? ⟨gt, i, none⟩ := fun i => World.cell?_of_block e
    exact ⟨(ce _).trans c1, (ce _).trans c2, (ce _).trans c3, (ce _).trans c4⟩
/-- What holds all the while: few tokens, small numbers, and that the tokens lie elsewhere than the reader. -/
structure PS0 (all : List Tk) (E g : Nat) (v : Value) : Prop where
  len : all.length ≤ 6000
  fin : E ≤ 6000
  own : v.ownBlock ≠ some g
  num : ∀ p ∈ all, 0 ≤ p.1.n ∧ p.1.n ≤ 999999
  glob : 0 ≠ g
/-- The table of the days of the week. -/
def DTab (w : World) : Prop := ∀ j : Nat, j < 7 → w.cell? ⟨0, j, none⟩ = some (.string ⟨(wDays.getD j []).toArray⟩)
theorem Kept.days {g : Nat} {w w' : World} (h : Kept g w w') (hg : 0 ≠ g) (hd : DTab w) : DTab w' := fun j hj => by
  have c := hd j hj
  exact (World.cell?_of_block (h.block 0 (block_lt_of_cell c) (fun e => hg (Option.some.inj e)))).trans c
/-- The reader stands ahead of token i, and so many expressions have ended. -/
structure PSt (all : List Tk) (E g : Nat) (v : Value) (w : World) (i n : Nat) : Prop where
  blk : w.heap[g]? = some (.cells #[v, .int .i64 (i : Int), .int .i64 (E : Int), .int .i64 (n : Int)] 48 (0, 0))
  row : TRow w v all
  le : i ≤ all.length
  tab : DTab w
theorem PSt.below {all : List Tk} {E g : Nat} {v : Value} {w w' : World} {i n : Nat} (h : PSt all E g v w i n) (hb : Below w.heap.size w w') (h0 : PS0 all E g v) : PSt all E g v w' i n :=
  ⟨(hb.block g (lt_of_block h.blk)).trans h.blk, (Kept.of_below (g := g) hb).row h0.own h.row, h.le, (Kept.of_below (g := g) hb).days h0.glob h.tab⟩
/-- The token that is met. -/
def tokV (E : Nat) (r : List Tk) : Value := .agg #[.int .i64 (kindP r), .int .i64 (numP r), .int .i64 (atP E r : Int), .string ⟨(textP r).toArray⟩]
theorem parserType : Tryd.prog.underlying 48 = some (.struct (Tryd.prog.fieldsOf 48)) := by kernel_rfl
theorem exprType : Tryd.prog.underlying 60 = some (.struct (Tryd.prog.fieldsOf 60)) := by kernel_rfl
/-- A token in a cell is handed back. -/
theorem tok_ret {fn : Func} (s : Nat) (h : fn.results = #[ResultVar.cell s 30]) {R : Ending → World → Prop} {a : Act} {w : World} (g : Nat) (c0 c1 c2 c3 : Value) (hd : a.defers = []) (h2 : a.tmps.getD s undef = .pointer (some ⟨g, 0, none⟩))
    (hg : w.heap[g]? = some (.cells #[c0, c1, c2, c3] 30 (0, 0))) (hR : R (.returned (.agg #[c0, c1, c2, c3])) w) : bodyPost Tryd.prog fn R .ret a w := by
  refine bodyPost_ret (v := .agg #[c0, c1, c2, c3]) ?_ hd hR
  have h2' : a.tmps[s]?.getD undef = .pointer (some ⟨g, 0, none⟩) := by simpa using h2
  have hv := run_loadVar_row (P := Tryd.prog) w g 30 30 _ _ _ hg tokType rfl (by kernel_rfl)
  simp [results, h, h2', asAddr, hv]
/-- An expression in a cell is handed back. -/
theorem ex_ret {fn : Func} (s : Nat) (h : fn.results = #[ResultVar.cell s 60]) {R : Ending → World → Prop} {a : Act} {w : World} (g : Nat) (c0 c1 c2 c3 c4 : Value) (hd : a.defers = []) (h2 : a.tmps.getD s undef = .pointer (some ⟨g, 0, none⟩))
    (hg : w.heap[g]? = some (.cells #[c0, c1, c2, c3, c4] 60 (0, 0))) (hR : R (.returned (.agg #[c0, c1, c2, c3, c4])) w) : bodyPost Tryd.prog fn R .ret a w := by
  refine bodyPost_ret (v := .agg #[c0, c1, c2, c3, c4]) ?_ hd hR
  have h2' : a.tmps[s]?.getD undef = .pointer (some ⟨g, 0, none⟩) := by simpa using h2
  have hv := run_loadVar_row (P := Tryd.prog) w g 60 60 _ _ _ hg exprType rfl (by kernel_rfl)
  simp [results, h, h2', asAddr, hv]
theorem fieldTok0 (c0 c1 c2 c3 : Value) (w : World) : (Instr.field 30 (.agg #[c0, c1, c2, c3]) 0).run Tryd.prog w = .ok c0 w := by
  unfold Instr.field
  simp [go_sem, asAgg]
theorem fieldTok1 (c0 c1 c2 c3 : Value) (w : World) : (Instr.field 30 (.agg #[c0, c1, c2, c3]) 1).run Tryd.prog w = .ok c1 w := by
  unfold Instr.field
  simp [go_sem, asAgg]
theorem fieldTok2 (c0 c1 c2 c3 : Value) (w : World) : (Instr.field 30 (.agg #[c0, c1, c2, c3]) 2).run Tryd.prog w = .ok c2 w := by
  unfold Instr.field
  simp [go_sem, asAgg]
theorem fieldTok3 (c0 c1 c2 c3 : Value) (w : World) : (Instr.field 30 (.agg #[c0, c1, c2, c3]) 3).run Tryd.prog w = .ok c3 w := by
  unfold Instr.field
  simp [go_sem, asAgg]
attribute [go_sem] fieldTok0 fieldTok1 fieldTok2 fieldTok3
end Go.Proofs.YtfibbmdkpgageaaDoor
