/- The tokens of a text, one behind the other: plain facts. -/
import Derived.Test.YtllcpoibnmhghaaGreatDoorTb05
import Derived.OwnWalk
import Derived.Laws.StructEq
namespace Go.Proofs.YtllcpoibnmhghaaGreatDoor
open Go.RowKit Lx

theorem run_pos {p : UInt8 → Bool} : ∀ {l : List UInt8}, 0 < l.length → p (l.getD 0 0) = true → 1 ≤ runOf p l
  | [], h, _ => by simp at h
  | c :: l, _, h => by
    have hc : p c = true := by simpa using h
    simp [runOf, hc]
theorem wordLen_pos : ∀ {l : List UInt8}, 0 < l.length → isL (l.getD 0 0) = true → 1 ≤ wordLen l
  | [], h, _ => by simp at h
  | c :: l, _, h => by
    have hc : isL c = true := by simpa using h
    simp [wordLen, hc]
/-- What is said of a right token: it has bytes, and what it says stands there. -/
structure Fine (l : List UInt8) (t : T1) : Prop where
  pos : 1 ≤ t.len
  le : t.len ≤ l.length
  text : t.text = l.take t.text.length
  tle : t.text.length ≤ t.len
theorem first_fine (l : List UInt8) (h0 : 0 < l.length) (he : (firstT l).err = 0) : Fine l (firstT l) := by
  unfold firstT at he ⊢
  split at he
  · rename_i hf
    rw [if_pos hf]
    have hlen := (fitsL_at hf).1
    have h10 : 10 ≤ l.length := hlen
    unfold dateT at he ⊢
    split at he
    · rename_i h
      rw [if_pos h]
      exact ⟨by simp, h10, by simp, by simp⟩
    · simp [bad] at he
  · rename_i hf
    rw [if_neg hf]
    split at he
    · rename_i hf2
      rw [if_pos hf2]
      have hlen := (fitsL_at hf2).1
      have h5 : 5 ≤ l.length := hlen
      unfold timeT at he ⊢
      split at he
      · simp [bad] at he
      · rename_i h
        rw [if_neg h]
        exact ⟨by simp, h5, by simp, by simp⟩
    · rename_i hf2
      rw [if_neg hf2]
      split at he
      · rename_i hd
        rw [if_pos hd]
        unfold numT at he ⊢
        split at he
        · simp [bad] at he
        · rename_i h
          rw [if_neg h]
          exact ⟨run_pos h0 hd, runOf_le _ l, by simp, by simp⟩
      · rename_i hd
        rw [if_neg hd]
        split at he
        · rename_i hL
          rw [if_pos hL]
          have hwl := wordLen_le l
          unfold wordT at he ⊢
          split at he
          · simp [bad] at he
          · rename_i h
            rw [if_neg h]
            exact ⟨wordLen_pos h0 hL, hwl, by simp [Nat.min_eq_left hwl], by simp; omega⟩
        · rename_i hL
          rw [if_neg hL]
          unfold signT at he ⊢
          split at he
          · rename_i hp
            rw [if_pos hp]
            have hp' : [46, 46] <+: l := by
              unfold Lib.hasPrefix at hp
              exact List.isPrefixOf_iff_prefix.1 hp
            obtain ⟨r, rfl⟩ := hp'
            exact ⟨by simp, by simp, by simp, by simp⟩
          · rename_i hp
            rw [if_neg hp]
            split at he
            · simp [bad] at he
            · rename_i h
              rw [if_neg h]
              match l, h0 with
              | c :: r, _ => exact ⟨by simp, by simp, by simp, by simp⟩
/-- The tokens, counted. -/
def iterN (l : List UInt8) : Nat → Option (List (T1 × Nat) × Nat)
  | 0 => some ([], 0 + skipS false (l.drop 0))
  | n + 1 => match iterN l n with
    | none => none
    | some (ts, k) => if k < l.length ∧ (firstT (l.drop k)).err = 0 then some (ts ++ [(firstT (l.drop k), k)], k + (firstT (l.drop k)).len + skipS false (l.drop (k + (firstT (l.drop k)).len))) else none
/-- The tokens ahead of a place. -/
def Lexed (l : List UInt8) (ts : List (T1 × Nat)) (k : Nat) : Prop := ∃ n, iterN l n = some (ts, k)
theorem Lexed.start {l : List UInt8} : Lexed l [] (0 + skipS false (l.drop 0)) := ⟨0, rfl⟩
theorem Lexed.step {l : List UInt8} {ts : List (T1 × Nat)} {k : Nat} (h : Lexed l ts k) (hk : k < l.length) (he : (firstT (l.drop k)).err = 0) : Lexed l (ts ++ [(firstT (l.drop k), k)]) (k + (firstT (l.drop k)).len + skipS false (l.drop (k + (firstT (l.drop k)).len))) := by
  obtain ⟨n, hn⟩ := h
  exact ⟨n + 1, by simp only [iterN, hn]; rw [if_pos ⟨hk, he⟩]⟩
theorem Lexed.ind {l : List UInt8} {M : List (T1 × Nat) → Nat → Prop} (h0 : M [] (0 + skipS false (l.drop 0)))
    (hs : ∀ (ts : List (T1 × Nat)) (k : Nat), Lexed l ts k → k < l.length → (firstT (l.drop k)).err = 0 → M ts k → M (ts ++ [(firstT (l.drop k), k)]) (k + (firstT (l.drop k)).len + skipS false (l.drop (k + (firstT (l.drop k)).len)))) :
    ∀ (n : Nat) {ts : List (T1 × Nat)} {k : Nat}, iterN l n = some (ts, k) → M ts k
  | 0, ts, k, hn => by
    simp only [iterN] at hn
    obtain ⟨rfl, rfl⟩ := Prod.mk.inj (Option.some.inj hn)
    exact h0
  | n + 1, ts, k, hn => by
    simp only [iterN] at hn
    split at hn
    · cases hn
    · rename_i ts' k' hn'
      split at hn
      · rename_i hc
        obtain ⟨rfl, rfl⟩ := Prod.mk.inj (Option.some.inj hn)
        exact hs ts' k' ⟨n, hn'⟩ hc.1 hc.2 (Lexed.ind h0 hs n hn')
      · cases hn
theorem drop_pos {l : List UInt8} {k : Nat} (h : k < l.length) : 0 < (l.drop k).length := by simp; omega
theorem Lexed.le {l : List UInt8} {ts : List (T1 × Nat)} {k : Nat} (h : Lexed l ts k) : k ≤ l.length ∧ ts.length ≤ k := by
  obtain ⟨n, hn⟩ := h
  refine Lexed.ind (M := fun ts k => k ≤ l.length ∧ ts.length ≤ k) ?_ ?_ n hn
  · have := skipS_le false (l.drop 0)
    simp at this ⊢
    omega
  · intro ts k _ hk he ih
    have f := first_fine _ (drop_pos hk) he
    have := skipS_le false (l.drop (k + (firstT (l.drop k)).len))
    have h1 := f.pos
    have h2 := f.le
    simp at this h2 ⊢
    omega
end Go.Proofs.YtllcpoibnmhghaaGreatDoor

/- Plain facts about two texts on two lines. -/
namespace Go.Proofs.YtllcpoibnmhghaaGreatDoor
open Go.RowKit Lx

theorem run_line (p : UInt8 → Bool) (hp : p 10 = false) (y : List UInt8) : ∀ x : List UInt8, runOf p (x ++ 10 :: y) = runOf p x
  | [] => by simp [runOf, hp]
  | c :: x => by simp only [List.cons_append, runOf, run_line p hp y x]
theorem word_line (y : List UInt8) : ∀ x : List UInt8, wordLen (x ++ 10 :: y) = wordLen x
  | [] => by simp [wordLen, show isL 10 = false from by decide]
  | c :: x => by simp only [List.cons_append, wordLen, run_line isC (by decide) y x]
theorem getD_line (x y : List UInt8) (i : Nat) (hi : i < x.length) : (x ++ 10 :: y).getD i 0 = x.getD i 0 := by
  rw [List.getD_eq_getElem?_getD, List.getD_eq_getElem?_getD, List.getElem?_append_left hi]
theorem getD_lf (x y : List UInt8) : (x ++ 10 :: y).getD x.length 0 = 10 := by
  rw [List.getD_eq_getElem?_getD, List.getElem?_append_right (Nat.le_refl _)]; simp
/-- A form that asks for no line feed fits where it does on the first line. -/
theorem fits_line (x y m : List UInt8) (hm : ∀ i, i < m.length → okB (m.getD i 0) 10 = false) : fitsL (x ++ 10 :: y) m = fitsL x m := by
  by_cases hle : m.length ≤ x.length
  · cases h : fitsL x m with
    | true =>
      obtain ⟨_, h2⟩ := fitsL_at h
      exact fitsL_yes (by simp; omega) fun i hi => by rw [getD_line x y i (by omega)]; exact h2 i hi
    | false =>
      cases h' : fitsL (x ++ 10 :: y) m with
      | false => rfl
      | true =>
        obtain ⟨_, h2⟩ := fitsL_at h'
        have : fitsL x m = true := fitsL_yes hle fun i hi => by
          have := h2 i hi
          rw [getD_line x y i (by omega)] at this
          exact this
        rw [h] at this; cases this
  · rw [fitsL_short hle]
    exact fitsL_no x.length (by omega) (by rw [getD_lf]; exact hm _ (by omega))
theorem take_line (x y : List UInt8) (a n : Nat) (h : a + n ≤ x.length) : ((x ++ 10 :: y).drop a).take n = (x.drop a).take n := by
  rw [List.drop_append_of_le_length (by omega), List.take_append_of_le_length (by simp; omega)]
/-- The first token of a line that has bytes does not see the next line. -/
theorem first_line (x y : List UInt8) (h0 : 0 < x.length) : firstT (x ++ 10 :: y) = firstT x := by
  have hg : (x ++ 10 :: y).getD 0 0 = x.getD 0 0 := getD_line x y 0 h0
  unfold firstT
  rw [fits_line x y dateF (by decide), fits_line x y timeF (by decide), hg]
  split
  · rename_i h
    have hl : 10 ≤ x.length := (fitsL_at h).1
    unfold dateT
    rw [take_line x y 0 4 (by omega), take_line x y 5 2 (by omega), take_line x y 8 2 (by omega)]
  · split
    · rename_i h
      have hl : 5 ≤ x.length := (fitsL_at h).1
      unfold timeT
      rw [take_line x y 0 2 (by omega), take_line x y 3 2 (by omega)]
    · split
      · unfold numT
        have hr := runOf_le isD x
        rw [run_line isD (by decide) y x]
        rw [List.take_append_of_le_length hr]
      · split
        · unfold wordT
          have hr := wordLen_le x
          rw [word_line y x, List.take_append_of_le_length hr]
        · unfold signT
          rw [hg]
          have hp : Lib.hasPrefix (x ++ 10 :: y) [46, 46] = Lib.hasPrefix x [46, 46] := by
            match x, h0 with
            | [c], _ => simp [Lib.hasPrefix, List.isPrefixOf]
            | c :: d :: r, _ => simp [Lib.hasPrefix, List.isPrefixOf]
          rw [hp]
/-- What is skipped on the first line, and then. -/
theorem skip_line (y : List UInt8) : ∀ (b : Bool) (x : List UInt8), skipS b (x ++ 10 :: y) = if skipS b x = x.length then x.length + 1 + skipS false y else skipS b x
  | true, [] => by simp [skipS]; omega
  | false, [] => by simp [skipS]; omega
  | true, c :: x => by
    have h1 := skip_line y true x
    have h2 := skip_line y false x
    simp only [List.cons_append, skipS, List.length_cons]
    split
    · rw [h2]; split <;> split <;> omega
    · rw [h1]; split <;> split <;> omega
  | false, c :: x => by
    have h1 := skip_line y true x
    have h2 := skip_line y false x
    simp only [List.cons_append, skipS, List.length_cons]
    split
    · rw [h2]; split <;> split <;> omega
    · split
      · rw [h1]; split <;> split <;> omega
      · split
        · omega
        · rfl
end Go.Proofs.YtllcpoibnmhghaaGreatDoor

/- What lex.remarkLength and lex.skip come to. -/
namespace Go.Proofs.YtllcpoibnmhghaaGreatDoor
open Go.RowKit Lx

set_option maxHeartbeats 400000 in
theorem remark_any (s : ByteArray) (l : List UInt8) (hs : s.data.toList = l) (w : World) :
    Calls Tryz.prog 65 #[.string s] w fun e w' => e = .returned (.int .i64 (remL l : Int)) ∧ w' = w := by
  have hz : s.size = l.length := by rw [← hs, Lib.size_eq]
  have ci := fun w => index_any s 10 w
  have e10 : (10 : Int).toNat.toUInt8 = 10 := by decide
  rw [hs, e10, index_rem] at ci
  have hle : remL l ≤ l.length := runOf_le _ l
  by_cases h : remL l < l.length
  · rw [if_pos h] at ci
    have h0 : (0 : Int) ≤ (remL l : Int) := by omega
    go_enter Tryz.func65, Tryz.ntmps65
    go_wp2_with (go_at_call 82; refine (ci _).mono ?_; rintro e w' ⟨rfl, rfl⟩)
    go_ret
    exact ⟨rfl, rfl⟩
  · rw [if_neg h] at ci
    have e : remL l = l.length := by omega
    rw [e]
    go_enter Tryz.func65, Tryz.ntmps65
    go_wp2_with (go_at_call 82; refine (ci _).mono ?_; rintro e w' ⟨rfl, rfl⟩)
    go_ret
    exact ⟨rfl, rfl⟩

set_option maxRecDepth 10000 in
set_option maxHeartbeats 400000 in
theorem skip_any (s : ByteArray) (l : List UInt8) (hs : s.data.toList = l) (hl : l.length ≤ 9223372036854775806) (at0 r : Nat) (hat : at0 ≤ l.length) (hr : at0 + skipS false (l.drop at0) = r) (w : World) :
    Calls Tryz.prog 54 #[.string s, .int .i64 (at0 : Int)] w fun e w' => e = .returned (.int .i64 (r : Int)) ∧ w' = w := by
  have hz : s.size = l.length := by rw [← hs, Lib.size_eq]
  have HR : Hid (at0 + skipS false (l.drop at0) = r) := hr
  clear hr
  go_enter Tryz.func54, Tryz.ntmps54
  go_wp2
  go_loop [1] (fun i => ∃ k : Nat, k ≤ l.length ∧ i = .int .i64 k ∧ r = k + skipS false (l.drop k)) (fun i => l.length - (intOf i).toNat)
  case atStart => exact ⟨at0, hat, rfl, HR.out.symm⟩
  case round =>
    obtain ⟨k, hk, rfl, hinv⟩ := hrel
    have HI : Hid (r = k + skipS false (l.drop k)) := hinv
    clear hinv
    by_cases hlt : k < l.length
    · have hlt' : (k : Int) < (l.length : Int) := by omega
      have hk0 : (0 : Int) ≤ (k : Int) := by omega
      have g1 : ∀ h : k < s.size, s[k] = l.getD k 0 := fun h => byte_at hs k h
      have hd0 : (l.drop k).getD 0 0 = l.getD k 0 := by simp [List.getD_eq_getElem?_getD, List.getElem?_drop]
      have hdl : 0 < (l.drop k).length := by simp; omega
      have hdd : ∀ n, (l.drop k).drop n = l.drop (k + n) := fun n => by rw [List.drop_drop]
      have hblank := skip_blank (l.drop k) hdl
      have hhash := skip_hash (l.drop k) hdl
      have hstop := skip_stop (l.drop k)
      rw [hd0] at hblank hhash hstop
      rw [hdd] at hblank hhash
      have cr := fun w => remark_any (s.extract k s.size) (l.drop k) (by rw [Lib.extract_data, hs]; exact List.take_of_length_le (by simp; omega)) w
      have hrl : remL (l.drop k) ≤ (l.drop k).length := runOf_le _ _
      simp only [List.length_drop] at hrl
      rw [hz] at cr
      generalize hc : l.getD k 0 = c at *
      generalize remL (l.drop k) = n at *
      by_cases hb : c.toNat = 32 ∨ c.toNat = 9 ∨ c.toNat = 10
      · have hS := hblank hb
        have HB : Hid (skipS false (l.drop k) = 1 + skipS false (l.drop (k + 1))) := hS
        clear hS hblank hhash hstop cr hdd
        rcases (show c.toNat = 32 ∨ (c.toNat ≠ 32 ∧ c.toNat = 9) ∨ (c.toNat ≠ 32 ∧ c.toNat ≠ 9 ∧ c.toNat = 10) from by omega) with j1 | ⟨j0, j1⟩ | ⟨j0, j00, j1⟩
        · have i1 : ((c.toNat : Int) == 32) = true := by simp; omega
          clear hb j1
          go_wp2
          go_round
          case rel => exact ⟨k + 1, by omega, by go_num, by have := HI.out; have := HB.out; omega⟩
          case measure => simp [intOf]; omega
        · have i0 : ((c.toNat : Int) == 32) = false := by simp; omega
          have i1 : ((c.toNat : Int) == 9) = true := by simp; omega
          clear hb j1 j0
          go_wp2
          go_round
          case rel => exact ⟨k + 1, by omega, by go_num, by have := HI.out; have := HB.out; omega⟩
          case measure => simp [intOf]; omega
        · have i0 : ((c.toNat : Int) == 32) = false := by simp; omega
          have i00 : ((c.toNat : Int) == 9) = false := by simp; omega
          have i1 : ((c.toNat : Int) == 10) = true := by simp; omega
          clear hb j1 j0 j00
          go_wp2
          go_round
          case rel => exact ⟨k + 1, by omega, by go_num, by have := HI.out; have := HB.out; omega⟩
          case measure => simp [intOf]; omega
      · have i0 : ((c.toNat : Int) == 32) = false := by simp; omega
        have i00 : ((c.toNat : Int) == 9) = false := by simp; omega
        have i1 : ((c.toNat : Int) == 10) = false := by simp; omega
        by_cases h35 : c.toNat = 35
        · obtain ⟨hS, hn1⟩ := hhash h35
          have HB : Hid (skipS false (l.drop k) = n + skipS false (l.drop (k + n))) := hS
          have i2 : ((c.toNat : Int) == 35) = true := by simp; omega
          clear hS hblank hhash hstop hb h35 hdd
          go_wp2_with (go_at_call 65; refine (cr _).mono ?_; rintro e w' ⟨rfl, rfl⟩)
          go_round
          case rel => exact ⟨k + n, by omega, by go_num, by have := HI.out; have := HB.out; omega⟩
          case measure => simp [intOf]; omega
        · have HB : Hid (skipS false (l.drop k) = 0) := hstop fun _ => ⟨hb, h35⟩
          have i2 : ((c.toNat : Int) == 35) = false := by simp; omega
          clear hblank hhash hstop hb h35 cr hdd
          go_wp2
          go_ret
          exact ⟨by rw [show r = k from by have := HI.out; have := HB.out; omega]; rfl, rfl⟩
    · have hkl : k = l.length := by omega
      have HB : Hid (skipS false (l.drop k) = 0) := by
        rw [hkl, List.drop_length]
        exact rfl
      have hlt' : ¬ (k : Int) < (l.length : Int) := by omega
      clear hkl
      go_wp2
      go_ret
      exact ⟨by rw [show r = k from by have := HI.out; have := HB.out; omega]; rfl, rfl⟩
end Go.Proofs.YtllcpoibnmhghaaGreatDoor

/- What lex.Lex comes to. -/
namespace Go.Proofs.YtllcpoibnmhghaaGreatDoor
open Go.RowKit Lx

/-- The cells of a row of tokens. -/
def flatT : List (T1 × Nat) → List Value
  | [] => []
  | p :: l => .int .i64 p.1.kind :: .int .i64 p.1.n :: .int .i64 (p.2 : Int) :: .string ⟨p.1.text.toArray⟩ :: flatT l
theorem flatT_snoc (t : T1) (k : Nat) : ∀ l : List (T1 × Nat), flatT (l ++ [(t, k)]) = flatT l ++ [.int .i64 t.kind, .int .i64 t.n, .int .i64 (k : Int), .string ⟨t.text.toArray⟩]
  | [] => rfl
  | s :: l => by simp [flatT, flatT_snoc t k l]
theorem tokInfo : (Tryz.prog.info? 101).map (fun i => (i.zero, i.size, i.bytes)) = some (some (.agg #[.int .i64 0, .int .i64 0, .int .i64 0, .string ⟨#[]⟩]), 4, 40) := by kernel_rfl
theorem toksType : Tryz.prog.underlying 82 = some (.slice 101) := by kernel_rfl
theorem owns_below {w w' : World} {base : Nat} {e : TypeId} {size : Nat} {v : Value} {n : Nat} {xs : List Value} (h : w.ownsRow base e size v n xs) (hb : Below w.heap.size w w') : w'.ownsRow base e size v n xs := by
  obtain ⟨h1, h2⟩ := h
  refine ⟨h1, ?_⟩
  rcases h2 with h2 | ⟨g, cap, cur, hv, hg, hh, r⟩
  · exact .inl h2
  · exact .inr ⟨g, cap, cur, hv, hg, (hb.block g (lt_of_block hh)).trans hh, r⟩
theorem owns_type {w : World} {base : Nat} {e : TypeId} {size : Nat} {v : Value} {n : Nat} {xs : List Value} (h : w.ownsRow base e size v n xs) {k : Nat} {c : Array Value} {t : TypeId} (hk : w.heap[k]? = some (.cells c t (0, 0))) (ht : t ≠ e) : v.ownBlock ≠ some k := by
  obtain ⟨_, h2⟩ := h
  rcases h2 with ⟨h2, _⟩ | ⟨g, cap, cur, hv, hg, hh, r⟩
  · subst h2; simp [Value.ownBlock]
  · subst hv
    intro e1
    have e2 : g = k := by simpa [Value.ownBlock] using e1
    subst e2
    rw [hh] at hk
    exact ht (Obj.cells.inj (Option.some.inj hk)).2.1.symm
/-- What Lex hands back: too much; a fault at a place; or the tokens of the whole text. -/
def LexTells (l : List UInt8) (base : Nat) (w : World) (v : Value) (er at_ : Int) : Prop :=
  (6000 < l.length ∧ v = .slice none 0 0 ∧ er = 4 ∧ at_ = 0) ∨
  (∃ (ts : List (T1 × Nat)) (k : Nat), l.length ≤ 6000 ∧ Lexed l ts k ∧ k < l.length ∧ (firstT (l.drop k)).err ≠ 0 ∧ v = .slice none 0 0 ∧ er = (firstT (l.drop k)).err ∧ at_ = (k : Int)) ∨
  (∃ (ts : List (T1 × Nat)) (k : Nat), l.length ≤ 6000 ∧ Lexed l ts k ∧ ¬ k < l.length ∧ w.ownsRow base 101 4 v ts.length (flatT ts) ∧ er = 0 ∧ at_ = 0)
theorem LexTells.much {l : List UInt8} {base : Nat} {w : World} (h : 6000 < l.length) : LexTells l base w (.slice none 0 0) 4 0 := .inl ⟨h, rfl, rfl, rfl⟩
theorem LexTells.wrong {l : List UInt8} {base : Nat} {w : World} {ts : List (T1 × Nat)} {k : Nat} (h6 : l.length ≤ 6000) (hL : Lexed l ts k) (hk : k < l.length) (he : (firstT (l.drop k)).err ≠ 0) : LexTells l base w (.slice none 0 0) (firstT (l.drop k)).err (k : Int) := .inr (.inl ⟨ts, k, h6, hL, hk, he, rfl, rfl, rfl⟩)
theorem LexTells.right {l : List UInt8} {base : Nat} {w : World} {ts : List (T1 × Nat)} {k : Nat} {v : Value} (h6 : l.length ≤ 6000) (hL : Lexed l ts k) (hk : ¬ k < l.length) (ho : w.ownsRow base 101 4 v ts.length (flatT ts)) : LexTells l base w v 0 0 := .inr (.inr ⟨ts, k, h6, hL, hk, ho, rfl, rfl⟩)
theorem faultType : Tryz.prog.underlying 43 = some (.struct (Tryz.prog.fieldsOf 43)) := by kernel_rfl
theorem lex_post {R : Ending → World → Prop} {a : Act} {w : World} (g : Nat) (v : Value) (er at_ : Int) (hd : a.defers = []) (h2 : a.tmps.getD 2 undef = v) (h3 : a.tmps.getD 3 undef = .pointer (some ⟨g, 0, none⟩))
    (hg : w.heap[g]? = some (.cells #[.int .i64 er, .int .i64 at_] 43 (0, 0))) (hR : R (.returned (.tuple #[v, .agg #[.int .i64 er, .int .i64 at_]])) w) : bodyPost Tryz.prog Tryz.f42 R .ret a w := by
  refine bodyPost_ret (v := .tuple #[v, .agg #[.int .i64 er, .int .i64 at_]]) ?_ hd hR
  have h2' : a.tmps[2]?.getD undef = v := by simpa using h2
  have h3' : a.tmps[3]?.getD undef = .pointer (some ⟨g, 0, none⟩) := by simpa using h3
  have hv := run_loadVar_row (P := Tryz.prog) w g 43 43 _ _ _ hg faultType rfl (by kernel_rfl)
  simp [results, Tryz.results42, h2', h3', asAddr, hv]
theorem owns_setRow {w : World} {base : Nat} {e : TypeId} {size : Nat} {v : Value} {n : Nat} {xs : List Value} (h : w.ownsRow base e size v n xs) {g : Nat} (hg : v.ownBlock ≠ some g) (cs : Array Value) : (w.setRow g cs).ownsRow base e size v n xs := by
  obtain ⟨h1, h2⟩ := h
  refine ⟨h1, ?_⟩
  rcases h2 with h2 | ⟨g', cap, cur, hv, hb, hh, r⟩
  · exact .inl h2
  · refine .inr ⟨g', cap, cur, hv, hb, (setRow_other _ _ _ _ fun e => hg ?_).trans hh, r⟩
    subst hv
    simp [Value.ownBlock, e]
theorem CTab.later {w w' : World} (h : CTab w) (hb : Below w.heap.size w w') : CTab w' := h.below hb

set_option maxRecDepth 10000 in
set_option maxHeartbeats 400000 in
theorem lex_any (s : ByteArray) (l : List UInt8) (hs : s.data.toList = l) (hl : l.length ≤ 9223372036854775807) (w : World) (hT : CTab w) :
    Calls Tryz.prog 42 #[.string s] w fun e w' => (∃ v er at_, e = .returned (.tuple #[v, .agg #[.int .i64 er, .int .i64 at_]]) ∧ LexTells l w.heap.size w' v er at_) ∧ Below w.heap.size w w' := by
  have hz : s.size = l.length := by rw [← hs, Lib.size_eq]
  obtain ⟨i0, hi, hz0, hz1, hz2⟩ := info_parts tokInfo
  have hb0 : Below w.heap.size w (w.alloc (.cells #[.int .i64 0, .int .i64 0] 43)) := (Below.refl _ _).alloc (Nat.le_refl _) _
  have h0 : (w.alloc (.cells #[.int .i64 0, .int .i64 0] 43)).heap[w.heap.size]? = some (.cells #[.int .i64 0, .int .i64 0] 43 (0, 0)) := heap_alloc_new w _
  by_cases hm : 6000 < l.length
  · have hm' : (6000 : Int) < (l.length : Int) := by omega
    go_enter Tryz.func42, Tryz.ntmps42
    go_wp2
    exact lex_post w.heap.size (.slice none 0 0) 4 0 rfl rfl rfl (heap_alloc_new w _) ⟨⟨_, _, _, rfl, LexTells.much hm⟩, (Below.refl _ _).alloc (Nat.le_refl _) _⟩
  · have hm' : ¬ (6000 : Int) < (l.length : Int) := by omega
    have HT : Hid (CTab w) := hT
    clear hT
    have c0 := fun w => skip_any s l hs (by omega) 0 (0 + skipS false (l.drop 0)) (by omega) rfl w
    have hst := Lexed.start (l := l)
    generalize hk0 : 0 + skipS false (l.drop 0) = k0 at *
    have HS : Hid (Lexed l [] k0) := hst
    clear hst hk0
    go_enter Tryz.func42, Tryz.ntmps42
    go_wp2_with (go_at_call 54; refine (c0 _).mono ?_; rintro e w' ⟨rfl, rfl⟩)
    go_loopw [4, 5] (fun v i wr => ∃ (ts : List (T1 × Nat)) (k : Nat), i = .int .i64 k ∧ Lexed l ts k ∧ wr.ownsRow w.heap.size 101 4 v ts.length (flatT ts) ∧ wr.heap[w.heap.size]? = some (.cells #[.int .i64 0, .int .i64 0] 43 (0, 0)) ∧ Below w.heap.size w wr) (fun _ i _ => l.length - (intOf i).toNat)
    case atStart => exact ⟨[], k0, rfl, HS.out, World.ownsRow_nil _ _ _ _, h0, hb0⟩
    case round =>
      obtain ⟨ts, k, rfl, hlx, hown, hf, hbel⟩ := hrel
      clear h0 hb0 HS c0
      obtain ⟨hkl, htl⟩ := hlx.le
      by_cases hlt : k < l.length
      · have hlt' : (k : Int) < (l.length : Int) := by omega
        have hk0 : (0 : Int) ≤ (k : Int) := by omega
        have hkl' : (k : Int) ≤ (l.length : Int) := by omega
        have cT : ∀ w, CTab w → Calls Tryz.prog 55 #[.string (s.extract k l.length)] w fun e w' => e = .returned (.tuple #[.agg #[.int .i64 (firstT (l.drop k)).kind, .int .i64 (firstT (l.drop k)).n, .int .i64 0, .string ⟨(firstT (l.drop k)).text.toArray⟩], .int .i64 ((firstT (l.drop k)).len : Int), .int .i64 (firstT (l.drop k)).err]) ∧ Below w.heap.size w w' := fun w hT => first_any (s.extract k l.length) (l.drop k) (by rw [Lib.extract_data, hs]; exact List.take_of_length_le (by simp)) (by simp; omega) (drop_pos hlt) w hT
        by_cases he : (firstT (l.drop k)).err = 0
        · have hfine := first_fine _ (drop_pos hlt) he
          have hnx := Lexed.step hlx hlt he
          have hp1 := hfine.pos
          have hp2 := hfine.le
          simp only [List.length_drop] at hp2
          have cs := fun w => skip_any s l hs (by omega) (k + (firstT (l.drop k)).len) _ (by omega) rfl w
          rw [he] at cT
          generalize firstT (l.drop k) = t at *
          generalize hk1 : k + t.len + skipS false (l.drop (k + t.len)) = k1 at *
          have hsk : k < k1 := by omega
          have HX : Hid (Lexed l (ts ++ [(t, k)]) k1) := hnx
          have q1 : IntKind.i64.wrap ((k : Int) + (t.len : Int)) = ((k + t.len : Nat) : Int) := by rw [IntKind.wrap_i64]; omega
          clear hnx he hfine hk1 hlx
          obtain ⟨kd, nn, tx, tl, te⟩ := t
          dsimp only at *
          go_wp2_with (first
            | (go_at_call 55; refine (cT _ (HT.out.later hbel)).mono ?_; rintro e w1 ⟨rfl, hb1⟩; have hf1 := (hb1.block _ (lt_of_block hf)).trans hf; have hown1 := owns_below hown hb1; have hbel1 := hbel.trans (hb1.mono hbel.size); clear hf hown hbel hb1 cT)
            | (at_builtin; refine wpList_append_own _ rfl _ _ 82 rfl w.heap.size 101 i0 (.agg #[.int .i64 0, .int .i64 0, .int .i64 0, .string ⟨#[]⟩]) 4 40 toksType hi hz0 hz1 hz2 rfl (by decide) u4 ts.length (flatT ts) rfl ((hown1.alloc _).alloc _) ⟨w1.heap.size + 1, 0, none⟩ 1 1 [.int .i64 kd, .int .i64 nn, .int .i64 (k : Int), .string ⟨tx.toArray⟩] rfl rfl ?c1 ?c2 ?c3 ?c4 ?c5 ?_))
          case c1 =>
            intro j u hj
            match j, hj with
            | 0, hj => simp at hj; subst hj; simp [Addr.add]
            | 1, hj => simp at hj; subst hj; simp [Addr.add]
            | 2, hj => simp at hj; subst hj; simp [Addr.add]
            | 3, hj => simp at hj; subst hj; simp [Addr.add]
          case c2 => intro u hu; simp at hu; rcases hu with rfl | rfl | rfl | rfl <;> rfl
          case c3 => unfold maxLen; omega
          case c4 => omega
          case c5 => have := hbel1.size; simp; omega
          · intro v' w2 hown' hgrow _
            have hown2 : w2.ownsRow w.heap.size 101 4 v' (ts ++ [((⟨kd, nn, tx, tl, te⟩ : T1), k)]).length (flatT (ts ++ [((⟨kd, nn, tx, tl, te⟩ : T1), k)])) := by
              rw [flatT_snoc]
              simp only [List.length_append, List.length_cons, List.length_nil, Nat.zero_add]
              exact hown'
            have lf := lt_of_block hf1
            have hfa := (Below.heap_alloc w1 (.cells #[.int .i64 kd, .int .i64 nn, .int .i64 (k : Int), .string ⟨tx.toArray⟩] 101) _ lf).trans hf1
            have hfb := (Below.heap_alloc _ (.cells #[.int .i64 kd, .int .i64 nn, .int .i64 (k : Int), .string ⟨tx.toArray⟩] 101) _ (lt_of_block hfa)).trans hfa
            have hf2 := (hgrow.block _ (lt_of_block hfb) (fun e => owns_type hown1 hf1 (by decide) e.symm)).trans hfb
            have hbel2 : Below w.heap.size w w2 := ((hbel1.alloc hbel1.size _).alloc (by have := hbel1.size; simp; omega) _).grown hgrow (by have := hbel1.size; simp; omega) (fun k hk => (hown1.lt k hk).1)
            clear hown' hgrow hown1 hf1 hbel1 hfa hfb lf
            go_wp2_with (go_at_call 54; refine (cs _).mono ?_; rintro e w' ⟨rfl, rfl⟩)
            go_roundw
            case rel => exact ⟨_, k1, rfl, HX.out, hown2, hf2, hbel2⟩
            case measure =>
              have := HX.out.le
              simp [intOf]; omega
        · have hne : ((firstT (l.drop k)).err != 0) = true := by simpa using he
          have HO : ∀ w', Hid (LexTells l w.heap.size w' (.slice none 0 0) (firstT (l.drop k)).err (k : Int)) := fun w' => LexTells.wrong (by omega) hlx hlt he
          clear he hlx hown
          generalize firstT (l.drop k) = t at *
          obtain ⟨kd, nn, tx, tl, te⟩ := t
          dsimp only at *
          go_wp2_with (first
            | (go_at_call 55; refine (cT _ (HT.out.later hbel)).mono ?_; rintro e w1 ⟨rfl, hb1⟩; have hf1 := (hb1.block _ (lt_of_block hf)).trans hf; have hbel1 := hbel.trans (hb1.mono hbel.size); have hfa := (Below.heap_alloc w1 (.cells #[.int .i64 kd, .int .i64 nn, .int .i64 0, .string ⟨tx.toArray⟩] 101) _ (lt_of_block hf1)).trans hf1; have hbela := hbel1.alloc hbel1.size (.cells #[.int .i64 kd, .int .i64 nn, .int .i64 0, .string ⟨tx.toArray⟩] 101); clear hf hbel hb1 cT hf1)
            | (refine wpList_store_row rfl 43 _ _ rfl _ _ rfl rfl _ _ hfa (by kernel_rfl) (by simp) (by simp [Value.oneCell']) ?_))
          exact lex_post w.heap.size (.slice none 0 0) te (k : Int) rfl rfl rfl (setRow_heap _ _ _ _ _ _ hfa) ⟨⟨_, _, _, rfl, (HO _).out⟩, below_setRow hbela (Nat.le_refl _) _⟩
      · have hob := owns_type hown hf (by decide)
        have HO : ∀ cs, Hid (LexTells l w.heap.size (wr.setRow w.heap.size cs) u4 0 0) := fun cs => LexTells.right (by omega) hlx hlt (owns_setRow hown hob cs)
        have hlt' : ¬ (k : Int) < (l.length : Int) := by omega
        clear hlx hown hob
        go_wp2_with (refine wpList_store_row rfl 43 _ _ rfl _ _ rfl rfl _ _ hf (by kernel_rfl) (by simp) (by simp [Value.oneCell']) ?_)
        exact lex_post w.heap.size u4 0 0 rfl rfl rfl (setRow_heap _ _ _ _ _ _ hf) ⟨⟨_, _, _, rfl, (HO _).out⟩, below_setRow hbel (Nat.le_refl _) _⟩
end Go.Proofs.YtllcpoibnmhghaaGreatDoor

/- What lex.Named comes to; how tokens lie in memory; the tokens of one text, told. -/
namespace Go.Proofs.YtllcpoibnmhghaaGreatDoor
open Go.RowKit Lx

def namedL (l : List UInt8) : Bool := decide (l.length ≠ 0) && (decide (l.length ≤ 20) && (decide (wordLen l = l.length) && !isWordL l))
theorem own_slice {w : World} {base : Nat} {e : TypeId} {size : Nat} {v : Value} {n : Nat} {xs : List Value} (h : w.ownsRow base e size v n xs) (hn : 0 < n) :
    ∃ g cap : Nat, v = .slice (some ⟨g, 0, none⟩) n cap ∧ ∀ (i : Nat) (u : Value), xs[i]? = some u → w.cell? ⟨g, i, none⟩ = some u := by
  obtain ⟨_, h2⟩ := h
  rcases h2 with ⟨_, h2⟩ | ⟨g, cap, cur, hv, hb, hh, _, _, _, h6⟩
  · omega
  · refine ⟨g, cap, hv, fun i u hu => ?_⟩
    rw [cell_of_row _ _ _ _ _ _ hh]
    rw [← h6, List.getElem?_take] at hu
    split at hu
    · simpa using hu
    · cases hu
theorem Lexed.iter {l : List UInt8} {ts : List (T1 × Nat)} {k : Nat} (h : Lexed l ts k) : ∃ n, iterN l n = some (ts, k) := h
theorem iter_none {l : List UInt8} {n : Nat} (h : iterN l n = none) : ∀ m, n ≤ m → iterN l m = none
  | 0, hm => by have : n = 0 := by omega
                subst this; exact h
  | m + 1, hm => by
    by_cases e : n = m + 1
    · rw [← e]; exact h
    · simp only [iterN, iter_none h m (by omega)]
/-- The text that the law asks about first. -/
def aliveL : List UInt8 := [114, 117, 108, 101, 32, 97, 32, 61, 32, 48, 57, 58, 51, 48, 45, 49, 48, 58, 48, 48, 59, 32, 35, 32, 110]
def aliveTs : List (T1 × Nat) := [(⟨2, 0, [114, 117, 108, 101], 4, 0⟩, 0), (⟨1, 0, [97], 1, 0⟩, 5), (⟨3, 0, [61], 1, 0⟩, 7), (⟨4, 570, [], 5, 0⟩, 9), (⟨3, 0, [45], 1, 0⟩, 14), (⟨4, 600, [], 5, 0⟩, 15), (⟨3, 0, [59], 1, 0⟩, 20)]
set_option maxRecDepth 100000 in
theorem alive_iter : iterN aliveL 7 = some (aliveTs, 25) := by rfl
end Go.Proofs.YtllcpoibnmhghaaGreatDoor

/- The tokens of two texts on two lines; that tokens are told one way alone. -/
namespace Go.Proofs.YtllcpoibnmhghaaGreatDoor
open Go.RowKit Lx

theorem drop_line (x y : List UInt8) (k : Nat) (hk : k ≤ x.length) : (x ++ 10 :: y).drop k = x.drop k ++ 10 :: y := List.drop_append_of_le_length hk
theorem skip_at (x y : List UInt8) (k : Nat) (hk : k ≤ x.length) : k + skipS false ((x ++ 10 :: y).drop k) = if k + skipS false (x.drop k) < x.length then k + skipS false (x.drop k) else x.length + 1 + skipS false y := by
  rw [drop_line x y k hk, skip_line]
  have := skipS_le false (x.drop k)
  simp only [List.length_drop] at this ⊢
  split <;> split <;> omega
/-- The first line's tokens are the text's. -/
theorem lexed_line {x : List UInt8} (y : List UInt8) {ts : List (T1 × Nat)} {k : Nat} (h : Lexed x ts k) : Lexed (x ++ 10 :: y) ts (if k < x.length then k else x.length + 1 + skipS false y) := by
  obtain ⟨n, hn⟩ := h
  refine Lexed.ind (M := fun ts k => Lexed (x ++ 10 :: y) ts (if k < x.length then k else x.length + 1 + skipS false y)) ?_ ?_ n hn
  · have e := skip_at x y 0 (by omega)
    have s := Lexed.start (l := x ++ 10 :: y)
    rw [e] at s
    exact s
  · intro ts k _ hk he ih
    rw [if_pos hk] at ih
    have f := first_fine _ (drop_pos hk) he
    have hle := f.le
    simp only [List.length_drop] at hle
    have e1 : firstT ((x ++ 10 :: y).drop k) = firstT (x.drop k) := by rw [drop_line x y k (by omega), first_line _ y (drop_pos hk)]
    have s := Lexed.step ih (by simp; omega) (by rw [e1]; exact he)
    rw [e1, skip_at x y (k + (firstT (x.drop k)).len) (by omega)] at s
    exact s
/-- Tokens so many bytes on. -/
def onBy (n : Nat) (ts : List (T1 × Nat)) : List (T1 × Nat) := ts.map fun p => (p.1, n + p.2)
theorem drop_second (x y : List UInt8) (k : Nat) : (x ++ 10 :: y).drop (x.length + 1 + k) = y.drop k := by
  rw [show x.length + 1 + k = x.length + (1 + k) by omega, ← List.drop_drop, List.drop_left, show 1 + k = k + 1 by omega]
  rfl
theorem lexed_both {x y : List UInt8} {ts us : List (T1 × Nat)} {k : Nat} (hx : Lexed (x ++ 10 :: y) ts (x.length + 1 + skipS false y)) (h : Lexed y us k) : Lexed (x ++ 10 :: y) (ts ++ onBy (x.length + 1) us) (x.length + 1 + k) := by
  obtain ⟨n, hn⟩ := h
  refine Lexed.ind (M := fun us k => Lexed (x ++ 10 :: y) (ts ++ onBy (x.length + 1) us) (x.length + 1 + k)) ?_ ?_ n hn
  · simp only [onBy, List.map_nil, List.append_nil, Nat.zero_add, List.drop_zero]
    exact hx
  · intro us k _ hk he ih
    have e1 := drop_second x y k
    have s := Lexed.step ih (by simp; omega) (by rw [e1]; exact he)
    rw [e1] at s
    rw [show x.length + 1 + k + (firstT (y.drop k)).len = x.length + 1 + (k + (firstT (y.drop k)).len) by omega, drop_second] at s
    simp only [onBy, List.map_append, List.map_cons, List.map_nil]
    rw [← List.append_assoc, ← Nat.add_assoc (x.length + 1)]
    exact s
/-- Where the tokens end, they end one way alone. -/
theorem lexed_one {l : List UInt8} {ts us : List (T1 × Nat)} {k j : Nat} (h : Lexed l ts k) (h' : Lexed l us j) (hk : ¬ (k < l.length ∧ (firstT (l.drop k)).err = 0)) (hj : ¬ (j < l.length ∧ (firstT (l.drop j)).err = 0)) : ts = us ∧ k = j := by
  obtain ⟨n, hn⟩ := h.iter
  obtain ⟨m, hm⟩ := h'.iter
  have n1 : iterN l (n + 1) = none := by simp only [iterN, hn]; rw [if_neg hk]
  have m1 : iterN l (m + 1) = none := by simp only [iterN, hm]; rw [if_neg hj]
  have e : n = m := by
    rcases Nat.lt_trichotomy n m with g | g | g
    · have := iter_none n1 m (by omega)
      rw [hm] at this; cases this
    · exact g
    · have := iter_none m1 n (by omega)
      rw [hn] at this; cases this
  subst e
  rw [hn] at hm
  have := Option.some.inj hm
  exact ⟨congrArg Prod.fst this, congrArg Prod.snd this⟩
end Go.Proofs.YtllcpoibnmhghaaGreatDoor

/- What lex.Named comes to, and that the law's first question is answered yes. -/
namespace Go.Proofs.YtllcpoibnmhghaaGreatDoor
open Go.RowKit Lx

set_option maxRecDepth 10000 in
set_option maxHeartbeats 400000 in
theorem named_any (s : ByteArray) (l : List UInt8) (hs : s.data.toList = l) (hl : l.length ≤ 9223372036854775806) (w : World) :
    Calls Tryz.prog 61 #[.string s] w fun e w' => e = .returned (.bool (namedL l)) ∧ Below w.heap.size w w' := by
  have hz : s.size = l.length := by rw [← hs, Lib.size_eq]
  have hnil : s.toList.isEmpty = l.isEmpty := by rw [Lib.toList_data, hs]
  have cl := fun w => wordLen_any s l hs hl w
  have cw := fun w => isWord_any s l hs w
  by_cases h0 : l.length = 0
  · have HN : Hid (namedL l = false) := by show namedL l = false; simp [namedL, h0]
    have hq : s.toList.isEmpty = true := by rw [hnil]; simpa using h0
    clear hnil h0
    go_enter Tryz.func61, Tryz.ntmps61
    go_wp2_with (first
      | (go_at_call 79; refine (cl _).mono ?_; rintro e w' ⟨rfl, rfl⟩)
      | (go_at_call 80; refine (cw _).mono ?_; rintro e w1 ⟨rfl, hb1⟩))
    go_ret
    exact ⟨by rw [HN.out]; rfl, Below.refl _ _⟩
  · have hq : s.toList.isEmpty = false := by rw [hnil]; cases l <;> simp at h0 ⊢
    clear hnil
    by_cases h20 : l.length ≤ 20
    · have i20 : (l.length : Int) ≤ 20 := by omega
      by_cases hw : wordLen l = l.length
      · have HN : Hid (namedL l = !isWordL l) := by show namedL l = _; simp [namedL, h0, h20, hw]
        rw [hw] at cl
        clear h0 hw
        generalize isWordL l = b at *
        go_enter Tryz.func61, Tryz.ntmps61
        go_wp2_with (first
          | (go_at_call 79; refine (cl _).mono ?_; rintro e w' ⟨rfl, rfl⟩)
          | (go_at_call 80; refine (cw _).mono ?_; rintro e w1 ⟨rfl, hb1⟩))
        go_ret
        exact ⟨by rw [HN.out]; rfl, hb1⟩
      · have HN : Hid (namedL l = false) := by show namedL l = false; simp [namedL, hw]
        have iw : ((wordLen l : Int) == (l.length : Int)) = false := by simp; omega
        clear h0 hw
        generalize wordLen l = k at *
        go_enter Tryz.func61, Tryz.ntmps61
        go_wp2_with (first
          | (go_at_call 79; refine (cl _).mono ?_; rintro e w' ⟨rfl, rfl⟩)
          | (go_at_call 80; refine (cw _).mono ?_; rintro e w1 ⟨rfl, hb1⟩))
        go_ret
        exact ⟨by rw [HN.out]; rfl, Below.refl _ _⟩
    · have i20 : ¬ (l.length : Int) ≤ 20 := by omega
      have HN : Hid (namedL l = false) := by show namedL l = false; simp [namedL, h20]
      clear h0 h20
      go_enter Tryz.func61, Tryz.ntmps61
      go_wp2_with (first
        | (go_at_call 79; refine (cl _).mono ?_; rintro e w' ⟨rfl, rfl⟩)
        | (go_at_call 80; refine (cw _).mono ?_; rintro e w1 ⟨rfl, hb1⟩))
      go_ret
      exact ⟨by rw [HN.out]; rfl, Below.refl _ _⟩
end Go.Proofs.YtllcpoibnmhghaaGreatDoor

/- A row of tokens in memory. -/
namespace Go.Proofs.YtllcpoibnmhghaaGreatDoor
open Go.RowKit Lx

/-- A row of tokens in memory. -/
def TRow (w : World) (v : Value) (ts : List (T1 × Nat)) : Prop :=
  (∃ c, v = .slice none 0 c ∧ ts = []) ∨ ∃ g o c : Nat, v = .slice (some ⟨g, o, none⟩) ts.length c ∧ ts.length < 9223372036854775808 ∧ ∀ (j : Nat) (t : T1) (k : Nat), ts[j]? = some (t, k) →
    w.cell? ⟨g, o + j * 4, none⟩ = some (.int .i64 t.kind) ∧ w.cell? ⟨g, o + j * 4 + 1, none⟩ = some (.int .i64 t.n) ∧ w.cell? ⟨g, o + j * 4 + 2, none⟩ = some (.int .i64 (k : Int)) ∧ w.cell? ⟨g, o + j * 4 + 3, none⟩ = some (.string ⟨t.text.toArray⟩)
theorem TRow.form {w : World} {v : Value} {l : List (T1 × Nat)} (h : TRow w v l) : ∃ p c, v = .slice p l.length c := by
  rcases h with ⟨c, h, rfl⟩ | ⟨g, o, c, h, _⟩
  · exact ⟨none, c, h⟩
  · exact ⟨_, c, h⟩
theorem eqTok (a b c : Int) (s : ByteArray) (w : World) : (Op.equalIn 10000 101 (.agg #[.int .i64 a, .int .i64 b, .int .i64 c, .string s]) (.agg #[.int .i64 a, .int .i64 b, .int .i64 c, .string s])).run Tryz.prog w = .ok true w := by
  rw [run_equalIn_struct w 9999 101 _ _ (by kernel_rfl) (by kernel_rfl)]
  simp [Program.fieldsOf, Tryz.underlying101, Op.eqFields]
  go_simp
theorem neqTok (a b c : Int) (s : ByteArray) (w : World) : (binOp .neq 101 (.agg #[.int .i64 a, .int .i64 b, .int .i64 c, .string s]) (.agg #[.int .i64 a, .int .i64 b, .int .i64 c, .string s])).run Tryz.prog w = .ok (.bool false) w := by
  rw [run_neq_struct, eqTok]; simp [Result.andThen]
attribute [local go_sem] neqTok
end Go.Proofs.YtllcpoibnmhghaaGreatDoor
