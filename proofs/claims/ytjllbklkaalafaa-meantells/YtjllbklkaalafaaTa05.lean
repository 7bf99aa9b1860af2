/- What lex.first comes to: the token that a text begins with. -/
import Derived.Test.YtjllbklkaalafaaTa04
import Derived.OwnWalk
namespace Go.Proofs.Ytjllbklkaalafaa
open Go.RowKit Lx

/-- The token that a text begins with. -/
def firstT (l : List UInt8) : T1 := if fitsL l dateF then dateT l else if fitsL l timeF then timeT l else if isD (l.getD 0 0) then numT l else if isL (l.getD 0 0) then wordT l else signT l

end Go.Proofs.Ytjllbklkaalafaa

/- The tokens of a text, one behind the other: plain facts. -/
namespace Go.Proofs.Ytjllbklkaalafaa
open Go.RowKit Lx

theorem run_pos {p : UInt8 → Bool} : ∀ {l : List UInt8}, 0 < l.length → p (l.getD 0 0) = true → 1 ≤ runOf p l
  | [], h, _ => by simp at h
  | c :: l, _, h => by
    have hc : p c = true := by simpa using h
    simp [runOf, hc]
theorem wordLen_pos : ∀ {l : List UInt8}, 0 < l.length → isL (l.getD 0 0) = true → 1 ≤ wordLen l
  | [], h, _ => by simp at h
  | c :: l, _, h => by
    have hc : isL c = true := by simpa using h
    simp [wordLen, hc]
/-- What is said of a right token: it has bytes, and what it says stands there. -/
structure Fine (l : List UInt8) (t : T1) : Prop where
  pos : 1 ≤ t.len
  le : t.len ≤ l.length
  text : t.text = l.take t.text.length
  tle : t.text.length ≤ t.len
theorem first_fine (l : List UInt8) (h0 : 0 < l.length) (he : (firstT l).err = 0) : Fine l (firstT l) := by
  unfold firstT at he ⊢
  split at he
  · rename_i hf
    rw [if_pos hf]
    have hlen := (fitsL_at hf).1
    have h10 : 10 ≤ l.length := hlen
    unfold dateT at he ⊢
    split at he
    · rename_i h
      rw [if_pos h]
      exact ⟨by simp, h10, by simp, by simp⟩
    · simp [bad] at he
  · rename_i hf
    rw [if_neg hf]
    split at he
    · rename_i hf2
      rw [if_pos hf2]
      have hlen := (fitsL_at hf2).1
      have h5 : 5 ≤ l.length := hlen
      unfold timeT at he ⊢
      split at he
      · simp [bad] at he
      · rename_i h
        rw [if_neg h]
        exact ⟨by simp, h5, by simp, by simp⟩
    · rename_i hf2
      rw [if_neg hf2]
      split at he
      · rename_i hd
        rw [if_pos hd]
        unfold numT at he ⊢
        split at he
        · simp [bad] at he
        · rename_i h
          rw [if_neg h]
          exact ⟨run_pos h0 hd, runOf_le _ l, by simp, by simp⟩
      · rename_i hd
        rw [if_neg hd]
        split at he
        · rename_i hL
          rw [if_pos hL]
          have hwl := wordLen_le l
          unfold wordT at he ⊢
          split at he
          · simp [bad] at he
          · rename_i h
            rw [if_neg h]
            exact ⟨wordLen_pos h0 hL, hwl, by simp [Nat.min_eq_left hwl], by simp; omega⟩
        · rename_i hL
          rw [if_neg hL]
          unfold signT at he ⊢
          split at he
          · rename_i hp
            rw [if_pos hp]
            have hp' : [46, 46] <+: l := by
              unfold Lib.hasPrefix at hp
              exact List.isPrefixOf_iff_prefix.1 hp
            obtain ⟨r, rfl⟩ := hp'
            exact ⟨by simp, by simp, by simp, by simp⟩
          · rename_i hp
            rw [if_neg hp]
            split at he
            · simp [bad] at he
            · rename_i h
              rw [if_neg h]
              match l, h0 with
              | c :: r, _ => exact ⟨by simp, by simp, by simp, by simp⟩
/-- The tokens, counted. -/
def iterN (l : List UInt8) : Nat → Option (List (T1 × Nat) × Nat)
  | 0 => some ([], 0 + skipS false (l.drop 0))
  | n + 1 => match iterN l n with
    | none => none
    | some (ts, k) => if k < l.length ∧ (firstT (l.drop k)).err = 0 then some (ts ++ [(firstT (l.drop k), k)], k + (firstT (l.drop k)).len + skipS false (l.drop (k + (firstT (l.drop k)).len))) else none
/-- The tokens ahead of a place. -/
def Lexed (l : List UInt8) (ts : List (T1 × Nat)) (k : Nat) : Prop := ∃ n, iterN l n = some (ts, k)
theorem Lexed.start {l : List UInt8} : Lexed l [] (0 + skipS false (l.drop 0)) := ⟨0, rfl⟩
theorem Lexed.step {l : List UInt8} {ts : List (T1 × Nat)} {k : Nat} (h : Lexed l ts k) (hk : k < l.length) (he : (firstT (l.drop k)).err = 0) : Lexed l (ts ++ [(firstT (l.drop k), k)]) (k + (firstT (l.drop k)).len + skipS false (l.drop (k + (firstT (l.drop k)).len))) := by
  obtain ⟨n, hn⟩ := h
  exact ⟨n + 1, by simp only [iterN, hn]; rw [if_pos ⟨hk, he⟩]⟩
theorem Lexed.ind {l : List UInt8} {M : List (T1 × Nat) → Nat → Prop} (h0 : M [] (0 + skipS false (l.drop 0)))
    (hs : ∀ (ts : List (T1 × Nat)) (k : Nat), Lexed l ts k → k < l.length → (firstT (l.drop k)).err = 0 → M ts k → M (ts ++ [(firstT (l.drop k), k)]) (k + (firstT (l.drop k)).len + skipS false (l.drop (k + (firstT (l.drop k)).len)))) :
    ∀ (n : Nat) {ts : List (T1 × Nat)} {k : Nat}, iterN l n = some (ts, k) → M ts k
  | 0, ts, k, hn => by
    simp only [iterN] at hn
    obtain ⟨rfl, rfl⟩ := Prod.mk.inj (Option.some.inj hn)
    exact h0
  | n + 1, ts, k, hn => by
    simp only [iterN] at hn
    split at hn
    · cases hn
    · rename_i ts' k' hn'
      split at hn
      · rename_i hc
        obtain ⟨rfl, rfl⟩ := Prod.mk.inj (Option.some.inj hn)
        exact hs ts' k' ⟨n, hn'⟩ hc.1 hc.2 (Lexed.ind h0 hs n hn')
      · cases hn
theorem drop_pos {l : List UInt8} {k : Nat} (h : k < l.length) : 0 < (l.drop k).length := by simp; omega
theorem Lexed.le {l : List UInt8} {ts : List (T1 × Nat)} {k : Nat} (h : Lexed l ts k) : k ≤ l.length ∧ ts.length ≤ k := by
  obtain ⟨n, hn⟩ := h
  refine Lexed.ind (M := fun ts k => k ≤ l.length ∧ ts.length ≤ k) ?_ ?_ n hn
  · have := skipS_le false (l.drop 0)
    simp at this ⊢
    omega
  · intro ts k _ hk he ih
    have f := first_fine _ (drop_pos hk) he
    have := skipS_le false (l.drop (k + (firstT (l.drop k)).len))
    have h1 := f.pos
    have h2 := f.le
    simp at this h2 ⊢
    omega
end Go.Proofs.Ytjllbklkaalafaa

/- What lex.remarkLength and lex.skip come to. -/
namespace Go.Proofs.Ytjllbklkaalafaa
open Go.RowKit Lx

end Go.Proofs.Ytjllbklkaalafaa

/- What lex.Lex comes to. -/
namespace Go.Proofs.Ytjllbklkaalafaa
open Go.RowKit Lx

/-- The cells of a row of tokens. -/
def flatT : List (T1 × Nat) → List Value
  | [] => []
  | p :: l => .int .i64 p.1.kind :: .int .i64 p.1.n :: .int .i64 (p.2 : Int) :: .string ⟨p.1.text.toArray⟩ :: flatT l
theorem flatT_snoc (t : T1) (k : Nat) : ∀ l : List (T1 × Nat), flatT (l ++ [(t, k)]) = flatT l ++ [.int .i64 t.kind, .int .i64 t.n, .int .i64 (k : Int), .string ⟨t.text.toArray⟩]
  | [] => rfl
  | s :: l => by simp [flatT, flatT_snoc t k l]
theorem owns_below {w w' : World} {base : Nat} {e : TypeId} {size : Nat} {v : Value} {n : Nat} {xs : List Value} (h : w.ownsRow base e size v n xs) (hb : Below w.heap.size w w') : w'.ownsRow base e size v n xs := by
  obtain ⟨h1, h2⟩ := h
  refine ⟨h1, ?_⟩
  rcases h2 with h2 | ⟨g, cap, cur, hv, hg, hh, r⟩
  · exact .inl h2
  · exact .inr ⟨g, cap, cur, hv, hg, (hb.block g (lt_of_block hh)).trans hh, r⟩
theorem owns_type {w : World} {base : Nat} {e : TypeId} {size : Nat} {v : Value} {n : Nat} {xs : List Value} (h : w.ownsRow base e size v n xs) {k : Nat} {c : Array Value} {t : TypeId} (hk : w.heap[k]? = some (.cells c t (0, 0))) (ht : t ≠ e) : v.ownBlock ≠ some k := by
  obtain ⟨_, h2⟩ := h
  rcases h2 with ⟨h2, _⟩ | ⟨g, cap, cur, hv, hg, hh, r⟩
  · subst h2; simp [Value.ownBlock]
  · subst hv
    intro e1
    have e2 : g = k := by simpa [Value.ownBlock] using e1
    subst e2
    rw [hh] at hk
    exact ht (Obj.cells.inj (Option.some.inj hk)).2.1.symm
theorem faultType : Try.prog.underlying 25 = some (.struct (Try.prog.fieldsOf 25)) := by kernel_rfl
theorem owns_setRow {w : World} {base : Nat} {e : TypeId} {size : Nat} {v : Value} {n : Nat} {xs : List Value} (h : w.ownsRow base e size v n xs) {g : Nat} (hg : v.ownBlock ≠ some g) (cs : Array Value) : (w.setRow g cs).ownsRow base e size v n xs := by
  obtain ⟨h1, h2⟩ := h
  refine ⟨h1, ?_⟩
  rcases h2 with h2 | ⟨g', cap, cur, hv, hb, hh, r⟩
  · exact .inl h2
  · refine .inr ⟨g', cap, cur, hv, hb, (setRow_other _ _ _ _ fun e => hg ?_).trans hh, r⟩
    subst hv
    simp [Value.ownBlock, e]
end Go.Proofs.Ytjllbklkaalafaa

/- What lex.Named comes to; how tokens lie in memory; the tokens of one text, told. -/
namespace Go.Proofs.Ytjllbklkaalafaa
open Go.RowKit Lx

def namedL (l : List UInt8) : Bool := decide (l.length ≠ 0) && (decide (l.length ≤ 20) && (decide (wordLen l = l.length) && !isWordL l))
theorem own_slice {w : World} {base : Nat} {e : TypeId} {size : Nat} {v : Value} {n : Nat} {xs : List Value} (h : w.ownsRow base e size v n xs) (hn : 0 < n) :
    ∃ g cap : Nat, v = .slice (some ⟨g, 0, none⟩) n cap ∧ ∀ (i : Nat) (u : Value), xs[i]? = some u → w.cell? ⟨g, i, none⟩ = some u := by
  obtain ⟨_, h2⟩ := h
  rcases h2 with ⟨_, h2⟩ | ⟨g, cap, cur, hv, hb, hh, _, _, _, h6⟩
  · omega
  · refine ⟨g, cap, hv, fun i u hu => ?_⟩
    rw [cell_of_row _ _ _ _ _ _ hh]
    rw [← h6, List.getElem?_take] at hu
    split at hu
    · simpa using hu
    · cases hu
theorem Lexed.iter {l : List UInt8} {ts : List (T1 × Nat)} {k : Nat} (h : Lexed l ts k) : ∃ n, iterN l n = some (ts, k) := h
theorem iter_none {l : List UInt8} {n : Nat} (h : iterN l n = none) : ∀ m, n ≤ m → iterN l m = none
  | 0, hm => by have : n = 0 := by omega
                subst this; exact h
  | m + 1, hm => by
    by_cases e : n = m + 1
    · rw [← e]; exact h
    · simp only [iterN, iter_none h m (by omega)]
/-- The text that the law asks about first. -/
def aliveL : List UInt8 := [114, 117, 108, 101, 32, 97, 32, 61, 32, 48, 57, 58, 51, 48, 45, 49, 48, 58, 48, 48, 59, 32, 35, 32, 110]
def aliveTs : List (T1 × Nat) := [(⟨2, 0, [114, 117, 108, 101], 4, 0⟩, 0), (⟨1, 0, [97], 1, 0⟩, 5), (⟨3, 0, [61], 1, 0⟩, 7), (⟨4, 570, [], 5, 0⟩, 9), (⟨3, 0, [45], 1, 0⟩, 14), (⟨4, 600, [], 5, 0⟩, 15), (⟨3, 0, [59], 1, 0⟩, 20)]
set_option maxRecDepth 100000 in
theorem alive_iter : iterN aliveL 7 = some (aliveTs, 25) := by rfl
end Go.Proofs.Ytjllbklkaalafaa
