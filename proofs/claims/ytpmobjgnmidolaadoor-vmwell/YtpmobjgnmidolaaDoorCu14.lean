/- What strings.Clone and lex.word come to. -/
import Derived.Test.YtpmobjgnmidolaaDoorCu02
import Derived.Lib.Walk
import Derived.Lib.BufferWrite
import Derived.Lib.UnsafeStr
import Derived.Laws.MakeOwn
import Derived.Deep.WholeRow
import Derived.Laws.CopyOwn
import Derived.Lib.Bytealg
namespace Go.Proofs.YtpmobjgnmidolaaDoor
open Go.RowKit Lx

theorem byteInfo : (Tryd.prog.info? 5).map (fun i => (i.zero, i.size, i.bytes)) = some (some (.int .u8 0), 1, 1) := by kernel_rfl
theorem bytesType : Tryd.prog.underlying 144 = some (.slice 5) := by kernel_rfl
theorem pbyteType : Tryd.prog.underlying 171 = some (.pointer 5) := by kernel_rfl
end Go.Proofs.YtpmobjgnmidolaaDoor

/- What lex.word comes to. -/
namespace Go.Proofs.YtpmobjgnmidolaaDoor
open Go.RowKit Lx

theorem cells_eq {w : World} {g : Nat} {c c' : Array Value} {t : TypeId} (hg : w.heap[g]? = some (.cells c t (0, 0))) (e : c = c') : w.heap[g]? = some (.cells c' t (0, 0)) := by rw [hg, e]
end Go.Proofs.YtpmobjgnmidolaaDoor

/- What lex.date comes to. -/
namespace Go.Proofs.YtpmobjgnmidolaaDoor
open Go.RowKit Lx

/-- What a date's number is, and what is wrong with it. -/
def numE (y m d : Int) : Int × Int := if 1 ≤ d ∧ d ≤ Cal.dim y m then (Cal.num y m d, 0) else (0, 3)
def dateT (l : List UInt8) : T1 := if (numE (valL ((l.drop 0).take 4)) (valL ((l.drop 5).take 2)) (valL ((l.drop 8).take 2))).2 = 0 then ⟨5, (numE (valL ((l.drop 0).take 4)) (valL ((l.drop 5).take 2)) (valL ((l.drop 8).take 2))).1, [], 10, 0⟩ else bad 3
theorem numE_err (y m d : Int) : (numE y m d).2 = 0 ∨ (numE y m d).2 = 3 := by
  unfold numE; split <;> simp
/-- So many values, one by one. -/
structure Fr27 (l : List Value) where
  (u0 u1 u2 u3 u4 u5 u6 u7 u8 u9 u10 u11 u12 u13 u14 u15 u16 u17 u18 u19 u20 u21 u22 u23 u24 u25 u26 : Value)
  eq : l = [u0, u1, u2, u3, u4, u5, u6, u7, u8, u9, u10, u11, u12, u13, u14, u15, u16, u17, u18, u19, u20, u21, u22, u23, u24, u25, u26]
set_option maxRecDepth 100000 in
theorem fr27 (l : List Value) (hl : l.length = 27) : Nonempty (Fr27 l) := allL 27 (fun l => Nonempty (Fr27 l)) (fun u0 u1 u2 u3 u4 u5 u6 u7 u8 u9 u10 u11 u12 u13 u14 u15 u16 u17 u18 u19 u20 u21 u22 u23 u24 u25 u26 => ⟨⟨u0, u1, u2, u3, u4, u5, u6, u7, u8, u9, u10, u11, u12, u13, u14, u15, u16, u17, u18, u19, u20, u21, u22, u23, u24, u25, u26, rfl⟩⟩) l hl
def dsp (s : ByteArray) (y m d nv ev : Int) (i : Nat) (v : Value) : Prop := match i with
  | 0 => v = .string s
  | 1 => v = .string (s.extract 0 4)
  | 2 => v = .int .i64 y
  | 3 => v = .string s
  | 4 => v = .string (s.extract 5 7)
  | 5 => v = .int .i64 m
  | 6 => v = .string s
  | 7 => v = .string (s.extract 8 10)
  | 8 => v = .int .i64 d
  | 9 => v = .agg #[.int .i64 y, .int .i64 m, .int .i64 d]
  | 10 => v = .tuple #[.int .i64 nv, .int .i64 ev]
  | 11 => v = .tuple #[.int .i64 nv, .int .i64 ev]
  | 12 => v = .int .i64 nv
  | 13 => v = .int .i64 ev
  | 14 => v = .int .i64 nv
  | 15 => v = .int .i64 ev
  | _ => True

end Go.Proofs.YtpmobjgnmidolaaDoor

/- What strings.IndexByte comes to. -/
namespace Go.Proofs.YtpmobjgnmidolaaDoor
open Go.RowKit Lx

end Go.Proofs.YtpmobjgnmidolaaDoor

/- What strings.HasPrefix comes to. -/
namespace Go.Proofs.YtpmobjgnmidolaaDoor
open Go.RowKit Lx

end Go.Proofs.YtpmobjgnmidolaaDoor

/- What lex.sign comes to. -/
namespace Go.Proofs.YtpmobjgnmidolaaDoor
open Go.RowKit Lx

end Go.Proofs.YtpmobjgnmidolaaDoor

/- What lex.first comes to: the token that a text begins with. -/
namespace Go.Proofs.YtpmobjgnmidolaaDoor
open Go.RowKit Lx

/-- The token that a text begins with. -/
def firstT (l : List UInt8) : T1 := if fitsL l dateF then dateT l else if fitsL l timeF then timeT l else if isD (l.getD 0 0) then numT l else if isL (l.getD 0 0) then wordT l else signT l

end Go.Proofs.YtpmobjgnmidolaaDoor

/- The tokens of a text, one behind the other: plain facts. -/
namespace Go.Proofs.YtpmobjgnmidolaaDoor
open Go.RowKit Lx

theorem run_pos {p : UInt8 → Bool} : ∀ {l : List UInt8}, 0 < l.length → p (l.getD 0 0) = true → 1 ≤ runOf p l
  | [], h, _ => by simp at h
  | c :: l, _, h => by
    have hc : p c = true := by simpa using h
    simp [runOf, hc]
theorem wordLen_pos : ∀ {l : List UInt8}, 0 < l.length → isL (l.getD 0 0) = true → 1 ≤ wordLen l
  | [], h, _ => by simp at h
  | c :: l, _, h => by
    have hc : isL c = true := by simpa using h
    simp [wordLen, hc]
/-- What is said of a right token: it has bytes, and what it says stands there. -/
structure Fine (l : List UInt8) (t : T1) : Prop where
  pos : 1 ≤ t.len
  le : t.len ≤ l.length
  text : t.text = l.take t.text.length
  tle : t.text.length ≤ t.len
theorem first_fine (l : List UInt8) (h0 : 0 < l.length) (he : (firstT l).err = 0) : Fine l (firstT l) := by
  unfold firstT at he ⊢
  split at he
  · rename_i hf
    rw [if_pos hf]
    have hlen := (fitsL_at hf).1
    have h10 : 10 ≤ l.length := hlen
    unfold dateT at he ⊢
    split at he
    · rename_i h
      rw [if_pos h]
      exact ⟨by simp, h10, by simp, by simp⟩
    · simp [bad] at he
  · rename_i hf
    rw [if_neg hf]
    split at he
    · rename_i hf2
      rw [if_pos hf2]
      have hlen := (fitsL_at hf2).1
      have h5 : 5 ≤ l.length := hlen
      unfold timeT at he ⊢
      split at he
      · simp [bad] at he
      · rename_i h
        rw [if_neg h]
        exact ⟨by simp, h5, by simp, by simp⟩
    · rename_i hf2
      rw [if_neg hf2]
      split at he
      · rename_i hd
        rw [if_pos hd]
        unfold numT at he ⊢
        split at he
        · simp [bad] at he
        · rename_i h
          rw [if_neg h]
          exact ⟨run_pos h0 hd, runOf_le _ l, by simp, by simp⟩
      · rename_i hd
        rw [if_neg hd]
        split at he
        · rename_i hL
          rw [if_pos hL]
          have hwl := wordLen_le l
          unfold wordT at he ⊢
          split at he
          · simp [bad] at he
          · rename_i h
            rw [if_neg h]
            exact ⟨wordLen_pos h0 hL, hwl, by simp [Nat.min_eq_left hwl], by simp; omega⟩
        · rename_i hL
          rw [if_neg hL]
          unfold signT at he ⊢
          split at he
          · rename_i hp
            rw [if_pos hp]
            have hp' : [46, 46] <+: l := by
              unfold Lib.hasPrefix at hp
              exact List.isPrefixOf_iff_prefix.1 hp
            obtain ⟨r, rfl⟩ := hp'
            exact ⟨by simp, by simp, by simp, by simp⟩
          · rename_i hp
            rw [if_neg hp]
            split at he
            · simp [bad] at he
            · rename_i h
              rw [if_neg h]
              match l, h0 with
              | c :: r, _ => exact ⟨by simp, by simp, by simp, by simp⟩
/-- The tokens, counted. -/
def iterN (l : List UInt8) : Nat → Option (List (T1 × Nat) × Nat)
  | 0 => some ([], 0 + skipS false (l.drop 0))
  | n + 1 => match iterN l n with
    | none => none
    | some (ts, k) => if k < l.length ∧ (firstT (l.drop k)).err = 0 then some (ts ++ [(firstT (l.drop k), k)], k + (firstT (l.drop k)).len + skipS false (l.drop (k + (firstT (l.drop k)).len))) else none
/-- The tokens ahead of a place. -/
def Lexed (l : List UInt8) (ts : List (T1 × Nat)) (k : Nat) : Prop := ∃ n, iterN l n = some (ts, k)
theorem Lexed.start {l : List UInt8} : Lexed l [] (0 + skipS false (l.drop 0)) := ⟨0, rfl⟩
theorem Lexed.step {l : List UInt8} {ts : List (T1 × Nat)} {k : Nat} (h : Lexed l ts k) (hk : k < l.length) (he : (firstT (l.drop k)).err = 0) : Lexed l (ts ++ [(firstT (l.drop k), k)]) (k + (firstT (l.drop k)).len + skipS false (l.drop (k + (firstT (l.drop k)).len))) := by
  obtain ⟨n, hn⟩ := h
  exact ⟨n + 1, by simp only [iterN, hn]; rw [if_pos ⟨hk, he⟩]⟩
theorem Lexed.ind {l : List UInt8} {M : List (T1 × Nat) → Nat → Prop} (h0 : M [] (0 + skipS false (l.drop 0)))
    (hs : ∀ (ts : List (T1 × Nat)) (k : Nat), Lexed l ts k → k < l.length → (firstT (l.drop k)).err = 0 → M ts k → M (ts ++ [(firstT (l.drop k), k)]) (k + (firstT (l.drop k)).len + skipS false (l.drop (k + (firstT (l.drop k)).len)))) :
    ∀ (n : Nat) {ts : List (T1 × Nat)} {k : Nat}, iterN l n = some (ts, k) → M ts k
  | 0, ts, k, hn => by
    simp only [iterN] at hn
    obtain ⟨rfl, rfl⟩ := Prod.mk.inj (Option.some.inj hn)
    exact h0
  | n + 1, ts, k, hn => by
    simp only [iterN] at hn
    split at hn
    · cases hn
    · rename_i ts' k' hn'
      split at hn
      · rename_i hc
        obtain ⟨rfl, rfl⟩ := Prod.mk.inj (Option.some.inj hn)
        exact hs ts' k' ⟨n, hn'⟩ hc.1 hc.2 (Lexed.ind h0 hs n hn')
      · cases hn
theorem drop_pos {l : List UInt8} {k : Nat} (h : k < l.length) : 0 < (l.drop k).length := by simp; omega
theorem Lexed.le {l : List UInt8} {ts : List (T1 × Nat)} {k : Nat} (h : Lexed l ts k) : k ≤ l.length ∧ ts.length ≤ k := by
  obtain ⟨n, hn⟩ := h
  refine Lexed.ind (M := fun ts k => k ≤ l.length ∧ ts.length ≤ k) ?_ ?_ n hn
  · have := skipS_le false (l.drop 0)
    simp at this ⊢
    omega
  · intro ts k _ hk he ih
    have f := first_fine _ (drop_pos hk) he
    have := skipS_le false (l.drop (k + (firstT (l.drop k)).len))
    have h1 := f.pos
    have h2 := f.le
    simp at this h2 ⊢
    omega
end Go.Proofs.YtpmobjgnmidolaaDoor

/- What lex.remarkLength and lex.skip come to. -/
namespace Go.Proofs.YtpmobjgnmidolaaDoor
open Go.RowKit Lx

end Go.Proofs.YtpmobjgnmidolaaDoor
