/- What thing comes to, where what it calls comes to what it should. -/
import Derived.Test.YtpmobjgnmidolaaDoorCu17
namespace Go.Proofs.YtpmobjgnmidolaaDoor
open Go.RowKit Lx
variable {all : List Tk} {E g : Nat} {v : Value} {w : World} {i n : Nat}

end Go.Proofs.YtpmobjgnmidolaaDoor

/- What factor comes to, where thing comes to what it should. -/
namespace Go.Proofs.YtpmobjgnmidolaaDoor
open Go.RowKit Lx
variable {all : List Tk} {E g : Nat} {v : Value} {w : World} {i n : Nat}

/-- Where the reader stands, out of memory. -/
def posOf (g : Nat) (w : World) : Nat := match w.heap[g]? with
  | some (.cells cs _ _) => (intOf (cs.getD 1 undef)).toNat
  | _ => 0
theorem shiftAt_drop (j : Nat) : shiftAt (all.drop j) = all.drop (shAt all (j + 1)) := by
  unfold shiftAt shAt
  rw [tail_drop]
  split
  · rw [tail_drop]
  · rfl
/-- What comes behind a shift's number. -/
def afterShift (E d : Nat) (all : List Tk) (e : Ex) (n : Nat) : Except (Int × Nat) (Int × Nat) → Res
  | .error q => .error q
  | .ok (m, j) => andThen (endedP E ⟨9, m, 0, [], [e]⟩ (all.drop j) n) fun e r n => rd E 5 d e r n
theorem rd5_shift (d : Nat) (e : Ex) (j n : Nat) (h : isT wShift (all.drop j) = true) : rd E 5 d e (all.drop j) n = afterShift E d all e n (shiftX all E (j + 1)) := by
  rw [rd_5, if_pos h, shiftAt_drop, tail_drop]
  unfold shiftX
  split
  · rfl
  split
  · rfl
  · unfold afterShift
    rw [tail_drop]
theorem rd5_no (d : Nat) (e : Ex) (j n : Nat) (h : isT wShift (all.drop j) = false) : rd E 5 d e (all.drop j) n = .ok (e, all.drop j, n) := by
  rw [rd_5, if_neg (by simp [h])]
/-- An expression in a variable of the call's own, with its kids elsewhere. -/
structure VarE (w0 w : World) (b : Nat) (e : Ex) : Prop where
  ex : ∃ (p : Option Addr) (c d : Nat), w.heap[b]? = some (.cells #[.int .i64 e.kind, .int .i64 e.a, .int .i64 e.b, .string ⟨e.name.toArray⟩, .slice p e.kids.length c] 50 (0, 0)) ∧ KidsAt (fun k => w0.heap.size + 1 ≤ k ∧ k ≠ b) d w (.slice p e.kids.length c) e.kids
theorem VarE.kept {w0 w w' : World} {b : Nat} {e : Ex} (h : VarE w0 w b e) (hk : Kept g w w') (hb : b ≠ g) (hg : g < w0.heap.size) : VarE w0 w' b e := by
  obtain ⟨p, c, d, h1, h2⟩ := h.ex
  exact ⟨p, c, d, hk.at h1 hb, hk.kids (fun k hk => by omega) h2⟩

end Go.Proofs.YtpmobjgnmidolaaDoor

/- What term comes to, where factor comes to what it should. -/
namespace Go.Proofs.YtpmobjgnmidolaaDoor
open Go.RowKit Lx
variable {all : List Tk} {E g : Nat} {v : Value} {w : World} {i n : Nat}

/-- So many values, one by one. -/
structure Fs18 (l : List Value) where
  (u0 u1 u2 u3 u4 u5 u6 u7 u8 u9 u10 u11 u12 u13 u14 u15 u16 u17 : Value)
  eq : l = [u0, u1, u2, u3, u4, u5, u6, u7, u8, u9, u10, u11, u12, u13, u14, u15, u16, u17]
set_option maxRecDepth 100000 in
theorem fs18 (l : List Value) (hl : l.length = 18) : Nonempty (Fs18 l) := allL 18 (fun l => Nonempty (Fs18 l)) (fun u0 u1 u2 u3 u4 u5 u6 u7 u8 u9 u10 u11 u12 u13 u14 u15 u16 u17 => ⟨⟨u0, u1, u2, u3, u4, u5, u6, u7, u8, u9, u10, u11, u12, u13, u14, u15, u16, u17, rfl⟩⟩) l hl

/-- What a value of the region is, once it is there: the variable's expression; what the second side reads; the two together. -/
def psp (g : Nat) (d : Nat) (V : Value) (B : Nat → Prop) (t e6 : Ex) (q : Nat) (x : Value) (W : World) : Prop := match q with
  | 0 => x = .pointer (some ⟨g, 0, none⟩)
  | 1 => x = V
  | 2 => x = .pointer (some ⟨g, 0, none⟩)
  | 3 => x = .int .i64 (d : Int)
  | 4 => ∃ (p : Option Addr) (c dd : Nat), x = exV t (.slice p t.kids.length c) ∧ KidsAt B dd W (.slice p t.kids.length c) t.kids
  | 5 => ∃ (p : Option Addr) (c dd : Nat), x = exV e6 (.slice p e6.kids.length c) ∧ KidsAt B dd W (.slice p e6.kids.length c) e6.kids
  | _ => True
theorem psp_kept {B : Nat → Prop} {d : Nat} {V : Value} {t e6 : Ex} {W W' : World} (hk : ∀ k, B k → k < W.heap.size → W'.heap[k]? = W.heap[k]?) : ∀ (q : Nat) (x : Value), psp g d V B t e6 q x W → psp g d V B t e6 q x W'
  | 0, _, h => h
  | 1, _, h => h
  | 2, _, h => h
  | 3, _, h => h
  | 4, _, h => by
    obtain ⟨p, c, dd, h1, h2⟩ := h
    exact ⟨p, c, dd, h1, h2.kept hk⟩
  | 5, _, h => by
    obtain ⟨p, c, dd, h1, h2⟩ := h
    exact ⟨p, c, dd, h1, h2.kept hk⟩
  | _ + 6, _, _ => trivial
/-- A frame's slot. -/
theorem gdv {A : Act} {s : Nat} {x : Value} (h : A.tmps.getD s undef = x) : A.tmps[s]?.getD undef = x := (gd A s).trans h
end Go.Proofs.YtpmobjgnmidolaaDoor
