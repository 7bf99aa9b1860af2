/- What term comes to, where factor comes to what it should. -/
import Derived.Test.YtgjggpgkcbekoadRa15
namespace Go.Proofs.Ytgjggpgkcbekoad
open Go.RowKit Lx
variable {all : List Tk} {E g : Nat} {v : Value} {w : World} {i n : Nat}

/-- So many values, one by one. -/
structure Fs18 (l : List Value) where
  (u0 u1 u2 u3 u4 u5 u6 u7 u8 u9 u10 u11 u12 u13 u14 u15 u16 u17 : Value)
  eq : l = [u0, u1, u2, u3, u4, u5, u6, u7, u8, u9, u10, u11, u12, u13, u14, u15, u16, u17]
set_option maxRecDepth 100000 in
theorem fs18 (l : List Value) (hl : l.length = 18) : Nonempty (Fs18 l) := allL 18 (fun l => Nonempty (Fs18 l)) (fun u0 u1 u2 u3 u4 u5 u6 u7 u8 u9 u10 u11 u12 u13 u14 u15 u16 u17 => ⟨⟨u0, u1, u2, u3, u4, u5, u6, u7, u8, u9, u10, u11, u12, u13, u14, u15, u16, u17, rfl⟩⟩) l hl

/-- What a value of the region is, once it is there: the variable's expression; what the second side reads; the two together. -/
def psp (g : Nat) (d : Nat) (V : Value) (B : Nat → Prop) (t e6 : Ex) (q : Nat) (x : Value) (W : World) : Prop := match q with
  | 0 => x = .pointer (some ⟨g, 0, none⟩)
  | 1 => x = V
  | 2 => x = .pointer (some ⟨g, 0, none⟩)
  | 3 => x = .int .i64 (d : Int)
  | 4 => ∃ (p : Option Addr) (c dd : Nat), x = exV t (.slice p t.kids.length c) ∧ KidsAt B dd W (.slice p t.kids.length c) t.kids
  | 5 => ∃ (p : Option Addr) (c dd : Nat), x = exV e6 (.slice p e6.kids.length c) ∧ KidsAt B dd W (.slice p e6.kids.length c) e6.kids
  | _ => True
theorem psp_kept {B : Nat → Prop} {d : Nat} {V : Value} {t e6 : Ex} {W W' : World} (hk : ∀ k, B k → k < W.heap.size → W'.heap[k]? = W.heap[k]?) : ∀ (q : Nat) (x : Value), psp g d V B t e6 q x W → psp g d V B t e6 q x W'
  | 0, _, h => h
  | 1, _, h => h
  | 2, _, h => h
  | 3, _, h => h
  | 4, _, h => by
    obtain ⟨p, c, dd, h1, h2⟩ := h
    exact ⟨p, c, dd, h1, h2.kept hk⟩
  | 5, _, h => by
    obtain ⟨p, c, dd, h1, h2⟩ := h
    exact ⟨p, c, dd, h1, h2.kept hk⟩
  | _ + 6, _, _ => trivial
/-- A frame's slot. -/
theorem gdv {A : Act} {s : Nat} {x : Value} (h : A.tmps.getD s undef = x) : A.tmps[s]?.getD undef = x := (gd A s).trans h
end Go.Proofs.Ytgjggpgkcbekoad
