/- What the document's Same comes to, of rules that lie in memory twice. -/
import Derived.Test.YtllcpoibnmhghaaGreatDoorTb16
import Derived.Test.YtllcpoibnmhghaaGreatDoorTb13
namespace Go.Proofs.YtllcpoibnmhghaaGreatDoor
open Go.RowKit Lx

theorem flatR_at : ∀ (us : List (Ru × Value)) (j : Nat) (p : Ru × Value), us[j]? = some p → (flatR us)[j * 6]? = some (.string ⟨p.1.1.toArray⟩) ∧ (flatR us)[j * 6 + 1]? = some (.int .i64 p.1.2.kind) ∧ (flatR us)[j * 6 + 2]? = some (.int .i64 p.1.2.a) ∧ (flatR us)[j * 6 + 3]? = some (.int .i64 p.1.2.b) ∧ (flatR us)[j * 6 + 4]? = some (.string ⟨p.1.2.name.toArray⟩) ∧ (flatR us)[j * 6 + 5]? = some p.2
  | [], j, p, h => by simp at h
  | q :: us, 0, p, h => by
    have : q = p := by simpa using h
    subst this
    simp [flatR]
  | q :: us, j + 1, p, h => by
    have := flatR_at us j p (by simpa using h)
    have e : (j + 1) * 6 = j * 6 + 1 + 1 + 1 + 1 + 1 + 1 := by omega
    rw [e]
    simpa [flatR] using this
/-- A row of rules in memory. -/
def RRow (w : World) (v : Value) (us : List (Ru × Value)) : Prop :=
  (us = [] ∧ ∃ p c, v = .slice p 0 c) ∨ ∃ g o c : Nat, v = .slice (some ⟨g, o, none⟩) us.length c ∧ us.length < 9223372036854775808 ∧ ∀ (j : Nat) (p : Ru × Value), us[j]? = some p →
    w.cell? ⟨g, o + j * 6, none⟩ = some (.string ⟨p.1.1.toArray⟩) ∧ w.cell? ⟨g, o + j * 6 + 1, none⟩ = some (.int .i64 p.1.2.kind) ∧ w.cell? ⟨g, o + j * 6 + 2, none⟩ = some (.int .i64 p.1.2.a) ∧ w.cell? ⟨g, o + j * 6 + 3, none⟩ = some (.int .i64 p.1.2.b) ∧
    w.cell? ⟨g, o + j * 6 + 4, none⟩ = some (.string ⟨p.1.2.name.toArray⟩) ∧ w.cell? ⟨g, o + j * 6 + 5, none⟩ = some p.2
theorem RRow.below {w w' : World} {v : Value} {us : List (Ru × Value)} (h : RRow w v us) (hb : Below w.heap.size w w') : RRow w' v us := by
  rcases h with h | ⟨g, o, c, hv, hl, hc⟩
  · exact .inl h
  · refine .inr ⟨g, o, c, hv, hl, fun j p hj => ?_⟩
    obtain ⟨c0, c1, c2, c3, c4, c5⟩ := hc j p hj
    exact ⟨(hb.cell (block_lt_of_cell c0)).trans c0, (hb.cell (block_lt_of_cell c1)).trans c1, (hb.cell (block_lt_of_cell c2)).trans c2, (hb.cell (block_lt_of_cell c3)).trans c3, (hb.cell (block_lt_of_cell c4)).trans c4, (hb.cell (block_lt_of_cell c5)).trans c5⟩
theorem rrow_of_owns {w : World} {base : Nat} {v : Value} {us : List (Ru × Value)} (h : w.ownsRow base 38 6 v us.length (flatR us)) (hl : us.length < 9223372036854775808) : RRow w v us := by
  by_cases h0 : us.length = 0
  · obtain ⟨p, c, rfl⟩ := row_form h
    exact .inl ⟨List.length_eq_zero_iff.1 h0, p, c, by rw [h0]⟩
  · obtain ⟨g, cap, hv, hc⟩ := own_slice h (by omega)
    refine .inr ⟨g, 0, cap, hv, hl, fun j p hj => ?_⟩
    obtain ⟨f0, f1, f2, f3, f4, f5⟩ := flatR_at us j p hj
    rw [Nat.zero_add]
    exact ⟨hc _ _ f0, hc _ _ f1, hc _ _ f2, hc _ _ f3, hc _ _ f4, hc _ _ f5⟩
/-- Every rule's kids lie in memory. -/
def KidsR (B : Nat → Prop) (w : World) (us : List (Ru × Value)) : Prop := ∀ p ∈ us, ∃ d, KidsAt B d w p.2 p.1.2.kids
/-- So many values, one by one. -/
structure Fs42 (l : List Value) where
  (u0 u1 u2 u3 u4 u5 u6 u7 u8 u9 u10 u11 u12 u13 u14 u15 u16 u17 u18 u19 u20 u21 u22 u23 u24 u25 u26 u27 u28 u29 u30 u31 u32 u33 u34 u35 u36 u37 u38 u39 u40 u41 : Value)
  eq : l = [u0, u1, u2, u3, u4, u5, u6, u7, u8, u9, u10, u11, u12, u13, u14, u15, u16, u17, u18, u19, u20, u21, u22, u23, u24, u25, u26, u27, u28, u29, u30, u31, u32, u33, u34, u35, u36, u37, u38, u39, u40, u41]
set_option maxRecDepth 100000 in
theorem fs42 (l : List Value) (hl : l.length = 42) : Nonempty (Fs42 l) := allL 42 (fun l => Nonempty (Fs42 l)) (fun u0 u1 u2 u3 u4 u5 u6 u7 u8 u9 u10 u11 u12 u13 u14 u15 u16 u17 u18 u19 u20 u21 u22 u23 u24 u25 u26 u27 u28 u29 u30 u31 u32 u33 u34 u35 u36 u37 u38 u39 u40 u41 => ⟨⟨u0, u1, u2, u3, u4, u5, u6, u7, u8, u9, u10, u11, u12, u13, u14, u15, u16, u17, u18, u19, u20, u21, u22, u23, u24, u25, u26, u27, u28, u29, u30, u31, u32, u33, u34, u35, u36, u37, u38, u39, u40, u41, rfl⟩⟩) l hl
/-- What a value of the region is, once it is there. -/
def msp (ga oa ca gb ob cb n j : Nat) (nm : ByteArray) (k0 k1 k2 : Int) (xn : ByteArray) (pa pb : Option Addr) (m sa sb : Nat) (q : Nat) (x : Value) : Prop := match q with
  | 0 => x = .slice (some ⟨ga, oa, none⟩) n ca
  | 1 => x = .int .i64 (j : Int)
  | 2 => x = .pointer (some ⟨ga, oa + j * 6, none⟩)
  | 3 => x = .pointer (some ⟨ga, oa + j * 6, none⟩)
  | 4 => x = .string nm
  | 5 => x = .slice (some ⟨gb, ob, none⟩) n cb
  | 6 => x = .int .i64 (j : Int)
  | 7 => x = .pointer (some ⟨gb, ob + j * 6, none⟩)
  | 8 => x = .pointer (some ⟨gb, ob + j * 6, none⟩)
  | 9 => x = .string nm
  | 10 => x = .bool false
  | 11 => x = .bool false
  | 12 => x = .slice (some ⟨ga, oa, none⟩) n ca
  | 13 => x = .int .i64 (j : Int)
  | 14 => x = .pointer (some ⟨ga, oa + j * 6, none⟩)
  | 15 => x = .pointer (some ⟨ga, oa + j * 6 + 1, none⟩)
  | 16 => x = .agg #[.int .i64 k0, .int .i64 k1, .int .i64 k2, .string xn, .slice pa m sa]
  | 17 => x = .slice (some ⟨gb, ob, none⟩) n cb
  | 18 => x = .int .i64 (j : Int)
  | 19 => x = .pointer (some ⟨gb, ob + j * 6, none⟩)
  | 20 => x = .pointer (some ⟨gb, ob + j * 6 + 1, none⟩)
  | 21 => x = .agg #[.int .i64 k0, .int .i64 k1, .int .i64 k2, .string xn, .slice pb m sb]
  | 22 => x = .bool true
  | 23 => x = .bool false
  | 24 => x = .bool false
  | _ => True

end Go.Proofs.YtllcpoibnmhghaaGreatDoor
