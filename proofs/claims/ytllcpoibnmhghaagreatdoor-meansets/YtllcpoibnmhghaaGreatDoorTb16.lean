/- What the document's Equal comes to, of one expression that lies in memory twice. -/
import Derived.Test.YtllcpoibnmhghaaGreatDoorTb13
import Derived.Test.YtllcpoibnmhghaaGreatDoorTb11
namespace Go.Proofs.YtllcpoibnmhghaaGreatDoor
open Go.RowKit Lx

/-- So many values, one by one. -/
structure Fs60 (l : List Value) where
  (u0 u1 u2 u3 u4 u5 u6 u7 u8 u9 u10 u11 u12 u13 u14 u15 u16 u17 u18 u19 u20 u21 u22 u23 u24 u25 u26 u27 u28 u29 u30 u31 u32 u33 u34 u35 u36 u37 u38 u39 u40 u41 u42 u43 u44 u45 u46 u47 u48 u49 u50 u51 u52 u53 u54 u55 u56 u57 u58 u59 : Value)
  eq : l = [u0, u1, u2, u3, u4, u5, u6, u7, u8, u9, u10, u11, u12, u13, u14, u15, u16, u17, u18, u19, u20, u21, u22, u23, u24, u25, u26, u27, u28, u29, u30, u31, u32, u33, u34, u35, u36, u37, u38, u39, u40, u41, u42, u43, u44, u45, u46, u47, u48, u49, u50, u51, u52, u53, u54, u55, u56, u57, u58, u59]
set_option maxRecDepth 100000 in
theorem fs60 (l : List Value) (hl : l.length = 60) : Nonempty (Fs60 l) := allL 60 (fun l => Nonempty (Fs60 l)) (fun u0 u1 u2 u3 u4 u5 u6 u7 u8 u9 u10 u11 u12 u13 u14 u15 u16 u17 u18 u19 u20 u21 u22 u23 u24 u25 u26 u27 u28 u29 u30 u31 u32 u33 u34 u35 u36 u37 u38 u39 u40 u41 u42 u43 u44 u45 u46 u47 u48 u49 u50 u51 u52 u53 u54 u55 u56 u57 u58 u59 => ⟨⟨u0, u1, u2, u3, u4, u5, u6, u7, u8, u9, u10, u11, u12, u13, u14, u15, u16, u17, u18, u19, u20, u21, u22, u23, u24, u25, u26, u27, u28, u29, u30, u31, u32, u33, u34, u35, u36, u37, u38, u39, u40, u41, u42, u43, u44, u45, u46, u47, u48, u49, u50, u51, u52, u53, u54, u55, u56, u57, u58, u59, rfl⟩⟩) l hl
/-- What a value of the region is, once it is there. -/
def esp (bA bB ga oa ca gb ob cb n j : Nat) (k0 k1 k2 : Int) (nm : ByteArray) (pa pb : Option Addr) (m sa sb : Nat) (q : Nat) (x : Value) : Prop := match q with
  | 0 => x = .pointer (some ⟨bA, 4, none⟩)
  | 1 => x = .slice (some ⟨ga, oa, none⟩) n ca
  | 2 => x = .int .i64 (j : Int)
  | 3 => x = .pointer (some ⟨ga, oa + j * 5, none⟩)
  | 4 => x = .agg #[.int .i64 k0, .int .i64 k1, .int .i64 k2, .string nm, .slice pa m sa]
  | 5 => x = .pointer (some ⟨bB, 4, none⟩)
  | 6 => x = .slice (some ⟨gb, ob, none⟩) n cb
  | 7 => x = .int .i64 (j : Int)
  | 8 => x = .pointer (some ⟨gb, ob + j * 5, none⟩)
  | 9 => x = .agg #[.int .i64 k0, .int .i64 k1, .int .i64 k2, .string nm, .slice pb m sb]
  | 10 => x = .bool true
  | 11 => x = .bool false
  | _ => True

end Go.Proofs.YtllcpoibnmhghaaGreatDoor
