/- What sum comes to, where term comes to what it should. -/
import Derived.Test.YtpmobjgnmidolaaDoorCu18
import Derived.Test.YtpmobjgnmidolaaDoorCu01
namespace Go.Proofs.YtpmobjgnmidolaaDoor
open Go.RowKit Lx
variable {all : List Tk} {E g : Nat} {v : Value} {w : World} {i n : Nat}

/-- So many values, one by one. -/
structure Fs28 (l : List Value) where
  (u0 u1 u2 u3 u4 u5 u6 u7 u8 u9 u10 u11 u12 u13 u14 u15 u16 u17 u18 u19 u20 u21 u22 u23 u24 u25 u26 u27 : Value)
  eq : l = [u0, u1, u2, u3, u4, u5, u6, u7, u8, u9, u10, u11, u12, u13, u14, u15, u16, u17, u18, u19, u20, u21, u22, u23, u24, u25, u26, u27]
set_option maxRecDepth 100000 in
theorem fs28 (l : List Value) (hl : l.length = 28) : Nonempty (Fs28 l) := allL 28 (fun l => Nonempty (Fs28 l)) (fun u0 u1 u2 u3 u4 u5 u6 u7 u8 u9 u10 u11 u12 u13 u14 u15 u16 u17 u18 u19 u20 u21 u22 u23 u24 u25 u26 u27 => ⟨⟨u0, u1, u2, u3, u4, u5, u6, u7, u8, u9, u10, u11, u12, u13, u14, u15, u16, u17, u18, u19, u20, u21, u22, u23, u24, u25, u26, u27, rfl⟩⟩) l hl
end Go.Proofs.YtpmobjgnmidolaaDoor

/- The reader whole; how deep an expression is. -/
namespace Go.Proofs.YtpmobjgnmidolaaDoor
open Go.RowKit Lx
variable {all : List Tk} {E g : Nat} {v : Value} {w : World} {i n : Nat}

end Go.Proofs.YtpmobjgnmidolaaDoor

/- What height comes to. -/
namespace Go.Proofs.YtpmobjgnmidolaaDoor
open Go.RowKit Lx

end Go.Proofs.YtpmobjgnmidolaaDoor
