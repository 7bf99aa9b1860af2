/- The law MaskShift, walked out of the contracts. -/
import Derived.Test.YtlpnkljcgkfnkabDoorAliveA
import Derived.Test.YtlpnkljcgkfnkabDoorShiftFacts
import Derived.Test.YtlpnkljcgkfnkabDoorFlow
namespace Go.Proofs.YtlpnkljcgkfnkabDoor
open Go.RowKit Msk

theorem list96 (l : List Value) (h : l.length = 96) : ∃ u0 u1 u2 u3 u4 u5 u6 u7 u8 u9 u10 u11 u12 u13 u14 u15 u16 u17 u18 u19 u20 u21 u22 u23 u24 u25 u26 u27 u28 u29 u30 u31 u32 u33 u34 u35 u36 u37 u38 u39 u40 u41 u42 u43 u44 u45 u46 u47 u48 u49 u50 u51 u52 u53 u54 u55 u56 u57 u58 u59 u60 u61 u62 u63 u64 u65 u66 u67 u68 u69 u70 u71 u72 u73 u74 u75 u76 u77 u78 u79 u80 u81 u82 u83 u84 u85 u86 u87 u88 u89 u90 u91 u92 u93 u94 u95 : Value, l = [u0, u1, u2, u3, u4, u5, u6, u7, u8, u9, u10, u11, u12, u13, u14, u15, u16, u17, u18, u19, u20, u21, u22, u23, u24, u25, u26, u27, u28, u29, u30, u31, u32, u33, u34, u35, u36, u37, u38, u39, u40, u41, u42, u43, u44, u45, u46, u47, u48, u49, u50, u51, u52, u53, u54, u55, u56, u57, u58, u59, u60, u61, u62, u63, u64, u65, u66, u67, u68, u69, u70, u71, u72, u73, u74, u75, u76, u77, u78, u79, u80, u81, u82, u83, u84, u85, u86, u87, u88, u89, u90, u91, u92, u93, u94, u95] := by
  obtain ⟨u0, l0, rfl⟩ := List.exists_cons_of_length_eq_add_one (h)
  have h1 : l0.length = 95 := by simpa using h
  obtain ⟨u1, l1, rfl⟩ := List.exists_cons_of_length_eq_add_one (h1)
  have h2 : l1.length = 94 := by simpa using h1
  obtain ⟨u2, l2, rfl⟩ := List.exists_cons_of_length_eq_add_one (h2)
  have h3 : l2.length = 93 := by simpa using h2
  obtain ⟨u3, l3, rfl⟩ := List.exists_cons_of_length_eq_add_one (h3)
  have h4 : l3.length = 92 := by simpa using h3
  obtain ⟨u4, l4, rfl⟩ := List.exists_cons_of_length_eq_add_one (h4)
  have h5 : l4.length = 91 := by simpa using h4
  obtain ⟨u5, l5, rfl⟩ := List.exists_cons_of_length_eq_add_one (h5)
  have h6 : l5.length = 90 := by simpa using h5
  obtain ⟨u6, l6, rfl⟩ := List.exists_cons_of_length_eq_add_one (h6)
  have h7 : l6.length = 89 := by simpa using h6
  obtain ⟨u7, l7, rfl⟩ := List.exists_cons_of_length_eq_add_one (h7)
  have h8 : l7.length = 88 := by simpa using h7
  obtain ⟨u8, l8, rfl⟩ := List.exists_cons_of_length_eq_add_one (h8)
  have h9 : l8.length = 87 := by simpa using h8
  obtain ⟨u9, l9, rfl⟩ := List.exists_cons_of_length_eq_add_one (h9)
  have h10 : l9.length = 86 := by simpa using h9
  obtain ⟨u10, l10, rfl⟩ := List.exists_cons_of_length_eq_add_one (h10)
  have h11 : l10.length = 85 := by simpa using h10
  obtain ⟨u11, l11, rfl⟩ := List.exists_cons_of_length_eq_add_one (h11)
  have h12 : l11.length = 84 := by simpa using h11
  obtain ⟨u12, l12, rfl⟩ := List.exists_cons_of_length_eq_add_one (h12)
  have h13 : l12.length = 83 := by simpa using h12
  obtain ⟨u13, l13, rfl⟩ := List.exists_cons_of_length_eq_add_one (h13)
  have h14 : l13.length = 82 := by simpa using h13
  obtain ⟨u14, l14, rfl⟩ := List.exists_cons_of_length_eq_add_one (h14)
  have h15 : l14.length = 81 := by simpa using h14
  obtain ⟨u15, l15, rfl⟩ := List.exists_cons_of_length_eq_add_one (h15)
  have h16 : l15.length = 80 := by simpa using h15
  obtain ⟨u16, l16, rfl⟩ := List.exists_cons_of_length_eq_add_one (h16)
  have h17 : l16.length = 79 := by simpa using h16
  obtain ⟨u17, l17, rfl⟩ := List.exists_cons_of_length_eq_add_one (h17)
  have h18 : l17.length = 78 := by simpa using h17
  obtain ⟨u18, l18, rfl⟩ := List.exists_cons_of_length_eq_add_one (h18)
  have h19 : l18.length = 77 := by simpa using h18
  obtain ⟨u19, l19, rfl⟩ := List.exists_cons_of_length_eq_add_one (h19)
  have h20 : l19.length = 76 := by simpa using h19
  obtain ⟨u20, l20, rfl⟩ := List.exists_cons_of_length_eq_add_one (h20)
  have h21 : l20.length = 75 := by simpa using h20
  obtain ⟨u21, l21, rfl⟩ := List.exists_cons_of_length_eq_add_one (h21)
  have h22 : l21.length = 74 := by simpa using h21
  obtain ⟨u22, l22, rfl⟩ := List.exists_cons_of_length_eq_add_one (h22)
  have h23 : l22.length = 73 := by simpa using h22
  obtain ⟨u23, l23, rfl⟩ := List.exists_cons_of_length_eq_add_one (h23)
  have h24 : l23.length = 72 := by simpa using h23
  obtain ⟨u24, l24, rfl⟩ := List.exists_cons_of_length_eq_add_one (h24)
  have h25 : l24.length = 71 := by simpa using h24
  obtain ⟨u25, l25, rfl⟩ := List.exists_cons_of_length_eq_add_one (h25)
  have h26 : l25.length = 70 := by simpa using h25
  obtain ⟨u26, l26, rfl⟩ := List.exists_cons_of_length_eq_add_one (h26)
  have h27 : l26.length = 69 := by simpa using h26
  obtain ⟨u27, l27, rfl⟩ := List.exists_cons_of_length_eq_add_one (h27)
  have h28 : l27.length = 68 := by simpa using h27
  obtain ⟨u28, l28, rfl⟩ := List.exists_cons_of_length_eq_add_one (h28)
  have h29 : l28.length = 67 := by simpa using h28
  obtain ⟨u29, l29, rfl⟩ := List.exists_cons_of_length_eq_add_one (h29)
  have h30 : l29.length = 66 := by simpa using h29
  obtain ⟨u30, l30, rfl⟩ := List.exists_cons_of_length_eq_add_one (h30)
  have h31 : l30.length = 65 := by simpa using h30
  obtain ⟨u31, l31, rfl⟩ := List.exists_cons_of_length_eq_add_one (h31)
  have h32 : l31.length = 64 := by simpa using h31
  obtain ⟨u32, l32, rfl⟩ := List.exists_cons_of_length_eq_add_one (h32)
  have h33 : l32.length = 63 := by simpa using h32
  obtain ⟨u33, l33, rfl⟩ := List.exists_cons_of_length_eq_add_one (h33)
  have h34 : l33.length = 62 := by simpa using h33
  obtain ⟨u34, l34, rfl⟩ := List.exists_cons_of_length_eq_add_one (h34)
  have h35 : l34.length = 61 := by simpa using h34
  obtain ⟨u35, l35, rfl⟩ := List.exists_cons_of_length_eq_add_one (h35)
  have h36 : l35.length = 60 := by simpa using h35
  obtain ⟨u36, l36, rfl⟩ := List.exists_cons_of_length_eq_add_one (h36)
  have h37 : l36.length = 59 := by simpa using h36
  obtain ⟨u37, l37, rfl⟩ := List.exists_cons_of_length_eq_add_one (h37)
  have h38 : l37.length = 58 := by simpa using h37
  obtain ⟨u38, l38, rfl⟩ := List.exists_cons_of_length_eq_add_one (h38)
  have h39 : l38.length = 57 := by simpa using h38
  obtain ⟨u39, l39, rfl⟩ := List.exists_cons_of_length_eq_add_one (h39)
  have h40 : l39.length = 56 := by simpa using h39
  obtain ⟨u40, l40, rfl⟩ := List.exists_cons_of_length_eq_add_one (h40)
  have h41 : l40.length = 55 := by simpa using h40
  obtain ⟨u41, l41, rfl⟩ := List.exists_cons_of_length_eq_add_one (h41)
  have h42 : l41.length = 54 := by simpa using h41
  obtain ⟨u42, l42, rfl⟩ := List.exists_cons_of_length_eq_add_one (h42)
  have h43 : l42.length = 53 := by simpa using h42
  obtain ⟨u43, l43, rfl⟩ := List.exists_cons_of_length_eq_add_one (h43)
  have h44 : l43.length = 52 := by simpa using h43
  obtain ⟨u44, l44, rfl⟩ := List.exists_cons_of_length_eq_add_one (h44)
  have h45 : l44.length = 51 := by simpa using h44
  obtain ⟨u45, l45, rfl⟩ := List.exists_cons_of_length_eq_add_one (h45)
  have h46 : l45.length = 50 := by simpa using h45
  obtain ⟨u46, l46, rfl⟩ := List.exists_cons_of_length_eq_add_one (h46)
  have h47 : l46.length = 49 := by simpa using h46
  obtain ⟨u47, l47, rfl⟩ := List.exists_cons_of_length_eq_add_one (h47)
  have h48 : l47.length = 48 := by simpa using h47
  obtain ⟨u48, l48, rfl⟩ := List.exists_cons_of_length_eq_add_one (h48)
  have h49 : l48.length = 47 := by simpa using h48
  obtain ⟨u49, l49, rfl⟩ := List.exists_cons_of_length_eq_add_one (h49)
  have h50 : l49.length = 46 := by simpa using h49
  obtain ⟨u50, l50, rfl⟩ := List.exists_cons_of_length_eq_add_one (h50)
  have h51 : l50.length = 45 := by simpa using h50
  obtain ⟨u51, l51, rfl⟩ := List.exists_cons_of_length_eq_add_one (h51)
  have h52 : l51.length = 44 := by simpa using h51
  obtain ⟨u52, l52, rfl⟩ := List.exists_cons_of_length_eq_add_one (h52)
  have h53 : l52.length = 43 := by simpa using h52
  obtain ⟨u53, l53, rfl⟩ := List.exists_cons_of_length_eq_add_one (h53)
  have h54 : l53.length = 42 := by simpa using h53
  obtain ⟨u54, l54, rfl⟩ := List.exists_cons_of_length_eq_add_one (h54)
  have h55 : l54.length = 41 := by simpa using h54
  obtain ⟨u55, l55, rfl⟩ := List.exists_cons_of_length_eq_add_one (h55)
  have h56 : l55.length = 40 := by simpa using h55
  obtain ⟨u56, l56, rfl⟩ := List.exists_cons_of_length_eq_add_one (h56)
  have h57 : l56.length = 39 := by simpa using h56
  obtain ⟨u57, l57, rfl⟩ := List.exists_cons_of_length_eq_add_one (h57)
  have h58 : l57.length = 38 := by simpa using h57
  obtain ⟨u58, l58, rfl⟩ := List.exists_cons_of_length_eq_add_one (h58)
  have h59 : l58.length = 37 := by simpa using h58
  obtain ⟨u59, l59, rfl⟩ := List.exists_cons_of_length_eq_add_one (h59)
  have h60 : l59.length = 36 := by simpa using h59
  obtain ⟨u60, l60, rfl⟩ := List.exists_cons_of_length_eq_add_one (h60)
  have h61 : l60.length = 35 := by simpa using h60
  obtain ⟨u61, l61, rfl⟩ := List.exists_cons_of_length_eq_add_one (h61)
  have h62 : l61.length = 34 := by simpa using h61
  obtain ⟨u62, l62, rfl⟩ := List.exists_cons_of_length_eq_add_one (h62)
  have h63 : l62.length = 33 := by simpa using h62
  obtain ⟨u63, l63, rfl⟩ := List.exists_cons_of_length_eq_add_one (h63)
  have h64 : l63.length = 32 := by simpa using h63
  obtain ⟨u64, l64, rfl⟩ := List.exists_cons_of_length_eq_add_one (h64)
  have h65 : l64.length = 31 := by simpa using h64
  obtain ⟨u65, l65, rfl⟩ := List.exists_cons_of_length_eq_add_one (h65)
  have h66 : l65.length = 30 := by simpa using h65
  obtain ⟨u66, l66, rfl⟩ := List.exists_cons_of_length_eq_add_one (h66)
  have h67 : l66.length = 29 := by simpa using h66
  obtain ⟨u67, l67, rfl⟩ := List.exists_cons_of_length_eq_add_one (h67)
  have h68 : l67.length = 28 := by simpa using h67
  obtain ⟨u68, l68, rfl⟩ := List.exists_cons_of_length_eq_add_one (h68)
  have h69 : l68.length = 27 := by simpa using h68
  obtain ⟨u69, l69, rfl⟩ := List.exists_cons_of_length_eq_add_one (h69)
  have h70 : l69.length = 26 := by simpa using h69
  obtain ⟨u70, l70, rfl⟩ := List.exists_cons_of_length_eq_add_one (h70)
  have h71 : l70.length = 25 := by simpa using h70
  obtain ⟨u71, l71, rfl⟩ := List.exists_cons_of_length_eq_add_one (h71)
  have h72 : l71.length = 24 := by simpa using h71
  obtain ⟨u72, l72, rfl⟩ := List.exists_cons_of_length_eq_add_one (h72)
  have h73 : l72.length = 23 := by simpa using h72
  obtain ⟨u73, l73, rfl⟩ := List.exists_cons_of_length_eq_add_one (h73)
  have h74 : l73.length = 22 := by simpa using h73
  obtain ⟨u74, l74, rfl⟩ := List.exists_cons_of_length_eq_add_one (h74)
  have h75 : l74.length = 21 := by simpa using h74
  obtain ⟨u75, l75, rfl⟩ := List.exists_cons_of_length_eq_add_one (h75)
  have h76 : l75.length = 20 := by simpa using h75
  obtain ⟨u76, l76, rfl⟩ := List.exists_cons_of_length_eq_add_one (h76)
  have h77 : l76.length = 19 := by simpa using h76
  obtain ⟨u77, l77, rfl⟩ := List.exists_cons_of_length_eq_add_one (h77)
  have h78 : l77.length = 18 := by simpa using h77
  obtain ⟨u78, l78, rfl⟩ := List.exists_cons_of_length_eq_add_one (h78)
  have h79 : l78.length = 17 := by simpa using h78
  obtain ⟨u79, l79, rfl⟩ := List.exists_cons_of_length_eq_add_one (h79)
  have h80 : l79.length = 16 := by simpa using h79
  obtain ⟨u80, l80, rfl⟩ := List.exists_cons_of_length_eq_add_one (h80)
  have h81 : l80.length = 15 := by simpa using h80
  obtain ⟨u81, l81, rfl⟩ := List.exists_cons_of_length_eq_add_one (h81)
  have h82 : l81.length = 14 := by simpa using h81
  obtain ⟨u82, l82, rfl⟩ := List.exists_cons_of_length_eq_add_one (h82)
  have h83 : l82.length = 13 := by simpa using h82
  obtain ⟨u83, l83, rfl⟩ := List.exists_cons_of_length_eq_add_one (h83)
  have h84 : l83.length = 12 := by simpa using h83
  obtain ⟨u84, l84, rfl⟩ := List.exists_cons_of_length_eq_add_one (h84)
  have h85 : l84.length = 11 := by simpa using h84
  obtain ⟨u85, l85, rfl⟩ := List.exists_cons_of_length_eq_add_one (h85)
  have h86 : l85.length = 10 := by simpa using h85
  obtain ⟨u86, l86, rfl⟩ := List.exists_cons_of_length_eq_add_one (h86)
  have h87 : l86.length = 9 := by simpa using h86
  obtain ⟨u87, l87, rfl⟩ := List.exists_cons_of_length_eq_add_one (h87)
  have h88 : l87.length = 8 := by simpa using h87
  obtain ⟨u88, l88, rfl⟩ := List.exists_cons_of_length_eq_add_one (h88)
  have h89 : l88.length = 7 := by simpa using h88
  obtain ⟨u89, l89, rfl⟩ := List.exists_cons_of_length_eq_add_one (h89)
  have h90 : l89.length = 6 := by simpa using h89
  obtain ⟨u90, l90, rfl⟩ := List.exists_cons_of_length_eq_add_one (h90)
  have h91 : l90.length = 5 := by simpa using h90
  obtain ⟨u91, l91, rfl⟩ := List.exists_cons_of_length_eq_add_one (h91)
  have h92 : l91.length = 4 := by simpa using h91
  obtain ⟨u92, l92, rfl⟩ := List.exists_cons_of_length_eq_add_one (h92)
  have h93 : l92.length = 3 := by simpa using h92
  obtain ⟨u93, l93, rfl⟩ := List.exists_cons_of_length_eq_add_one (h93)
  have h94 : l93.length = 2 := by simpa using h93
  obtain ⟨u94, l94, rfl⟩ := List.exists_cons_of_length_eq_add_one (h94)
  have h95 : l94.length = 1 := by simpa using h94
  obtain ⟨u95, l95, rfl⟩ := List.exists_cons_of_length_eq_add_one (h95)
  have h96 : l95.length = 0 := by simpa using h95
  have e : l95 = [] := List.length_eq_zero_iff.1 h96
  subst e
  exact ⟨_, _, _, _, _, _, _, _, _, _, _, _, _, _, _, _, _, _, _, _, _, _, _, _, _, _, _, _, _, _, _, _, _, _, _, _, _, _, _, _, _, _, _, _, _, _, _, _, _, _, _, _, _, _, _, _, _, _, _, _, _, _, _, _, _, _, _, _, _, _, _, _, _, _, _, _, _, _, _, _, _, _, _, _, _, _, _, _, _, _, _, _, _, _, _, _, rfl⟩
def sp5 (f : Nat → Bool) (a b : Nat) (i : Nat) (v : Value) : Prop := match i with
  | 0 => v = .agg (mv (f))
  | 1 => v = .int .i64 ((a : Int))
  | 2 => v = .agg (mv (shf (f) ((a : Int))))
  | 3 => v = .int .i64 ((b : Int))
  | 4 => v = .agg (mv (shf (shf (f) ((a : Int))) ((b : Int))))
  | 5 => v = .agg (mv (f))
  | 6 => v = .int .i64 ((a : Int))
  | 7 => v = .int .i64 ((b : Int))
  | 8 => v = .int .i64 (((a : Int)) + ((b : Int)))
  | 9 => v = .agg (mv (shf (f) (((a : Int)) + ((b : Int)))))
  | 10 => v = .bool false
  | 11 => v = .bool false
  | 12 => v = .agg (mv (f))
  | 13 => v = .int .i64 ((a : Int))
  | 14 => v = .int .i64 (-((a : Int)))
  | 15 => v = .agg (mv (shf (f) (-((a : Int)))))
  | 16 => v = .int .i64 ((b : Int))
  | 17 => v = .int .i64 (-((b : Int)))
  | 18 => v = .agg (mv (shf (shf (f) (-((a : Int)))) (-((b : Int)))))
  | 19 => v = .agg (mv (f))
  | 20 => v = .int .i64 ((a : Int))
  | 21 => v = .int .i64 (-((a : Int)))
  | 22 => v = .int .i64 ((b : Int))
  | 23 => v = .int .i64 ((-((a : Int))) - ((b : Int)))
  | 24 => v = .agg (mv (shf (f) ((-((a : Int))) - ((b : Int)))))
  | 25 => v = .bool false
  | 26 => v = .bool false
  | _ => True
def sp8 (f : Nat → Bool) (a : Nat) (i : Nat) (v : Value) : Prop := match i with
  | 0 => v = .agg (mv (f))
  | 1 => v = .int .i64 ((a : Int))
  | 2 => v = .agg (mv (shf (f) ((a : Int))))
  | 3 => v = .int .i64 ((a : Int))
  | 4 => v = .int .i64 (-((a : Int)))
  | 5 => v = .agg (mv (shf (shf (f) ((a : Int))) (-((a : Int)))))
  | 6 => v = .agg (mv (f))
  | 7 => v = .agg (mv (inl [((0 : Int), 1440 - (a : Int))]))
  | 8 => v = .agg (mv (fun i => ((f) i && (inl [((0 : Int), 1440 - (a : Int))]) i) && decide (i < 1440)))
  | 9 => v = .bool false
  | _ => True
def sp10 (f g : Nat → Bool) (a : Nat) (i : Nat) (v : Value) : Prop := match i with
  | 0 => v = .agg (mv (f))
  | 1 => v = .agg (mv (g))
  | 2 => v = .agg (mv (fun i => ((f) i || (g) i) && decide (i < 1440)))
  | 3 => v = .int .i64 ((a : Int))
  | 4 => v = .agg (mv (shf (fun i => ((f) i || (g) i) && decide (i < 1440)) ((a : Int))))
  | 5 => v = .agg (mv (f))
  | 6 => v = .int .i64 ((a : Int))
  | 7 => v = .agg (mv (shf (f) ((a : Int))))
  | 8 => v = .agg (mv (g))
  | 9 => v = .int .i64 ((a : Int))
  | 10 => v = .agg (mv (shf (g) ((a : Int))))
  | 11 => v = .agg (mv (fun i => ((shf (f) ((a : Int))) i || (shf (g) ((a : Int))) i) && decide (i < 1440)))
  | 12 => v = .bool true
  | 13 => v = .bool true
  | 14 => v = .agg (mv (f))
  | 15 => v = .agg (mv (g))
  | 16 => v = .agg (mv (fun i => ((f) i && (g) i) && decide (i < 1440)))
  | 17 => v = .int .i64 ((a : Int))
  | 18 => v = .agg (mv (shf (fun i => ((f) i && (g) i) && decide (i < 1440)) ((a : Int))))
  | 19 => v = .agg (mv (f))
  | 20 => v = .int .i64 ((a : Int))
  | 21 => v = .agg (mv (shf (f) ((a : Int))))
  | 22 => v = .agg (mv (g))
  | 23 => v = .int .i64 ((a : Int))
  | 24 => v = .agg (mv (shf (g) ((a : Int))))
  | 25 => v = .agg (mv (fun i => ((shf (f) ((a : Int))) i && (shf (g) ((a : Int))) i) && decide (i < 1440)))
  | 26 => v = .bool true
  | 27 => v = .bool true
  | 28 => v = .bool true
  | _ => True

set_option maxRecDepth 10000 in
set_option maxHeartbeats 2000000 in
theorem shift_walk (f g : Nat → Bool) (x y : Int) (w : World) (hT : Tab w) :
    Calls Tryd.prog 4 #[.agg (mv f), .agg (mv g), .int .i64 x, .int .i64 y] w fun e w' => e = .returned (.bool true) ∧ Below w.heap.size w w' := by
  have hb0 : Below w.heap.size w ((w.alloc (.cells (mv f) 24)).alloc (.cells (mv g) 24)) := ((Below.refl _ _).alloc (Nat.le_refl _) _).alloc (by simp) _
  have h0 : ((w.alloc (.cells (mv f) 24)).alloc (.cells (mv g) 24)).heap[w.heap.size]? = some (.cells (mv f) 24 (0, 0)) := by (repeat (first | refine blk_old _ _ _ (by simp only [size_alloc]; omega) ?_ | exact blk_new _ _ _ (by first | rfl | simp only [size_alloc])))
  have h1 : ((w.alloc (.cells (mv f) 24)).alloc (.cells (mv g) 24)).heap[w.heap.size + 1]? = some (.cells (mv g) 24 (0, 0)) := by (repeat (first | refine blk_old _ _ _ (by simp only [size_alloc]; omega) ?_ | exact blk_new _ _ _ (by first | rfl | simp only [size_alloc])))
  have cA := alive_any _ (hT.later hb0)
  by_cases hc : x < 0 ∨ y < 0 ∨ 1440 < x ∨ 1440 < y
  · rcases (show (x < 0) ∨ (0 ≤ x ∧ y < 0) ∨ (0 ≤ x ∧ 0 ≤ y ∧ 1440 < x) ∨ (0 ≤ x ∧ 0 ≤ y ∧ x ≤ 1440 ∧ 1440 < y) from by omega) with h | ⟨h, h'⟩ | ⟨h, h', h''⟩ | ⟨h, h', h'', h'''⟩
    all_goals
      clear hc
      go_enter Tryd.func4, Tryd.ntmps4
      go_wp2_with (go_at_call 7; refine cA.mono ?_; rintro e w1 ⟨rfl, hb1⟩)
      go_ret
      exact ⟨rfl, hb0.trans (hb1.mono hb0.size)⟩
  · obtain ⟨a, rfl⟩ : ∃ a : Nat, x = a := ⟨x.toNat, by omega⟩
    obtain ⟨b, rfl⟩ : ∃ b : Nat, y = b := ⟨y.toNat, by omega⟩
    have ha : a ≤ 1440 := by omega
    have hb : b ≤ 1440 := by omega
    clear hc
    go_enter Tryd.func4, Tryd.ntmps4
    go_wp2_with (go_at_call 7; refine cA.mono ?_; rintro e w1 ⟨rfl, hb1⟩; have hm1 := (hb1.block _ (lt_of_block h0)).trans h0; have hg1 := (hb1.block _ (lt_of_block h1)).trans h1; have hbw1 := hb0.trans (hb1.mono hb0.size); clear cA hb1 h0 h1 hb0)
    have q1 : IntKind.i64.wrap ((a : Int) + (b : Int)) = (a : Int) + (b : Int) := by rw [IntKind.wrap_i64]; omega
    have q2 : IntKind.i64.wrap (-(a : Int)) = -(a : Int) := by rw [IntKind.wrap_i64]; omega
    have q3 : IntKind.i64.wrap (-(b : Int)) = -(b : Int) := by rw [IntKind.wrap_i64]; omega
    have q4 : IntKind.i64.wrap (-(a : Int) - (b : Int)) = -(a : Int) - (b : Int) := by rw [IntKind.wrap_i64]; omega
    refine wp_region_flow (by kernel_rfl) (by kernel_rfl) (by kernel_rfl) (by kernel_rfl) (fun _ _ W => Below w1.heap.size w1 W) (fun i v _ => sp5 f a b i v) ?_ ?_ ?_
    · intro L hL
      exact (Below.refl _ _).drew
    · intro i o L A W ho hLi hdep hJ hdef hkept hhas
      clear hdef hLi
      have fin : ∀ (v : Value) (d : Nat) (W' : World), Below W.heap.size W W' → sp5 f a b i v → ∃ u, A.put (some d) v = A.put (some d) u ∧ (some d ≠ none → sp5 f a b i u) ∧ (∀ j x', L j = true → sp5 f a b j x' → sp5 f a b j x') ∧ Below w1.heap.size w1 W' := by
        intro v d W' hb hv
        exact ⟨v, rfl, fun _ => hv, fun _ _ _ h => h, hJ.trans (hb.mono hJ.size)⟩
      match i, ho with
      | 0, ho =>
        cases Option.some.inj ho
        have h4 : A.eval (.tmp 4) = .pointer (some ⟨w.heap.size, 0, none⟩) := (hkept 4 (fun j p hp _ => nd (by kernel_rfl) j p hp))
        have hg := (hJ.block _ (lt_of_block hm1)).trans hm1
        refine wpOp_step rfl (fun K hK => ?_)
        show Oper.wp _ _ _ _ _ _
        refine wp_load_row 24 _ rfl _ h4 _ _ _ _ hg maskType rfl (maskSize _) ?_
        exact hK _ _ (fin _ 26 _ (Below.refl _ _) rfl)
      | 1, ho =>
        cases Option.some.inj ho
        have h2 : A.tmps[2]?.getD undef = .int .i64 ((a : Int)) := (gd A 2).trans (hkept 2 (fun j p hp _ => nd (by kernel_rfl) j p hp))
        refine wpOp_step rfl (fun K hK => ?_)
        go_simp
        exact hK _ _ (fin _ 27 _ (Below.refl _ _) rfl)
      | 2, ho =>
        cases Option.some.inj ho
        have h26 : A.tmps[26]?.getD undef = .agg (mv (f)) := (gd A 26).trans (show A.tmps.getD 26 undef = .agg (mv (f)) from hhas 0 _ rfl (hdep ⟨0, .data⟩ (by simp) rfl) 26 rfl)
        have h27 : A.tmps[27]?.getD undef = .int .i64 ((a : Int)) := (gd A 27).trans (show A.tmps.getD 27 undef = .int .i64 ((a : Int)) from hhas 1 _ rfl (hdep ⟨1, .data⟩ (by simp) rfl) 27 rfl)
        refine wpOp_step rfl (fun K hK => ?_)
        go_simp
        refine (shift_any (f) ((a : Int)) _ (by omega) (by omega)).mono ?_
        rintro e W' ⟨rfl, hb⟩
        exact hK _ _ (fin _ 28 _ hb rfl)
      | 3, ho =>
        cases Option.some.inj ho
        have h3 : A.tmps[3]?.getD undef = .int .i64 ((b : Int)) := (gd A 3).trans (hkept 3 (fun j p hp _ => nd (by kernel_rfl) j p hp))
        refine wpOp_step rfl (fun K hK => ?_)
        go_simp
        exact hK _ _ (fin _ 29 _ (Below.refl _ _) rfl)
      | 4, ho =>
        cases Option.some.inj ho
        have h28 : A.tmps[28]?.getD undef = .agg (mv (shf (f) ((a : Int)))) := (gd A 28).trans (show A.tmps.getD 28 undef = .agg (mv (shf (f) ((a : Int)))) from hhas 2 _ rfl (hdep ⟨2, .data⟩ (by simp) rfl) 28 rfl)
        have h29 : A.tmps[29]?.getD undef = .int .i64 ((b : Int)) := (gd A 29).trans (show A.tmps.getD 29 undef = .int .i64 ((b : Int)) from hhas 3 _ rfl (hdep ⟨3, .data⟩ (by simp) rfl) 29 rfl)
        refine wpOp_step rfl (fun K hK => ?_)
        go_simp
        refine (shift_any (shf (f) ((a : Int))) ((b : Int)) _ (by omega) (by omega)).mono ?_
        rintro e W' ⟨rfl, hb⟩
        exact hK _ _ (fin _ 30 _ hb rfl)
      | 5, ho =>
        cases Option.some.inj ho
        have h4 : A.eval (.tmp 4) = .pointer (some ⟨w.heap.size, 0, none⟩) := (hkept 4 (fun j p hp _ => nd (by kernel_rfl) j p hp))
        have hg := (hJ.block _ (lt_of_block hm1)).trans hm1
        refine wpOp_step rfl (fun K hK => ?_)
        show Oper.wp _ _ _ _ _ _
        refine wp_load_row 24 _ rfl _ h4 _ _ _ _ hg maskType rfl (maskSize _) ?_
        exact hK _ _ (fin _ 31 _ (Below.refl _ _) rfl)
      | 6, ho =>
        cases Option.some.inj ho
        have h2 : A.tmps[2]?.getD undef = .int .i64 ((a : Int)) := (gd A 2).trans (hkept 2 (fun j p hp _ => nd (by kernel_rfl) j p hp))
        refine wpOp_step rfl (fun K hK => ?_)
        go_simp
        exact hK _ _ (fin _ 32 _ (Below.refl _ _) rfl)
      | 7, ho =>
        cases Option.some.inj ho
        have h3 : A.tmps[3]?.getD undef = .int .i64 ((b : Int)) := (gd A 3).trans (hkept 3 (fun j p hp _ => nd (by kernel_rfl) j p hp))
        refine wpOp_step rfl (fun K hK => ?_)
        go_simp
        exact hK _ _ (fin _ 33 _ (Below.refl _ _) rfl)
      | 8, ho =>
        cases Option.some.inj ho
        have h32 : A.tmps[32]?.getD undef = .int .i64 ((a : Int)) := (gd A 32).trans (show A.tmps.getD 32 undef = .int .i64 ((a : Int)) from hhas 6 _ rfl (hdep ⟨6, .data⟩ (by simp) rfl) 32 rfl)
        have h33 : A.tmps[33]?.getD undef = .int .i64 ((b : Int)) := (gd A 33).trans (show A.tmps.getD 33 undef = .int .i64 ((b : Int)) from hhas 7 _ rfl (hdep ⟨7, .data⟩ (by simp) rfl) 33 rfl)
        refine wpOp_step rfl (fun K hK => ?_)
        go_simp
        exact hK _ _ (fin _ 34 _ (Below.refl _ _) rfl)
      | 9, ho =>
        cases Option.some.inj ho
        have h31 : A.tmps[31]?.getD undef = .agg (mv (f)) := (gd A 31).trans (show A.tmps.getD 31 undef = .agg (mv (f)) from hhas 5 _ rfl (hdep ⟨5, .data⟩ (by simp) rfl) 31 rfl)
        have h34 : A.tmps[34]?.getD undef = .int .i64 (((a : Int)) + ((b : Int))) := (gd A 34).trans (show A.tmps.getD 34 undef = .int .i64 (((a : Int)) + ((b : Int))) from hhas 8 _ rfl (hdep ⟨8, .data⟩ (by simp) rfl) 34 rfl)
        refine wpOp_step rfl (fun K hK => ?_)
        go_simp
        refine (shift_any (f) (((a : Int)) + ((b : Int))) _ (by omega) (by omega)).mono ?_
        rintro e W' ⟨rfl, hb⟩
        exact hK _ _ (fin _ 35 _ hb rfl)
      | 10, ho =>
        cases Option.some.inj ho
        have h30 : A.tmps[30]?.getD undef = .agg (mv (shf (shf (f) ((a : Int))) ((b : Int)))) := (gd A 30).trans (show A.tmps.getD 30 undef = .agg (mv (shf (shf (f) ((a : Int))) ((b : Int)))) from hhas 4 _ rfl (hdep ⟨4, .data⟩ (by simp) rfl) 30 rfl)
        have h35 : A.tmps[35]?.getD undef = .agg (mv (shf (f) (((a : Int)) + ((b : Int))))) := (gd A 35).trans (show A.tmps.getD 35 undef = .agg (mv (shf (f) (((a : Int)) + ((b : Int))))) from hhas 9 _ rfl (hdep ⟨9, .data⟩ (by simp) rfl) 35 rfl)
        have he : ∀ w, (Op.equalIn 10000 24 (.agg (mv (shf (shf (f) ((a : Int))) ((b : Int))))) (.agg (mv (shf (f) (((a : Int)) + ((b : Int))))))).run Tryd.prog w = .ok true w := fun w => by rw [eq_mask, e_both f a b]
        refine wpOp_step rfl (fun K hK => ?_)
        go_simp
        exact hK _ _ (fin _ 36 _ (Below.refl _ _) rfl)
      | 11, ho =>
        cases Option.some.inj ho
        have h36 : A.tmps[36]?.getD undef = .bool false := (gd A 36).trans (show A.tmps.getD 36 undef = .bool false from hhas 10 _ rfl (hdep ⟨10, .data⟩ (by simp) rfl) 36 rfl)
        refine wpOp_step rfl (fun K hK => ?_)
        go_simp
        exact hK _ _ (fin _ 37 _ (Below.refl _ _) rfl)
      | 12, ho =>
        cases Option.some.inj ho
        have hG : A.tmps[37]? = some (.bool false) := gdb (show A.tmps.getD 37 undef = .bool false from hhas 11 _ rfl (hdep ⟨11, .guard⟩ (by simp) rfl) 37 rfl)
        have h4 : A.eval (.tmp 4) = .pointer (some ⟨w.heap.size, 0, none⟩) := (hkept 4 (fun j p hp _ => nd (by kernel_rfl) j p hp))
        have hg := (hJ.block _ (lt_of_block hm1)).trans hm1
        refine wpOp_step rfl (fun K hK => ?_)
        rw [if_pos (by simp [Region.wanted, yielded, hG])]
        refine wp_load_row 24 _ rfl _ h4 _ _ _ _ hg maskType rfl (maskSize _) ?_
        exact hK _ _ (fin _ 38 _ (Below.refl _ _) rfl)
      | 13, ho =>
        cases Option.some.inj ho
        have hG : A.tmps[37]? = some (.bool false) := gdb (show A.tmps.getD 37 undef = .bool false from hhas 11 _ rfl (hdep ⟨11, .guard⟩ (by simp) rfl) 37 rfl)
        have h2 : A.tmps[2]?.getD undef = .int .i64 ((a : Int)) := (gd A 2).trans (hkept 2 (fun j p hp _ => nd (by kernel_rfl) j p hp))
        refine wpOp_step rfl (fun K hK => ?_)
        go_simp
        exact hK _ _ (fin _ 39 _ (Below.refl _ _) rfl)
      | 14, ho =>
        cases Option.some.inj ho
        have hG : A.tmps[37]? = some (.bool false) := gdb (show A.tmps.getD 37 undef = .bool false from hhas 11 _ rfl (hdep ⟨11, .guard⟩ (by simp) rfl) 37 rfl)
        have h39 : A.tmps[39]?.getD undef = .int .i64 ((a : Int)) := (gd A 39).trans (show A.tmps.getD 39 undef = .int .i64 ((a : Int)) from hhas 13 _ rfl (hdep ⟨13, .data⟩ (by simp) rfl) 39 rfl)
        refine wpOp_step rfl (fun K hK => ?_)
        go_simp
        exact hK _ _ (fin _ 40 _ (Below.refl _ _) rfl)
      | 15, ho =>
        cases Option.some.inj ho
        have hG : A.tmps[37]? = some (.bool false) := gdb (show A.tmps.getD 37 undef = .bool false from hhas 11 _ rfl (hdep ⟨11, .guard⟩ (by simp) rfl) 37 rfl)
        have h38 : A.tmps[38]?.getD undef = .agg (mv (f)) := (gd A 38).trans (show A.tmps.getD 38 undef = .agg (mv (f)) from hhas 12 _ rfl (hdep ⟨12, .data⟩ (by simp) rfl) 38 rfl)
        have h40 : A.tmps[40]?.getD undef = .int .i64 (-((a : Int))) := (gd A 40).trans (show A.tmps.getD 40 undef = .int .i64 (-((a : Int))) from hhas 14 _ rfl (hdep ⟨14, .data⟩ (by simp) rfl) 40 rfl)
        refine wpOp_step rfl (fun K hK => ?_)
        go_simp
        refine (shift_any (f) (-((a : Int))) _ (by omega) (by omega)).mono ?_
        rintro e W' ⟨rfl, hb⟩
        exact hK _ _ (fin _ 41 _ hb rfl)
      | 16, ho =>
        cases Option.some.inj ho
        have hG : A.tmps[37]? = some (.bool false) := gdb (show A.tmps.getD 37 undef = .bool false from hhas 11 _ rfl (hdep ⟨11, .guard⟩ (by simp) rfl) 37 rfl)
        have h3 : A.tmps[3]?.getD undef = .int .i64 ((b : Int)) := (gd A 3).trans (hkept 3 (fun j p hp _ => nd (by kernel_rfl) j p hp))
        refine wpOp_step rfl (fun K hK => ?_)
        go_simp
        exact hK _ _ (fin _ 42 _ (Below.refl _ _) rfl)
      | 17, ho =>
        cases Option.some.inj ho
        have hG : A.tmps[37]? = some (.bool false) := gdb (show A.tmps.getD 37 undef = .bool false from hhas 11 _ rfl (hdep ⟨11, .guard⟩ (by simp) rfl) 37 rfl)
        have h42 : A.tmps[42]?.getD undef = .int .i64 ((b : Int)) := (gd A 42).trans (show A.tmps.getD 42 undef = .int .i64 ((b : Int)) from hhas 16 _ rfl (hdep ⟨16, .data⟩ (by simp) rfl) 42 rfl)
        refine wpOp_step rfl (fun K hK => ?_)
        go_simp
        exact hK _ _ (fin _ 43 _ (Below.refl _ _) rfl)
      | 18, ho =>
        cases Option.some.inj ho
        have hG : A.tmps[37]? = some (.bool false) := gdb (show A.tmps.getD 37 undef = .bool false from hhas 11 _ rfl (hdep ⟨11, .guard⟩ (by simp) rfl) 37 rfl)
        have h41 : A.tmps[41]?.getD undef = .agg (mv (shf (f) (-((a : Int))))) := (gd A 41).trans (show A.tmps.getD 41 undef = .agg (mv (shf (f) (-((a : Int))))) from hhas 15 _ rfl (hdep ⟨15, .data⟩ (by simp) rfl) 41 rfl)
        have h43 : A.tmps[43]?.getD undef = .int .i64 (-((b : Int))) := (gd A 43).trans (show A.tmps.getD 43 undef = .int .i64 (-((b : Int))) from hhas 17 _ rfl (hdep ⟨17, .data⟩ (by simp) rfl) 43 rfl)
        refine wpOp_step rfl (fun K hK => ?_)
        go_simp
        refine (shift_any (shf (f) (-((a : Int)))) (-((b : Int))) _ (by omega) (by omega)).mono ?_
        rintro e W' ⟨rfl, hb⟩
        exact hK _ _ (fin _ 44 _ hb rfl)
      | 19, ho =>
        cases Option.some.inj ho
        have hG : A.tmps[37]? = some (.bool false) := gdb (show A.tmps.getD 37 undef = .bool false from hhas 11 _ rfl (hdep ⟨11, .guard⟩ (by simp) rfl) 37 rfl)
        have h4 : A.eval (.tmp 4) = .pointer (some ⟨w.heap.size, 0, none⟩) := (hkept 4 (fun j p hp _ => nd (by kernel_rfl) j p hp))
        have hg := (hJ.block _ (lt_of_block hm1)).trans hm1
        refine wpOp_step rfl (fun K hK => ?_)
        rw [if_pos (by simp [Region.wanted, yielded, hG])]
        refine wp_load_row 24 _ rfl _ h4 _ _ _ _ hg maskType rfl (maskSize _) ?_
        exact hK _ _ (fin _ 45 _ (Below.refl _ _) rfl)
      | 20, ho =>
        cases Option.some.inj ho
        have hG : A.tmps[37]? = some (.bool false) := gdb (show A.tmps.getD 37 undef = .bool false from hhas 11 _ rfl (hdep ⟨11, .guard⟩ (by simp) rfl) 37 rfl)
        have h2 : A.tmps[2]?.getD undef = .int .i64 ((a : Int)) := (gd A 2).trans (hkept 2 (fun j p hp _ => nd (by kernel_rfl) j p hp))
        refine wpOp_step rfl (fun K hK => ?_)
        go_simp
        exact hK _ _ (fin _ 46 _ (Below.refl _ _) rfl)
      | 21, ho =>
        cases Option.some.inj ho
        have hG : A.tmps[37]? = some (.bool false) := gdb (show A.tmps.getD 37 undef = .bool false from hhas 11 _ rfl (hdep ⟨11, .guard⟩ (by simp) rfl) 37 rfl)
        have h46 : A.tmps[46]?.getD undef = .int .i64 ((a : Int)) := (gd A 46).trans (show A.tmps.getD 46 undef = .int .i64 ((a : Int)) from hhas 20 _ rfl (hdep ⟨20, .data⟩ (by simp) rfl) 46 rfl)
        refine wpOp_step rfl (fun K hK => ?_)
        go_simp
        exact hK _ _ (fin _ 47 _ (Below.refl _ _) rfl)
      | 22, ho =>
        cases Option.some.inj ho
        have hG : A.tmps[37]? = some (.bool false) := gdb (show A.tmps.getD 37 undef = .bool false from hhas 11 _ rfl (hdep ⟨11, .guard⟩ (by simp) rfl) 37 rfl)
        have h3 : A.tmps[3]?.getD undef = .int .i64 ((b : Int)) := (gd A 3).trans (hkept 3 (fun j p hp _ => nd (by kernel_rfl) j p hp))
        refine wpOp_step rfl (fun K hK => ?_)
        go_simp
        exact hK _ _ (fin _ 48 _ (Below.refl _ _) rfl)
      | 23, ho =>
        cases Option.some.inj ho
        have hG : A.tmps[37]? = some (.bool false) := gdb (show A.tmps.getD 37 undef = .bool false from hhas 11 _ rfl (hdep ⟨11, .guard⟩ (by simp) rfl) 37 rfl)
        have h47 : A.tmps[47]?.getD undef = .int .i64 (-((a : Int))) := (gd A 47).trans (show A.tmps.getD 47 undef = .int .i64 (-((a : Int))) from hhas 21 _ rfl (hdep ⟨21, .data⟩ (by simp) rfl) 47 rfl)
        have h48 : A.tmps[48]?.getD undef = .int .i64 ((b : Int)) := (gd A 48).trans (show A.tmps.getD 48 undef = .int .i64 ((b : Int)) from hhas 22 _ rfl (hdep ⟨22, .data⟩ (by simp) rfl) 48 rfl)
        refine wpOp_step rfl (fun K hK => ?_)
        go_simp
        exact hK _ _ (fin _ 49 _ (Below.refl _ _) rfl)
      | 24, ho =>
        cases Option.some.inj ho
        have hG : A.tmps[37]? = some (.bool false) := gdb (show A.tmps.getD 37 undef = .bool false from hhas 11 _ rfl (hdep ⟨11, .guard⟩ (by simp) rfl) 37 rfl)
        have h45 : A.tmps[45]?.getD undef = .agg (mv (f)) := (gd A 45).trans (show A.tmps.getD 45 undef = .agg (mv (f)) from hhas 19 _ rfl (hdep ⟨19, .data⟩ (by simp) rfl) 45 rfl)
        have h49 : A.tmps[49]?.getD undef = .int .i64 ((-((a : Int))) - ((b : Int))) := (gd A 49).trans (show A.tmps.getD 49 undef = .int .i64 ((-((a : Int))) - ((b : Int))) from hhas 23 _ rfl (hdep ⟨23, .data⟩ (by simp) rfl) 49 rfl)
        refine wpOp_step rfl (fun K hK => ?_)
        go_simp
        refine (shift_any (f) ((-((a : Int))) - ((b : Int))) _ (by omega) (by omega)).mono ?_
        rintro e W' ⟨rfl, hb⟩
        exact hK _ _ (fin _ 50 _ hb rfl)
      | 25, ho =>
        cases Option.some.inj ho
        have hG : A.tmps[37]? = some (.bool false) := gdb (show A.tmps.getD 37 undef = .bool false from hhas 11 _ rfl (hdep ⟨11, .guard⟩ (by simp) rfl) 37 rfl)
        have h44 : A.tmps[44]?.getD undef = .agg (mv (shf (shf (f) (-((a : Int)))) (-((b : Int))))) := (gd A 44).trans (show A.tmps.getD 44 undef = .agg (mv (shf (shf (f) (-((a : Int)))) (-((b : Int))))) from hhas 18 _ rfl (hdep ⟨18, .data⟩ (by simp) rfl) 44 rfl)
        have h50 : A.tmps[50]?.getD undef = .agg (mv (shf (f) ((-((a : Int))) - ((b : Int))))) := (gd A 50).trans (show A.tmps.getD 50 undef = .agg (mv (shf (f) ((-((a : Int))) - ((b : Int))))) from hhas 24 _ rfl (hdep ⟨24, .data⟩ (by simp) rfl) 50 rfl)
        have he : ∀ w, (Op.equalIn 10000 24 (.agg (mv (shf (shf (f) (-((a : Int)))) (-((b : Int)))))) (.agg (mv (shf (f) ((-((a : Int))) - ((b : Int))))))).run Tryd.prog w = .ok true w := fun w => by rw [eq_mask, e_back f a b]
        refine wpOp_step rfl (fun K hK => ?_)
        go_simp
        exact hK _ _ (fin _ 51 _ (Below.refl _ _) rfl)
      | 26, ho =>
        cases Option.some.inj ho
        have h37 : A.tmps[37]?.getD undef = .bool false := (gd A 37).trans (show A.tmps.getD 37 undef = .bool false from hhas 11 _ rfl (hdep ⟨11, .data⟩ (by simp) rfl) 37 rfl)
        have h51 : A.tmps[51]?.getD undef = .bool false := (gd A 51).trans (show A.tmps.getD 51 undef = .bool false from hhas 25 _ rfl (hdep ⟨25, .data⟩ (by simp) rfl) 51 rfl)
        refine wpOp_step rfl (fun K hK => ?_)
        go_simp
        exact hK _ _ (fin _ 52 _ (Below.refl _ _) rfl)
      | k + 27, ho => simp at ho
    · intro L A W hL hJ hdef hsize hkept hhas
      obtain ⟨t, d⟩ := A
      have hd : d = [] := hdef
      subst hd
      clear hdef
      obtain ⟨l, rfl⟩ : ∃ l : List Value, t = l.toArray := ⟨t.toList, by simp⟩
      have hl : l.length = 96 := by
        have h : l.toArray.size = 96 := hsize
        simpa using h
      obtain ⟨u0, u1, u2, u3, u4, u5, u6, u7, u8, u9, u10, u11, u12, u13, u14, u15, u16, u17, u18, u19, u20, u21, u22, u23, u24, u25, u26, u27, u28, u29, u30, u31, u32, u33, u34, u35, u36, u37, u38, u39, u40, u41, u42, u43, u44, u45, u46, u47, u48, u49, u50, u51, u52, u53, u54, u55, u56, u57, u58, u59, u60, u61, u62, u63, u64, u65, u66, u67, u68, u69, u70, u71, u72, u73, u74, u75, u76, u77, u78, u79, u80, u81, u82, u83, u84, u85, u86, u87, u88, u89, u90, u91, u92, u93, u94, u95, rfl⟩ := list96 l hl
      have e2 : u2 = .int .i64 (a : Int) := hkept 2 (nd (by kernel_rfl))
      have e3 : u3 = .int .i64 (b : Int) := hkept 3 (nd (by kernel_rfl))
      have e4 : u4 = .pointer (some ⟨w.heap.size, 0, none⟩) := hkept 4 (nd (by kernel_rfl))
      have e5 : u5 = .pointer (some ⟨w.heap.size + 1, 0, none⟩) := hkept 5 (nd (by kernel_rfl))
      have e8 : u8 = .bool false := hkept 8 (nd (by kernel_rfl))
      have e52 : u52 = .bool false := hhas 26 _ rfl 52 rfl
      subst e2 e3 e4 e5 e8 e52
      have hm2 := (hJ.block _ (lt_of_block hm1)).trans hm1
      have hg2 := (hJ.block _ (lt_of_block hg1)).trans hg1
      have hbw2 := hbw1.trans (hJ.mono hbw1.size)
      clear hL hsize hkept hhas hl hJ hm1 hg1 hbw1 q1 q3 q4
      have hz := mv_lit
      have cO := of_any _ [((0 : Int), 1440 - (a : Int))] _ (row_at (heap_alloc_new W (.cells #[.int .i64 0, .int .i64 (1440 - (a : Int))] 33 (0, 0))))
      have hbO : Below W.heap.size W (W.alloc (.cells #[.int .i64 0, .int .i64 (1440 - (a : Int))] 33)) := (Below.refl _ _).alloc (Nat.le_refl _) _
      go_wp2_with (first
        | (go_at_call 14; refine cO.mono ?_; rintro e w2 ⟨rfl, hb2⟩; have hbb := hbO.trans (hb2.mono hbO.size); have hm2' := (hbb.block _ (lt_of_block hm2)).trans hm2; have hg2' := (hbb.block _ (lt_of_block hg2)).trans hg2; have hbw2' := hbw2.trans (hbb.mono hbw2.size); have hk1 := heap_alloc_new w2 (.cells (mv fun _ => false) 24 (0, 0)); have hn1 := blk_old _ (.cells (mv fun _ => false) 24) _ (lt_of_block hm2') hm2'; have hn2 := blk_old _ (.cells (mv fun _ => false) 24) _ (lt_of_block hg2') hg2'; have l1 := lt_of_block hm2'; have l2 := lt_of_block hg2'; clear hm2 hg2 hbw2 hbb hb2 hbO cO hm2' hg2')
        | (refine wpList_store_row rfl 24 _ _ rfl _ _ rfl rfl _ _ hk1 (maskSize _) (by simp [mv_size]) (mv_all _) ?_; have hk3 := setRow_heap _ _ _ (mv (inl [((0 : Int), 1440 - (a : Int))])) _ _ hk1; have hm3 := (setRow_other _ w2.heap.size _ (mv (inl [((0 : Int), 1440 - (a : Int))])) (Nat.ne_of_lt l1)).trans hn1; have hg3 := (setRow_other _ w2.heap.size _ (mv (inl [((0 : Int), 1440 - (a : Int))])) (Nat.ne_of_lt l2)).trans hn2; have hbw3 : Below w.heap.size w ((w2.alloc (.cells (mv fun _ => false) 24)).setRow w2.heap.size (mv (inl [((0 : Int), 1440 - (a : Int))]))) := below_setRow (hbw2'.alloc hbw2'.size _) hbw2'.size _; generalize ((w2.alloc (.cells (mv fun _ => false) 24)).setRow w2.heap.size (mv (inl [((0 : Int), 1440 - (a : Int))]))) = w3 at *; clear hk1 hn1 hn2 hbw2'))
      refine wp_region_flow (by kernel_rfl) (by kernel_rfl) (by kernel_rfl) (by kernel_rfl) (fun _ _ W => Below w3.heap.size w3 W) (fun i v _ => sp8 f a i v) ?_ ?_ ?_
      · intro L hL
        exact (Below.refl _ _).drew
      · intro i o L A W ho hLi hdep hJ hdef hkept hhas
        clear hdef hLi
        have fin : ∀ (v : Value) (d : Nat) (W' : World), Below W.heap.size W W' → sp8 f a i v → ∃ u, A.put (some d) v = A.put (some d) u ∧ (some d ≠ none → sp8 f a i u) ∧ (∀ j x', L j = true → sp8 f a j x' → sp8 f a j x') ∧ Below w3.heap.size w3 W' := by
          intro v d W' hb hv
          exact ⟨v, rfl, fun _ => hv, fun _ _ _ h => h, hJ.trans (hb.mono hJ.size)⟩
        match i, ho with
        | 0, ho =>
          cases Option.some.inj ho
          have h4 : A.eval (.tmp 4) = .pointer (some ⟨w.heap.size, 0, none⟩) := (hkept 4 (fun j p hp _ => nd (by kernel_rfl) j p hp))
          have hg := (hJ.block _ (lt_of_block hm3)).trans hm3
          refine wpOp_step rfl (fun K hK => ?_)
          show Oper.wp _ _ _ _ _ _
          refine wp_load_row 24 _ rfl _ h4 _ _ _ _ hg maskType rfl (maskSize _) ?_
          exact hK _ _ (fin _ 58 _ (Below.refl _ _) rfl)
        | 1, ho =>
          cases Option.some.inj ho
          have h2 : A.tmps[2]?.getD undef = .int .i64 ((a : Int)) := (gd A 2).trans (hkept 2 (fun j p hp _ => nd (by kernel_rfl) j p hp))
          refine wpOp_step rfl (fun K hK => ?_)
          go_simp
          exact hK _ _ (fin _ 59 _ (Below.refl _ _) rfl)
        | 2, ho =>
          cases Option.some.inj ho
          have h58 : A.tmps[58]?.getD undef = .agg (mv (f)) := (gd A 58).trans (show A.tmps.getD 58 undef = .agg (mv (f)) from hhas 0 _ rfl (hdep ⟨0, .data⟩ (by simp) rfl) 58 rfl)
          have h59 : A.tmps[59]?.getD undef = .int .i64 ((a : Int)) := (gd A 59).trans (show A.tmps.getD 59 undef = .int .i64 ((a : Int)) from hhas 1 _ rfl (hdep ⟨1, .data⟩ (by simp) rfl) 59 rfl)
          refine wpOp_step rfl (fun K hK => ?_)
          go_simp
          refine (shift_any (f) ((a : Int)) _ (by omega) (by omega)).mono ?_
          rintro e W' ⟨rfl, hb⟩
          exact hK _ _ (fin _ 60 _ hb rfl)
        | 3, ho =>
          cases Option.some.inj ho
          have h2 : A.tmps[2]?.getD undef = .int .i64 ((a : Int)) := (gd A 2).trans (hkept 2 (fun j p hp _ => nd (by kernel_rfl) j p hp))
          refine wpOp_step rfl (fun K hK => ?_)
          go_simp
          exact hK _ _ (fin _ 61 _ (Below.refl _ _) rfl)
        | 4, ho =>
          cases Option.some.inj ho
          have h61 : A.tmps[61]?.getD undef = .int .i64 ((a : Int)) := (gd A 61).trans (show A.tmps.getD 61 undef = .int .i64 ((a : Int)) from hhas 3 _ rfl (hdep ⟨3, .data⟩ (by simp) rfl) 61 rfl)
          refine wpOp_step rfl (fun K hK => ?_)
          go_simp
          exact hK _ _ (fin _ 62 _ (Below.refl _ _) rfl)
        | 5, ho =>
          cases Option.some.inj ho
          have h60 : A.tmps[60]?.getD undef = .agg (mv (shf (f) ((a : Int)))) := (gd A 60).trans (show A.tmps.getD 60 undef = .agg (mv (shf (f) ((a : Int)))) from hhas 2 _ rfl (hdep ⟨2, .data⟩ (by simp) rfl) 60 rfl)
          have h62 : A.tmps[62]?.getD undef = .int .i64 (-((a : Int))) := (gd A 62).trans (show A.tmps.getD 62 undef = .int .i64 (-((a : Int))) from hhas 4 _ rfl (hdep ⟨4, .data⟩ (by simp) rfl) 62 rfl)
          refine wpOp_step rfl (fun K hK => ?_)
          go_simp
          refine (shift_any (shf (f) ((a : Int))) (-((a : Int))) _ (by omega) (by omega)).mono ?_
          rintro e W' ⟨rfl, hb⟩
          exact hK _ _ (fin _ 63 _ hb rfl)
        | 6, ho =>
          cases Option.some.inj ho
          have h4 : A.eval (.tmp 4) = .pointer (some ⟨w.heap.size, 0, none⟩) := (hkept 4 (fun j p hp _ => nd (by kernel_rfl) j p hp))
          have hg := (hJ.block _ (lt_of_block hm3)).trans hm3
          refine wpOp_step rfl (fun K hK => ?_)
          show Oper.wp _ _ _ _ _ _
          refine wp_load_row 24 _ rfl _ h4 _ _ _ _ hg maskType rfl (maskSize _) ?_
          exact hK _ _ (fin _ 64 _ (Below.refl _ _) rfl)
        | 7, ho =>
          cases Option.some.inj ho
          have h9 : A.eval (.tmp 9) = .pointer (some ⟨w2.heap.size, 0, none⟩) := (hkept 9 (fun j p hp _ => nd (by kernel_rfl) j p hp))
          have hg := (hJ.block _ (lt_of_block hk3)).trans hk3
          refine wpOp_step rfl (fun K hK => ?_)
          show Oper.wp _ _ _ _ _ _
          refine wp_load_row 24 _ rfl _ h9 _ _ _ _ hg maskType rfl (maskSize _) ?_
          exact hK _ _ (fin _ 65 _ (Below.refl _ _) rfl)
        | 8, ho =>
          cases Option.some.inj ho
          have h64 : A.tmps[64]?.getD undef = .agg (mv (f)) := (gd A 64).trans (show A.tmps.getD 64 undef = .agg (mv (f)) from hhas 6 _ rfl (hdep ⟨6, .data⟩ (by simp) rfl) 64 rfl)
          have h65 : A.tmps[65]?.getD undef = .agg (mv (inl [((0 : Int), 1440 - (a : Int))])) := (gd A 65).trans (show A.tmps.getD 65 undef = .agg (mv (inl [((0 : Int), 1440 - (a : Int))])) from hhas 7 _ rfl (hdep ⟨7, .data⟩ (by simp) rfl) 65 rfl)
          refine wpOp_step rfl (fun K hK => ?_)
          go_simp
          refine (both_any (f) (inl [((0 : Int), 1440 - (a : Int))]) _).mono ?_
          rintro e W' ⟨rfl, hb⟩
          exact hK _ _ (fin _ 66 _ hb rfl)
        | 9, ho =>
          cases Option.some.inj ho
          have h63 : A.tmps[63]?.getD undef = .agg (mv (shf (shf (f) ((a : Int))) (-((a : Int))))) := (gd A 63).trans (show A.tmps.getD 63 undef = .agg (mv (shf (shf (f) ((a : Int))) (-((a : Int))))) from hhas 5 _ rfl (hdep ⟨5, .data⟩ (by simp) rfl) 63 rfl)
          have h66 : A.tmps[66]?.getD undef = .agg (mv (fun i => ((f) i && (inl [((0 : Int), 1440 - (a : Int))]) i) && decide (i < 1440))) := (gd A 66).trans (show A.tmps.getD 66 undef = .agg (mv (fun i => ((f) i && (inl [((0 : Int), 1440 - (a : Int))]) i) && decide (i < 1440))) from hhas 8 _ rfl (hdep ⟨8, .data⟩ (by simp) rfl) 66 rfl)
          have he : ∀ w, (Op.equalIn 10000 24 (.agg (mv (shf (shf (f) ((a : Int))) (-((a : Int)))))) (.agg (mv (fun i => ((f) i && (inl [((0 : Int), 1440 - (a : Int))]) i) && decide (i < 1440))))).run Tryd.prog w = .ok true w := fun w => by rw [eq_mask, e_there f a ha]
          refine wpOp_step rfl (fun K hK => ?_)
          go_simp
          exact hK _ _ (fin _ 67 _ (Below.refl _ _) rfl)
        | k + 10, ho => simp at ho
      · intro L A W4 hL hJ hdef hsize hkept hhas
        obtain ⟨t, d⟩ := A
        have hd : d = [] := hdef
        subst hd
        clear hdef
        obtain ⟨l, rfl⟩ : ∃ l : List Value, t = l.toArray := ⟨t.toList, by simp⟩
        have hl : l.length = 96 := by
          have h : l.toArray.size = 96 := hsize
          simpa using h
        obtain ⟨u0, u1, u2, u3, u4, u5, u6, u7, u8, u9, u10, u11, u12, u13, u14, u15, u16, u17, u18, u19, u20, u21, u22, u23, u24, u25, u26, u27, u28, u29, u30, u31, u32, u33, u34, u35, u36, u37, u38, u39, u40, u41, u42, u43, u44, u45, u46, u47, u48, u49, u50, u51, u52, u53, u54, u55, u56, u57, u58, u59, u60, u61, u62, u63, u64, u65, u66, u67, u68, u69, u70, u71, u72, u73, u74, u75, u76, u77, u78, u79, u80, u81, u82, u83, u84, u85, u86, u87, u88, u89, u90, u91, u92, u93, u94, u95, rfl⟩ := list96 l hl
        have e2 : u2 = .int .i64 (a : Int) := hkept 2 (nd (by kernel_rfl))
        have e3 : u3 = .int .i64 (b : Int) := hkept 3 (nd (by kernel_rfl))
        have e4 : u4 = .pointer (some ⟨w.heap.size, 0, none⟩) := hkept 4 (nd (by kernel_rfl))
        have e5 : u5 = .pointer (some ⟨w.heap.size + 1, 0, none⟩) := hkept 5 (nd (by kernel_rfl))
        have e67 : u67 = .bool false := hhas 9 _ rfl 67 rfl
        subst e2 e3 e4 e5 e67
        have hm4 := (hJ.block _ (lt_of_block hm3)).trans hm3
        have hg4 := (hJ.block _ (lt_of_block hg3)).trans hg3
        have hbw4 := hbw3.trans (hJ.mono hbw3.size)
        clear hL hsize hkept hhas hl hJ hm3 hg3 hk3 hbw3
        go_wp2
        refine wp_region_flow (by kernel_rfl) (by kernel_rfl) (by kernel_rfl) (by kernel_rfl) (fun _ _ W => Below W4.heap.size W4 W) (fun i v _ => sp10 f g a i v) ?_ ?_ ?_
        · intro L hL
          exact (Below.refl _ _).drew
        · intro i o L A W ho hLi hdep hJ hdef hkept hhas
          clear hdef hLi
          have fin : ∀ (v : Value) (d : Nat) (W' : World), Below W.heap.size W W' → sp10 f g a i v → ∃ u, A.put (some d) v = A.put (some d) u ∧ (some d ≠ none → sp10 f g a i u) ∧ (∀ j x', L j = true → sp10 f g a j x' → sp10 f g a j x') ∧ Below W4.heap.size W4 W' := by
            intro v d W' hb hv
            exact ⟨v, rfl, fun _ => hv, fun _ _ _ h => h, hJ.trans (hb.mono hJ.size)⟩
          match i, ho with
          | 0, ho =>
            cases Option.some.inj ho
            have h4 : A.eval (.tmp 4) = .pointer (some ⟨w.heap.size, 0, none⟩) := (hkept 4 (fun j p hp _ => nd (by kernel_rfl) j p hp))
            have hg := (hJ.block _ (lt_of_block hm4)).trans hm4
            refine wpOp_step rfl (fun K hK => ?_)
            show Oper.wp _ _ _ _ _ _
            refine wp_load_row 24 _ rfl _ h4 _ _ _ _ hg maskType rfl (maskSize _) ?_
            exact hK _ _ (fin _ 68 _ (Below.refl _ _) rfl)
          | 1, ho =>
            cases Option.some.inj ho
            have h5 : A.eval (.tmp 5) = .pointer (some ⟨w.heap.size + 1, 0, none⟩) := (hkept 5 (fun j p hp _ => nd (by kernel_rfl) j p hp))
            have hg := (hJ.block _ (lt_of_block hg4)).trans hg4
            refine wpOp_step rfl (fun K hK => ?_)
            show Oper.wp _ _ _ _ _ _
            refine wp_load_row 24 _ rfl _ h5 _ _ _ _ hg maskType rfl (maskSize _) ?_
            exact hK _ _ (fin _ 69 _ (Below.refl _ _) rfl)
          | 2, ho =>
            cases Option.some.inj ho
            have h68 : A.tmps[68]?.getD undef = .agg (mv (f)) := (gd A 68).trans (show A.tmps.getD 68 undef = .agg (mv (f)) from hhas 0 _ rfl (hdep ⟨0, .data⟩ (by simp) rfl) 68 rfl)
            have h69 : A.tmps[69]?.getD undef = .agg (mv (g)) := (gd A 69).trans (show A.tmps.getD 69 undef = .agg (mv (g)) from hhas 1 _ rfl (hdep ⟨1, .data⟩ (by simp) rfl) 69 rfl)
            refine wpOp_step rfl (fun K hK => ?_)
            go_simp
            refine (union_any (f) (g) _).mono ?_
            rintro e W' ⟨rfl, hb⟩
            exact hK _ _ (fin _ 70 _ hb rfl)
          | 3, ho =>
            cases Option.some.inj ho
            have h2 : A.tmps[2]?.getD undef = .int .i64 ((a : Int)) := (gd A 2).trans (hkept 2 (fun j p hp _ => nd (by kernel_rfl) j p hp))
            refine wpOp_step rfl (fun K hK => ?_)
            go_simp
            exact hK _ _ (fin _ 71 _ (Below.refl _ _) rfl)
          | 4, ho =>
            cases Option.some.inj ho
            have h70 : A.tmps[70]?.getD undef = .agg (mv (fun i => ((f) i || (g) i) && decide (i < 1440))) := (gd A 70).trans (show A.tmps.getD 70 undef = .agg (mv (fun i => ((f) i || (g) i) && decide (i < 1440))) from hhas 2 _ rfl (hdep ⟨2, .data⟩ (by simp) rfl) 70 rfl)
            have h71 : A.tmps[71]?.getD undef = .int .i64 ((a : Int)) := (gd A 71).trans (show A.tmps.getD 71 undef = .int .i64 ((a : Int)) from hhas 3 _ rfl (hdep ⟨3, .data⟩ (by simp) rfl) 71 rfl)
            refine wpOp_step rfl (fun K hK => ?_)
            go_simp
            refine (shift_any (fun i => ((f) i || (g) i) && decide (i < 1440)) ((a : Int)) _ (by omega) (by omega)).mono ?_
            rintro e W' ⟨rfl, hb⟩
            exact hK _ _ (fin _ 72 _ hb rfl)
          | 5, ho =>
            cases Option.some.inj ho
            have h4 : A.eval (.tmp 4) = .pointer (some ⟨w.heap.size, 0, none⟩) := (hkept 4 (fun j p hp _ => nd (by kernel_rfl) j p hp))
            have hg := (hJ.block _ (lt_of_block hm4)).trans hm4
            refine wpOp_step rfl (fun K hK => ?_)
            show Oper.wp _ _ _ _ _ _
            refine wp_load_row 24 _ rfl _ h4 _ _ _ _ hg maskType rfl (maskSize _) ?_
            exact hK _ _ (fin _ 73 _ (Below.refl _ _) rfl)
          | 6, ho =>
            cases Option.some.inj ho
            have h2 : A.tmps[2]?.getD undef = .int .i64 ((a : Int)) := (gd A 2).trans (hkept 2 (fun j p hp _ => nd (by kernel_rfl) j p hp))
            refine wpOp_step rfl (fun K hK => ?_)
            go_simp
            exact hK _ _ (fin _ 74 _ (Below.refl _ _) rfl)
          | 7, ho =>
            cases Option.some.inj ho
            have h73 : A.tmps[73]?.getD undef = .agg (mv (f)) := (gd A 73).trans (show A.tmps.getD 73 undef = .agg (mv (f)) from hhas 5 _ rfl (hdep ⟨5, .data⟩ (by simp) rfl) 73 rfl)
            have h74 : A.tmps[74]?.getD undef = .int .i64 ((a : Int)) := (gd A 74).trans (show A.tmps.getD 74 undef = .int .i64 ((a : Int)) from hhas 6 _ rfl (hdep ⟨6, .data⟩ (by simp) rfl) 74 rfl)
            refine wpOp_step rfl (fun K hK => ?_)
            go_simp
            refine (shift_any (f) ((a : Int)) _ (by omega) (by omega)).mono ?_
            rintro e W' ⟨rfl, hb⟩
            exact hK _ _ (fin _ 75 _ hb rfl)
          | 8, ho =>
            cases Option.some.inj ho
            have h5 : A.eval (.tmp 5) = .pointer (some ⟨w.heap.size + 1, 0, none⟩) := (hkept 5 (fun j p hp _ => nd (by kernel_rfl) j p hp))
            have hg := (hJ.block _ (lt_of_block hg4)).trans hg4
            refine wpOp_step rfl (fun K hK => ?_)
            show Oper.wp _ _ _ _ _ _
            refine wp_load_row 24 _ rfl _ h5 _ _ _ _ hg maskType rfl (maskSize _) ?_
            exact hK _ _ (fin _ 76 _ (Below.refl _ _) rfl)
          | 9, ho =>
            cases Option.some.inj ho
            have h2 : A.tmps[2]?.getD undef = .int .i64 ((a : Int)) := (gd A 2).trans (hkept 2 (fun j p hp _ => nd (by kernel_rfl) j p hp))
            refine wpOp_step rfl (fun K hK => ?_)
            go_simp
            exact hK _ _ (fin _ 77 _ (Below.refl _ _) rfl)
          | 10, ho =>
            cases Option.some.inj ho
            have h76 : A.tmps[76]?.getD undef = .agg (mv (g)) := (gd A 76).trans (show A.tmps.getD 76 undef = .agg (mv (g)) from hhas 8 _ rfl (hdep ⟨8, .data⟩ (by simp) rfl) 76 rfl)
            have h77 : A.tmps[77]?.getD undef = .int .i64 ((a : Int)) := (gd A 77).trans (show A.tmps.getD 77 undef = .int .i64 ((a : Int)) from hhas 9 _ rfl (hdep ⟨9, .data⟩ (by simp) rfl) 77 rfl)
            refine wpOp_step rfl (fun K hK => ?_)
            go_simp
            refine (shift_any (g) ((a : Int)) _ (by omega) (by omega)).mono ?_
            rintro e W' ⟨rfl, hb⟩
            exact hK _ _ (fin _ 78 _ hb rfl)
          | 11, ho =>
            cases Option.some.inj ho
            have h75 : A.tmps[75]?.getD undef = .agg (mv (shf (f) ((a : Int)))) := (gd A 75).trans (show A.tmps.getD 75 undef = .agg (mv (shf (f) ((a : Int)))) from hhas 7 _ rfl (hdep ⟨7, .data⟩ (by simp) rfl) 75 rfl)
            have h78 : A.tmps[78]?.getD undef = .agg (mv (shf (g) ((a : Int)))) := (gd A 78).trans (show A.tmps.getD 78 undef = .agg (mv (shf (g) ((a : Int)))) from hhas 10 _ rfl (hdep ⟨10, .data⟩ (by simp) rfl) 78 rfl)
            refine wpOp_step rfl (fun K hK => ?_)
            go_simp
            refine (union_any (shf (f) ((a : Int))) (shf (g) ((a : Int))) _).mono ?_
            rintro e W' ⟨rfl, hb⟩
            exact hK _ _ (fin _ 79 _ hb rfl)
          | 12, ho =>
            cases Option.some.inj ho
            have h72 : A.tmps[72]?.getD undef = .agg (mv (shf (fun i => ((f) i || (g) i) && decide (i < 1440)) ((a : Int)))) := (gd A 72).trans (show A.tmps.getD 72 undef = .agg (mv (shf (fun i => ((f) i || (g) i) && decide (i < 1440)) ((a : Int)))) from hhas 4 _ rfl (hdep ⟨4, .data⟩ (by simp) rfl) 72 rfl)
            have h79 : A.tmps[79]?.getD undef = .agg (mv (fun i => ((shf (f) ((a : Int))) i || (shf (g) ((a : Int))) i) && decide (i < 1440))) := (gd A 79).trans (show A.tmps.getD 79 undef = .agg (mv (fun i => ((shf (f) ((a : Int))) i || (shf (g) ((a : Int))) i) && decide (i < 1440))) from hhas 11 _ rfl (hdep ⟨11, .data⟩ (by simp) rfl) 79 rfl)
            have he : ∀ w, (Op.equalIn 10000 24 (.agg (mv (shf (fun i => ((f) i || (g) i) && decide (i < 1440)) ((a : Int))))) (.agg (mv (fun i => ((shf (f) ((a : Int))) i || (shf (g) ((a : Int))) i) && decide (i < 1440))))).run Tryd.prog w = .ok true w := fun w => by rw [eq_mask, e_union f g a]
            refine wpOp_step rfl (fun K hK => ?_)
            go_simp
            exact hK _ _ (fin _ 80 _ (Below.refl _ _) rfl)
          | 13, ho =>
            cases Option.some.inj ho
            have h80 : A.tmps[80]?.getD undef = .bool true := (gd A 80).trans (show A.tmps.getD 80 undef = .bool true from hhas 12 _ rfl (hdep ⟨12, .data⟩ (by simp) rfl) 80 rfl)
            refine wpOp_step rfl (fun K hK => ?_)
            go_simp
            exact hK _ _ (fin _ 81 _ (Below.refl _ _) rfl)
          | 14, ho =>
            cases Option.some.inj ho
            have hG : A.tmps[81]? = some (.bool true) := gdb (show A.tmps.getD 81 undef = .bool true from hhas 13 _ rfl (hdep ⟨13, .guard⟩ (by simp) rfl) 81 rfl)
            have h4 : A.eval (.tmp 4) = .pointer (some ⟨w.heap.size, 0, none⟩) := (hkept 4 (fun j p hp _ => nd (by kernel_rfl) j p hp))
            have hg := (hJ.block _ (lt_of_block hm4)).trans hm4
            refine wpOp_step rfl (fun K hK => ?_)
            rw [if_pos (by simp [Region.wanted, yielded, hG])]
            refine wp_load_row 24 _ rfl _ h4 _ _ _ _ hg maskType rfl (maskSize _) ?_
            exact hK _ _ (fin _ 82 _ (Below.refl _ _) rfl)
          | 15, ho =>
            cases Option.some.inj ho
            have hG : A.tmps[81]? = some (.bool true) := gdb (show A.tmps.getD 81 undef = .bool true from hhas 13 _ rfl (hdep ⟨13, .guard⟩ (by simp) rfl) 81 rfl)
            have h5 : A.eval (.tmp 5) = .pointer (some ⟨w.heap.size + 1, 0, none⟩) := (hkept 5 (fun j p hp _ => nd (by kernel_rfl) j p hp))
            have hg := (hJ.block _ (lt_of_block hg4)).trans hg4
            refine wpOp_step rfl (fun K hK => ?_)
            rw [if_pos (by simp [Region.wanted, yielded, hG])]
            refine wp_load_row 24 _ rfl _ h5 _ _ _ _ hg maskType rfl (maskSize _) ?_
            exact hK _ _ (fin _ 83 _ (Below.refl _ _) rfl)
          | 16, ho =>
            cases Option.some.inj ho
            have hG : A.tmps[81]? = some (.bool true) := gdb (show A.tmps.getD 81 undef = .bool true from hhas 13 _ rfl (hdep ⟨13, .guard⟩ (by simp) rfl) 81 rfl)
            have h82 : A.tmps[82]?.getD undef = .agg (mv (f)) := (gd A 82).trans (show A.tmps.getD 82 undef = .agg (mv (f)) from hhas 14 _ rfl (hdep ⟨14, .data⟩ (by simp) rfl) 82 rfl)
            have h83 : A.tmps[83]?.getD undef = .agg (mv (g)) := (gd A 83).trans (show A.tmps.getD 83 undef = .agg (mv (g)) from hhas 15 _ rfl (hdep ⟨15, .data⟩ (by simp) rfl) 83 rfl)
            refine wpOp_step rfl (fun K hK => ?_)
            go_simp
            refine (both_any (f) (g) _).mono ?_
            rintro e W' ⟨rfl, hb⟩
            exact hK _ _ (fin _ 84 _ hb rfl)
          | 17, ho =>
            cases Option.some.inj ho
            have hG : A.tmps[81]? = some (.bool true) := gdb (show A.tmps.getD 81 undef = .bool true from hhas 13 _ rfl (hdep ⟨13, .guard⟩ (by simp) rfl) 81 rfl)
            have h2 : A.tmps[2]?.getD undef = .int .i64 ((a : Int)) := (gd A 2).trans (hkept 2 (fun j p hp _ => nd (by kernel_rfl) j p hp))
            refine wpOp_step rfl (fun K hK => ?_)
            go_simp
            exact hK _ _ (fin _ 85 _ (Below.refl _ _) rfl)
          | 18, ho =>
            cases Option.some.inj ho
            have hG : A.tmps[81]? = some (.bool true) := gdb (show A.tmps.getD 81 undef = .bool true from hhas 13 _ rfl (hdep ⟨13, .guard⟩ (by simp) rfl) 81 rfl)
            have h84 : A.tmps[84]?.getD undef = .agg (mv (fun i => ((f) i && (g) i) && decide (i < 1440))) := (gd A 84).trans (show A.tmps.getD 84 undef = .agg (mv (fun i => ((f) i && (g) i) && decide (i < 1440))) from hhas 16 _ rfl (hdep ⟨16, .data⟩ (by simp) rfl) 84 rfl)
            have h85 : A.tmps[85]?.getD undef = .int .i64 ((a : Int)) := (gd A 85).trans (show A.tmps.getD 85 undef = .int .i64 ((a : Int)) from hhas 17 _ rfl (hdep ⟨17, .data⟩ (by simp) rfl) 85 rfl)
            refine wpOp_step rfl (fun K hK => ?_)
            go_simp
            refine (shift_any (fun i => ((f) i && (g) i) && decide (i < 1440)) ((a : Int)) _ (by omega) (by omega)).mono ?_
            rintro e W' ⟨rfl, hb⟩
            exact hK _ _ (fin _ 86 _ hb rfl)
          | 19, ho =>
            cases Option.some.inj ho
            have hG : A.tmps[81]? = some (.bool true) := gdb (show A.tmps.getD 81 undef = .bool true from hhas 13 _ rfl (hdep ⟨13, .guard⟩ (by simp) rfl) 81 rfl)
            have h4 : A.eval (.tmp 4) = .pointer (some ⟨w.heap.size, 0, none⟩) := (hkept 4 (fun j p hp _ => nd (by kernel_rfl) j p hp))
            have hg := (hJ.block _ (lt_of_block hm4)).trans hm4
            refine wpOp_step rfl (fun K hK => ?_)
            rw [if_pos (by simp [Region.wanted, yielded, hG])]
            refine wp_load_row 24 _ rfl _ h4 _ _ _ _ hg maskType rfl (maskSize _) ?_
            exact hK _ _ (fin _ 87 _ (Below.refl _ _) rfl)
          | 20, ho =>
            cases Option.some.inj ho
            have hG : A.tmps[81]? = some (.bool true) := gdb (show A.tmps.getD 81 undef = .bool true from hhas 13 _ rfl (hdep ⟨13, .guard⟩ (by simp) rfl) 81 rfl)
            have h2 : A.tmps[2]?.getD undef = .int .i64 ((a : Int)) := (gd A 2).trans (hkept 2 (fun j p hp _ => nd (by kernel_rfl) j p hp))
            refine wpOp_step rfl (fun K hK => ?_)
            go_simp
            exact hK _ _ (fin _ 88 _ (Below.refl _ _) rfl)
          | 21, ho =>
            cases Option.some.inj ho
            have hG : A.tmps[81]? = some (.bool true) := gdb (show A.tmps.getD 81 undef = .bool true from hhas 13 _ rfl (hdep ⟨13, .guard⟩ (by simp) rfl) 81 rfl)
            have h87 : A.tmps[87]?.getD undef = .agg (mv (f)) := (gd A 87).trans (show A.tmps.getD 87 undef = .agg (mv (f)) from hhas 19 _ rfl (hdep ⟨19, .data⟩ (by simp) rfl) 87 rfl)
            have h88 : A.tmps[88]?.getD undef = .int .i64 ((a : Int)) := (gd A 88).trans (show A.tmps.getD 88 undef = .int .i64 ((a : Int)) from hhas 20 _ rfl (hdep ⟨20, .data⟩ (by simp) rfl) 88 rfl)
            refine wpOp_step rfl (fun K hK => ?_)
            go_simp
            refine (shift_any (f) ((a : Int)) _ (by omega) (by omega)).mono ?_
            rintro e W' ⟨rfl, hb⟩
            exact hK _ _ (fin _ 89 _ hb rfl)
          | 22, ho =>
            cases Option.some.inj ho
            have hG : A.tmps[81]? = some (.bool true) := gdb (show A.tmps.getD 81 undef = .bool true from hhas 13 _ rfl (hdep ⟨13, .guard⟩ (by simp) rfl) 81 rfl)
            have h5 : A.eval (.tmp 5) = .pointer (some ⟨w.heap.size + 1, 0, none⟩) := (hkept 5 (fun j p hp _ => nd (by kernel_rfl) j p hp))
            have hg := (hJ.block _ (lt_of_block hg4)).trans hg4
            refine wpOp_step rfl (fun K hK => ?_)
            rw [if_pos (by simp [Region.wanted, yielded, hG])]
            refine wp_load_row 24 _ rfl _ h5 _ _ _ _ hg maskType rfl (maskSize _) ?_
            exact hK _ _ (fin _ 90 _ (Below.refl _ _) rfl)
          | 23, ho =>
            cases Option.some.inj ho
            have hG : A.tmps[81]? = some (.bool true) := gdb (show A.tmps.getD 81 undef = .bool true from hhas 13 _ rfl (hdep ⟨13, .guard⟩ (by simp) rfl) 81 rfl)
            have h2 : A.tmps[2]?.getD undef = .int .i64 ((a : Int)) := (gd A 2).trans (hkept 2 (fun j p hp _ => nd (by kernel_rfl) j p hp))
            refine wpOp_step rfl (fun K hK => ?_)
            go_simp
            exact hK _ _ (fin _ 91 _ (Below.refl _ _) rfl)
          | 24, ho =>
            cases Option.some.inj ho
            have hG : A.tmps[81]? = some (.bool true) := gdb (show A.tmps.getD 81 undef = .bool true from hhas 13 _ rfl (hdep ⟨13, .guard⟩ (by simp) rfl) 81 rfl)
            have h90 : A.tmps[90]?.getD undef = .agg (mv (g)) := (gd A 90).trans (show A.tmps.getD 90 undef = .agg (mv (g)) from hhas 22 _ rfl (hdep ⟨22, .data⟩ (by simp) rfl) 90 rfl)
            have h91 : A.tmps[91]?.getD undef = .int .i64 ((a : Int)) := (gd A 91).trans (show A.tmps.getD 91 undef = .int .i64 ((a : Int)) from hhas 23 _ rfl (hdep ⟨23, .data⟩ (by simp) rfl) 91 rfl)
            refine wpOp_step rfl (fun K hK => ?_)
            go_simp
            refine (shift_any (g) ((a : Int)) _ (by omega) (by omega)).mono ?_
            rintro e W' ⟨rfl, hb⟩
            exact hK _ _ (fin _ 92 _ hb rfl)
          | 25, ho =>
            cases Option.some.inj ho
            have hG : A.tmps[81]? = some (.bool true) := gdb (show A.tmps.getD 81 undef = .bool true from hhas 13 _ rfl (hdep ⟨13, .guard⟩ (by simp) rfl) 81 rfl)
            have h89 : A.tmps[89]?.getD undef = .agg (mv (shf (f) ((a : Int)))) := (gd A 89).trans (show A.tmps.getD 89 undef = .agg (mv (shf (f) ((a : Int)))) from hhas 21 _ rfl (hdep ⟨21, .data⟩ (by simp) rfl) 89 rfl)
            have h92 : A.tmps[92]?.getD undef = .agg (mv (shf (g) ((a : Int)))) := (gd A 92).trans (show A.tmps.getD 92 undef = .agg (mv (shf (g) ((a : Int)))) from hhas 24 _ rfl (hdep ⟨24, .data⟩ (by simp) rfl) 92 rfl)
            refine wpOp_step rfl (fun K hK => ?_)
            go_simp
            refine (both_any (shf (f) ((a : Int))) (shf (g) ((a : Int))) _).mono ?_
            rintro e W' ⟨rfl, hb⟩
            exact hK _ _ (fin _ 93 _ hb rfl)
          | 26, ho =>
            cases Option.some.inj ho
            have hG : A.tmps[81]? = some (.bool true) := gdb (show A.tmps.getD 81 undef = .bool true from hhas 13 _ rfl (hdep ⟨13, .guard⟩ (by simp) rfl) 81 rfl)
            have h86 : A.tmps[86]?.getD undef = .agg (mv (shf (fun i => ((f) i && (g) i) && decide (i < 1440)) ((a : Int)))) := (gd A 86).trans (show A.tmps.getD 86 undef = .agg (mv (shf (fun i => ((f) i && (g) i) && decide (i < 1440)) ((a : Int)))) from hhas 18 _ rfl (hdep ⟨18, .data⟩ (by simp) rfl) 86 rfl)
            have h93 : A.tmps[93]?.getD undef = .agg (mv (fun i => ((shf (f) ((a : Int))) i && (shf (g) ((a : Int))) i) && decide (i < 1440))) := (gd A 93).trans (show A.tmps.getD 93 undef = .agg (mv (fun i => ((shf (f) ((a : Int))) i && (shf (g) ((a : Int))) i) && decide (i < 1440))) from hhas 25 _ rfl (hdep ⟨25, .data⟩ (by simp) rfl) 93 rfl)
            have he : ∀ w, (Op.equalIn 10000 24 (.agg (mv (shf (fun i => ((f) i && (g) i) && decide (i < 1440)) ((a : Int))))) (.agg (mv (fun i => ((shf (f) ((a : Int))) i && (shf (g) ((a : Int))) i) && decide (i < 1440))))).run Tryd.prog w = .ok true w := fun w => by rw [eq_mask, e_meet f g a]
            refine wpOp_step rfl (fun K hK => ?_)
            go_simp
            exact hK _ _ (fin _ 94 _ (Below.refl _ _) rfl)
          | 27, ho =>
            cases Option.some.inj ho
            have h81 : A.tmps[81]?.getD undef = .bool true := (gd A 81).trans (show A.tmps.getD 81 undef = .bool true from hhas 13 _ rfl (hdep ⟨13, .data⟩ (by simp) rfl) 81 rfl)
            have h94 : A.tmps[94]?.getD undef = .bool true := (gd A 94).trans (show A.tmps.getD 94 undef = .bool true from hhas 26 _ rfl (hdep ⟨26, .data⟩ (by simp) rfl) 94 rfl)
            refine wpOp_step rfl (fun K hK => ?_)
            go_simp
            exact hK _ _ (fin _ 95 _ (Below.refl _ _) rfl)
          | 28, ho =>
            cases Option.some.inj ho
            have h95 : A.tmps[95]?.getD undef = .bool true := (gd A 95).trans (show A.tmps.getD 95 undef = .bool true from hhas 27 _ rfl (hdep ⟨27, .data⟩ (by simp) rfl) 95 rfl)
            refine wpOp_step rfl (fun K hK => ?_)
            go_simp
            exact hK _ _ (fin _ 8 _ (Below.refl _ _) rfl)
          | k + 29, ho => simp at ho
        · intro L A W5 hL hJ hdef hsize hkept hhas
          have h8 : A.tmps[8]?.getD undef = .bool true := (gd A 8).trans (show A.tmps.getD 8 undef = .bool true from hhas 28 _ rfl 8 rfl)
          have hbw5 := hbw4.trans (hJ.mono hbw4.size)
          clear hL hkept hhas hsize hz
          go_wp2
          refine bodyPost_ret (v := .bool true) ?_ hdef ⟨rfl, hbw5⟩
          simp [results, Tryd.results4, h8]
end Go.Proofs.YtlpnkljcgkfnkabDoor
