/- Functions of the library by what the library itself proves of them over any program: this program bears their bodies. -/
import Derived.Shelf.Strings.BuilderK
import Derived.Shelf.Strings.OnBuilder
import Derived.Shelf.Strings.Repeat
import Derived.Shelf.Strconv.Itoa3
import Derived.Lib.AppendIntMem
import Derived.Test.YtfibbmdkpgageaaDoorChecked
import Derived.Test.YtfibbmdkpgageaaDoorRows
import Derived.Lib.Strings
import Derived.Lib.Bytealg
namespace Go.Proofs.YtfibbmdkpgageaaDoor
open Go.Shelf Go.RowKit

def lays170_ren : Go.Shelf.Ren := ⟨fun | 170 => 33 | n => n, fun | 70 => 66 | 3 => 3 | 0 => 0 | 72 => 69 | 37 => 67 | 5 => 5 | n => n, fun | n => n⟩
theorem lays170 : Go.Proofs.Lays.n170 Tryd.prog lays170_ren := {
  mixed := by kernel_rfl
  f170 := Tryd.func33.trans (congrArg some (by kernel_rfl))
  t0 := Tryd.underlying0
  a0 := Tryd.isAgg0
  z0 := Tryd.sizeOf0
  v0 := Tryd.zeroValue0
  t3 := Tryd.underlying3
  a3 := Tryd.isAgg3
  z3 := Tryd.sizeOf3
  v3 := Tryd.zeroValue3
  t37 := Tryd.underlying67
  a37 := Tryd.isAgg67
  z37 := Tryd.sizeOf67
  v37 := Tryd.zeroValue67
  t70 := Tryd.underlying66
  a70 := Tryd.isAgg66
  z70 := Tryd.sizeOf66
  v70 := Tryd.zeroValue66
  t72 := Tryd.underlying69
  a72 := Tryd.isAgg69
  z72 := Tryd.sizeOf69
  v72 := Tryd.zeroValue69 }
def lays169_ren : Go.Shelf.Ren := ⟨fun | 169 => 34 | n => n, fun | 70 => 66 | 9 => 9 | 0 => 0 | 72 => 69 | 37 => 67 | 127 => 91 | 3 => 3 | 5 => 5 | n => n, fun | n => n⟩
theorem lays169 : Go.Proofs.Lays.n169 Tryd.prog lays169_ren := {
  mixed := by kernel_rfl
  f169 := Tryd.func34.trans (congrArg some (by kernel_rfl))
  t0 := Tryd.underlying0
  a0 := Tryd.isAgg0
  z0 := Tryd.sizeOf0
  v0 := Tryd.zeroValue0
  t3 := Tryd.underlying3
  a3 := Tryd.isAgg3
  z3 := Tryd.sizeOf3
  v3 := Tryd.zeroValue3
  t9 := Tryd.underlying9
  a9 := Tryd.isAgg9
  z9 := Tryd.sizeOf9
  v9 := Tryd.zeroValue9
  t37 := Tryd.underlying67
  a37 := Tryd.isAgg67
  z37 := Tryd.sizeOf67
  v37 := Tryd.zeroValue67
  t70 := Tryd.underlying66
  a70 := Tryd.isAgg66
  z70 := Tryd.sizeOf66
  v70 := Tryd.zeroValue66
  t72 := Tryd.underlying69
  a72 := Tryd.isAgg69
  z72 := Tryd.sizeOf69
  v72 := Tryd.zeroValue69
  t127 := Tryd.underlying91
  a127 := Tryd.isAgg91
  z127 := Tryd.sizeOf91
  v127 := Tryd.zeroValue91 }
theorem Builder_Extra_169 : Builder.Extra Tryd.prog lays169_ren := {
  sizeBuilder := by kernel_rfl
  liesBuilder := by kernel_rfl
  t5 := Tryd.underlying5
  a5 := Tryd.isAgg5
  z5 := Tryd.sizeOf5
  v5 := Tryd.zeroValue5
  infoByte := by kernel_rfl
  cellsByte := by kernel_rfl
  sizeByte := by kernel_rfl
  neB5 := by decide }
def lays156_ren : Go.Shelf.Ren := ⟨fun | 156 => 105 | 165 => 116 | 166 => 31 | 169 => 34 | 240 => 56 | 241 => 125 | 276 => 82 | 277 => 140 | n => n, fun | 31 => 93 | 9 => 9 | 3 => 3 | 4 => 4 | 0 => 0 | 20 => 20 | 72 => 69 | 76 => 72 | 70 => 66 | 37 => 67 | 75 => 71 | 127 => 91 | 164 => 106 | 5 => 5 | 80 => 76 | n => n, fun | n => n⟩
theorem lays156 : Go.Proofs.Lays.n156 Tryd.prog lays156_ren := {
  mixed := by kernel_rfl
  f156 := Tryd.func105.trans (congrArg some (by kernel_rfl))
  f165 := Tryd.func116.trans (congrArg some (by kernel_rfl))
  f166 := Tryd.func31.trans (congrArg some (by kernel_rfl))
  f169 := Tryd.func34.trans (congrArg some (by kernel_rfl))
  f240 := Tryd.func56.trans (congrArg some (by kernel_rfl))
  f241 := Tryd.func125.trans (congrArg some (by kernel_rfl))
  f276 := Tryd.func82.trans (congrArg some (by kernel_rfl))
  f277 := Tryd.func140.trans (congrArg some (by kernel_rfl))
  t0 := Tryd.underlying0
  a0 := Tryd.isAgg0
  z0 := Tryd.sizeOf0
  v0 := Tryd.zeroValue0
  t3 := Tryd.underlying3
  a3 := Tryd.isAgg3
  z3 := Tryd.sizeOf3
  v3 := Tryd.zeroValue3
  t4 := Tryd.underlying4
  a4 := Tryd.isAgg4
  z4 := Tryd.sizeOf4
  v4 := Tryd.zeroValue4
  t9 := Tryd.underlying9
  a9 := Tryd.isAgg9
  z9 := Tryd.sizeOf9
  v9 := Tryd.zeroValue9
  t20 := Tryd.underlying20
  a20 := Tryd.isAgg20
  z20 := Tryd.sizeOf20
  v20 := Tryd.zeroValue20
  t31 := Tryd.underlying93
  a31 := Tryd.isAgg93
  z31 := Tryd.sizeOf93
  v31 := Tryd.zeroValue93
  t37 := Tryd.underlying67
  a37 := Tryd.isAgg67
  z37 := Tryd.sizeOf67
  v37 := Tryd.zeroValue67
  t70 := Tryd.underlying66
  a70 := Tryd.isAgg66
  z70 := Tryd.sizeOf66
  v70 := Tryd.zeroValue66
  t72 := Tryd.underlying69
  a72 := Tryd.isAgg69
  z72 := Tryd.sizeOf69
  v72 := Tryd.zeroValue69
  t75 := Tryd.underlying71
  a75 := Tryd.isAgg71
  z75 := Tryd.sizeOf71
  v75 := Tryd.zeroValue71
  t76 := Tryd.underlying72
  a76 := Tryd.isAgg72
  z76 := Tryd.sizeOf72
  v76 := Tryd.zeroValue72
  t127 := Tryd.underlying91
  a127 := Tryd.isAgg91
  z127 := Tryd.sizeOf91
  v127 := Tryd.zeroValue91
  t164 := Tryd.underlying106
  a164 := Tryd.isAgg106
  z164 := Tryd.sizeOf106
  v164 := Tryd.zeroValue106 }
theorem Builder_Extra_156 : Builder.Extra Tryd.prog lays156_ren := {
  sizeBuilder := by kernel_rfl
  liesBuilder := by kernel_rfl
  t5 := Tryd.underlying5
  a5 := Tryd.isAgg5
  z5 := Tryd.sizeOf5
  v5 := Tryd.zeroValue5
  infoByte := by kernel_rfl
  cellsByte := by kernel_rfl
  sizeByte := by kernel_rfl
  neB5 := by decide }
def lays105_ren : Go.Shelf.Ren := ⟨fun | 105 => 115 | 212 => 124 | 99 => 72 | 165 => 116 | 166 => 31 | 170 => 33 | 169 => 34 | 263 => 138 | 264 => 139 | 206 => 97 | 240 => 56 | 241 => 125 | 276 => 82 | 277 => 140 | n => n, fun | 9 => 9 | 3 => 3 | 4 => 4 | 20 => 20 | 0 => 0 | 46 => 132 | 109 => 133 | 5 => 5 | 72 => 69 | 76 => 72 | 51 => 137 | 146 => 142 | 53 => 127 | 148 => 144 | 70 => 66 | 37 => 67 | 75 => 71 | 127 => 91 | 164 => 106 | 80 => 76 | n => n, fun | n => n⟩
theorem lays105 : Go.Proofs.Lays.n105 Tryd.prog lays105_ren := {
  mixed := by kernel_rfl
  f99 := Tryd.func72.trans (congrArg some (by kernel_rfl))
  f105 := Tryd.func115.trans (congrArg some (by kernel_rfl))
  f165 := Tryd.func116.trans (congrArg some (by kernel_rfl))
  f166 := Tryd.func31.trans (congrArg some (by kernel_rfl))
  f169 := Tryd.func34.trans (congrArg some (by kernel_rfl))
  f170 := Tryd.func33.trans (congrArg some (by kernel_rfl))
  f206 := Tryd.func97.trans (congrArg some (by kernel_rfl))
  f212 := Tryd.func124.trans (congrArg some (by kernel_rfl))
  f240 := Tryd.func56.trans (congrArg some (by kernel_rfl))
  f241 := Tryd.func125.trans (congrArg some (by kernel_rfl))
  f263 := Tryd.func138.trans (congrArg some (by kernel_rfl))
  f264 := Tryd.func139.trans (congrArg some (by kernel_rfl))
  f276 := Tryd.func82.trans (congrArg some (by kernel_rfl))
  f277 := Tryd.func140.trans (congrArg some (by kernel_rfl))
  t0 := Tryd.underlying0
  a0 := Tryd.isAgg0
  z0 := Tryd.sizeOf0
  v0 := Tryd.zeroValue0
  t3 := Tryd.underlying3
  a3 := Tryd.isAgg3
  z3 := Tryd.sizeOf3
  v3 := Tryd.zeroValue3
  t4 := Tryd.underlying4
  a4 := Tryd.isAgg4
  z4 := Tryd.sizeOf4
  v4 := Tryd.zeroValue4
  t5 := Tryd.underlying5
  a5 := Tryd.isAgg5
  z5 := Tryd.sizeOf5
  v5 := Tryd.zeroValue5
  t9 := Tryd.underlying9
  a9 := Tryd.isAgg9
  z9 := Tryd.sizeOf9
  v9 := Tryd.zeroValue9
  t20 := Tryd.underlying20
  a20 := Tryd.isAgg20
  z20 := Tryd.sizeOf20
  v20 := Tryd.zeroValue20
  t37 := Tryd.underlying67
  a37 := Tryd.isAgg67
  z37 := Tryd.sizeOf67
  v37 := Tryd.zeroValue67
  t46 := Tryd.underlying132
  a46 := Tryd.isAgg132
  z46 := Tryd.sizeOf132
  v46 := Tryd.zeroValue132
  t51 := Tryd.underlying137
  a51 := Tryd.isAgg137
  z51 := Tryd.sizeOf137
  v51 := Tryd.zeroValue137
  t53 := Tryd.underlying127
  a53 := Tryd.isAgg127
  z53 := Tryd.sizeOf127
  v53 := Tryd.zeroValue127
  t70 := Tryd.underlying66
  a70 := Tryd.isAgg66
  z70 := Tryd.sizeOf66
  v70 := Tryd.zeroValue66
  t72 := Tryd.underlying69
  a72 := Tryd.isAgg69
  z72 := Tryd.sizeOf69
  v72 := Tryd.zeroValue69
  t75 := Tryd.underlying71
  a75 := Tryd.isAgg71
  z75 := Tryd.sizeOf71
  v75 := Tryd.zeroValue71
  t76 := Tryd.underlying72
  a76 := Tryd.isAgg72
  z76 := Tryd.sizeOf72
  v76 := Tryd.zeroValue72
  t109 := Tryd.underlying133
  a109 := Tryd.isAgg133
  z109 := Tryd.sizeOf133
  v109 := Tryd.zeroValue133
  t127 := Tryd.underlying91
  a127 := Tryd.isAgg91
  z127 := Tryd.sizeOf91
  v127 := Tryd.zeroValue91
  t146 := Tryd.underlying142
  a146 := Tryd.isAgg142
  z146 := Tryd.sizeOf142
  v146 := Tryd.zeroValue142
  t148 := Tryd.underlying144
  a148 := Tryd.isAgg144
  z148 := Tryd.sizeOf144
  v148 := Tryd.zeroValue144
  t164 := Tryd.underlying106
  a164 := Tryd.isAgg106
  z164 := Tryd.sizeOf106
  v164 := Tryd.zeroValue106 }
theorem Builder_Extra_105 : Builder.Extra Tryd.prog lays105_ren := {
  sizeBuilder := by kernel_rfl
  liesBuilder := by kernel_rfl
  t5 := Tryd.underlying5
  a5 := Tryd.isAgg5
  z5 := Tryd.sizeOf5
  v5 := Tryd.zeroValue5
  infoByte := by kernel_rfl
  cellsByte := by kernel_rfl
  sizeByte := by kernel_rfl
  neB5 := by decide }
def laysM171_ren : Go.Shelf.Ren := ⟨fun | 171 => 60 | 243 => 88 | 246 => 107 | 283 => 118 | 284 => 119 | 285 => 120 | 286 => 121 | 129 => 130 | 317 => 129 | 318 => 131 | 319 => 132 | 320 => 133 | 337 => 141 | 338 => 142 | n => n, fun | 3 => 3 | 9 => 9 | 2 => 2 | 4 => 4 | 171 => 126 | 0 => 0 | 53 => 127 | 37 => 67 | 5 => 5 | 173 => 130 | 212 => 136 | 51 => 137 | 20 => 20 | 213 => 138 | 46 => 132 | 232 => 149 | 233 => 150 | n => n, fun | 17 => 3 | 18 => 4 | 19 => 5 | n => n⟩
theorem laysM171 : Go.Proofs.LaysM.n171 Tryd.prog laysM171_ren := {
  mixed := by kernel_rfl
  f129 := Tryd.func130.trans (congrArg some (by kernel_rfl))
  f171 := Tryd.func60.trans (congrArg some (by kernel_rfl))
  f243 := Tryd.func88.trans (congrArg some (by kernel_rfl))
  f246 := Tryd.func107.trans (congrArg some (by kernel_rfl))
  f283 := Tryd.func118.trans (congrArg some (by kernel_rfl))
  f284 := Tryd.func119.trans (congrArg some (by kernel_rfl))
  f285 := Tryd.func120.trans (congrArg some (by kernel_rfl))
  f286 := Tryd.func121.trans (congrArg some (by kernel_rfl))
  f317 := Tryd.func129.trans (congrArg some (by kernel_rfl))
  f318 := Tryd.func131.trans (congrArg some (by kernel_rfl))
  f319 := Tryd.func132.trans (congrArg some (by kernel_rfl))
  f320 := Tryd.func133.trans (congrArg some (by kernel_rfl))
  f337 := Tryd.func141.trans (congrArg some (by kernel_rfl))
  f338 := Tryd.func142.trans (congrArg some (by kernel_rfl))
  t0 := Tryd.underlying0
  a0 := Tryd.isAgg0
  z0 := Tryd.sizeOf0
  v0 := Tryd.zeroValue0
  t2 := Tryd.underlying2
  a2 := Tryd.isAgg2
  z2 := Tryd.sizeOf2
  v2 := Tryd.zeroValue2
  t3 := Tryd.underlying3
  a3 := Tryd.isAgg3
  z3 := Tryd.sizeOf3
  v3 := Tryd.zeroValue3
  t4 := Tryd.underlying4
  a4 := Tryd.isAgg4
  z4 := Tryd.sizeOf4
  v4 := Tryd.zeroValue4
  t5 := Tryd.underlying5
  a5 := Tryd.isAgg5
  z5 := Tryd.sizeOf5
  v5 := Tryd.zeroValue5
  t9 := Tryd.underlying9
  a9 := Tryd.isAgg9
  z9 := Tryd.sizeOf9
  v9 := Tryd.zeroValue9
  t20 := Tryd.underlying20
  a20 := Tryd.isAgg20
  z20 := Tryd.sizeOf20
  v20 := Tryd.zeroValue20
  t37 := Tryd.underlying67
  a37 := Tryd.isAgg67
  z37 := Tryd.sizeOf67
  v37 := Tryd.zeroValue67
  t46 := Tryd.underlying132
  a46 := Tryd.isAgg132
  z46 := Tryd.sizeOf132
  v46 := Tryd.zeroValue132
  t51 := Tryd.underlying137
  a51 := Tryd.isAgg137
  z51 := Tryd.sizeOf137
  v51 := Tryd.zeroValue137
  t53 := Tryd.underlying127
  a53 := Tryd.isAgg127
  z53 := Tryd.sizeOf127
  v53 := Tryd.zeroValue127
  t171 := Tryd.underlying126
  a171 := Tryd.isAgg126
  z171 := Tryd.sizeOf126
  v171 := Tryd.zeroValue126
  t173 := Tryd.underlying130
  a173 := Tryd.isAgg130
  z173 := Tryd.sizeOf130
  v173 := Tryd.zeroValue130
  t212 := Tryd.underlying136
  a212 := Tryd.isAgg136
  z212 := Tryd.sizeOf136
  v212 := Tryd.zeroValue136
  t213 := Tryd.underlying138
  a213 := Tryd.isAgg138
  z213 := Tryd.sizeOf138
  t232 := Tryd.underlying149
  a232 := Tryd.isAgg149
  z232 := Tryd.sizeOf149
  v232 := Tryd.zeroValue149
  t233 := Tryd.underlying150
  a233 := Tryd.isAgg150
  z233 := Tryd.sizeOf150
  v233 := Tryd.zeroValue150
  g17 := by kernel_rfl
  g18 := by kernel_rfl
  g19 := by kernel_rfl
  i0 := by kernel_rfl
  i2 := by kernel_rfl
  i3 := by kernel_rfl
  i4 := by kernel_rfl
  i5 := by kernel_rfl
  i9 := by kernel_rfl
  i20 := by kernel_rfl
  i37 := by kernel_rfl
  i46 := by kernel_rfl
  i51 := by kernel_rfl
  i53 := by kernel_rfl
  i171 := by kernel_rfl
  i173 := by kernel_rfl
  i212 := by kernel_rfl
  i232 := by kernel_rfl
  i233 := by kernel_rfl
  m17 := by kernel_rfl
  m18 := by kernel_rfl
  m19 := by kernel_rfl }
theorem lays166 : Go.Proofs.Lays.n166 Tryd.prog lays156_ren := {
  mixed := lays156.mixed
  f166 := lays156.f166
  f240 := lays156.f240
  f276 := lays156.f276
  t0 := lays156.t0
  a0 := lays156.a0
  z0 := lays156.z0
  v0 := lays156.v0
  t3 := lays156.t3
  a3 := lays156.a3
  z3 := lays156.z3
  v3 := lays156.v3
  t4 := lays156.t4
  a4 := lays156.a4
  z4 := lays156.z4
  v4 := lays156.v4
  t9 := lays156.t9
  a9 := lays156.a9
  z9 := lays156.z9
  v9 := lays156.v9
  t20 := lays156.t20
  a20 := lays156.a20
  z20 := lays156.z20
  v20 := lays156.v20
  t37 := lays156.t37
  a37 := lays156.a37
  z37 := lays156.z37
  v37 := lays156.v37
  t70 := lays156.t70
  a70 := lays156.a70
  z70 := lays156.z70
  v70 := lays156.v70
  t72 := lays156.t72
  a72 := lays156.a72
  z72 := lays156.z72
  v72 := lays156.v72
  t75 := lays156.t75
  a75 := lays156.a75
  z75 := lays156.z75
  v75 := lays156.v75
  t164 := lays156.t164
  a164 := lays156.a164
  z164 := lays156.z164
  v164 := lays156.v164 }

/-- The table of powers of ten. -/
def powName : String := Rows.parsePrintsRow.named.headD default
abbrev PowT (w : World) : Prop := Lib.TabIs Tryd.prog w powName .u64 Lib.pow10Tab
theorem itoa_small (i : Nat) (hi : i < 100) (w : World) : Calls Tryd.prog 60 #[.int .i64 (i : Int)] w fun e w' => e = .returned (.string ⟨(Lib.decDigits i).toArray⟩) ∧ w' = w :=
  Any.strconv_Itoa_small laysM171.ton171 i hi w
theorem itoa_any (n : Int) (h0 : -9223372036854775808 ≤ n) (h1 : n ≤ 9223372036854775807) (w : World) (ht : PowT w) : Calls Tryd.prog 60 #[.int .i64 n] w fun e w' => e = .returned (.string ⟨(Lib.itoa n).toArray⟩) ∧ Below w.heap.size w w' :=
  (Any.strconv_Itoa laysM171 n h0 h1 w ht).mono fun e w' ⟨he, k, os, hw⟩ => ⟨he, by rw [hw]; exact Lib.below_grow _ w (Nat.le_refl _) k os⟩
theorem rep_one (s : ByteArray) (w : World) : Calls Tryd.prog 115 #[.string s, .int .i64 1] w fun e w' => e = .returned (.string s) ∧ w' = w := Any.strings_Repeat_one lays105 s w
theorem rep_zero (s : ByteArray) (w : World) : Calls Tryd.prog 115 #[.string s, .int .i64 0] w fun e w' => e = .returned (.string ⟨#[]⟩) ∧ w' = w := Any.strings_Repeat_zero lays105 s w
theorem join_any (bk o c : Nat) (xs : List ByteArray) (sep : ByteArray) (w : World)
    (hcells : ∀ (j : Nat) x, xs[j]? = some x → w.cell? ⟨bk, o + j, none⟩ = some (.string x))
    (hbk : bk < w.heap.size) (hN : xs.length ≤ 140737488355328) (hcap : xs.length ≤ c)
    (hlen : (Lib.join (xs.map (·.data.toList)) sep.data.toList).length ≤ 140737488355328) :
    Calls Tryd.prog 105 #[.slice (some ⟨bk, o, none⟩) xs.length c, .string sep] w fun e w' => e = .returned (.string ⟨(Lib.join (xs.map (·.data.toList)) sep.data.toList).toArray⟩) ∧ Below w.heap.size w w' :=
  Any.strings_Join lays156 Builder_Extra_156 bk o c xs sep w hcells hbk hN hcap hlen
theorem wstr (B b : Nat) (bs : List Value) (s : ByteArray) (w : World) (h : Lib.IsBuilderF 69 5 B b bs w) (hlen : bs.length + s.size ≤ 140737488355328) (hBw : B ≤ w.heap.size) :
    Calls Tryd.prog 31 #[.pointer (some ⟨b, 0, none⟩), .string s] w fun e w' => e = .returned (.tuple #[.int .i64 s.size, .nilIface]) ∧ (Lib.BuilderAtF 69 5 B b (.pointer (some ⟨b, 0, none⟩)) (bs ++ Lib.strCells s) w' ∧ Below B w w' ∧ Lib.OthersKept 5 (some b) w w') :=
  Any.Builder_WriteString_k lays166 Builder_Extra_156 B b bs s w h hlen hBw
theorem bstr (B b : Nat) (l : List UInt8) (w : World) (h : Lib.IsBuilderF 69 5 B b (Lib.byteCells l) w) (hBw : B ≤ w.heap.size) :
    Calls Tryd.prog 34 #[.pointer (some ⟨b, 0, none⟩)] w fun e w' => e = .returned (.string ⟨l.toArray⟩) ∧ (Lib.IsBuilderF 69 5 B b (Lib.byteCells l) w' ∧ Below B w w' ∧ Lib.OthersKept 5 (some b) w w') :=
  Any.Builder_String_any_k lays169 Builder_Extra_169 B b l w h hBw
theorem blen (B b : Nat) (bs : List Value) (w : World) (h : Lib.IsBuilderF 69 5 B b bs w) :
    Calls Tryd.prog 33 #[.pointer (some ⟨b, 0, none⟩)] w fun e w' => e = .returned (.int .i64 bs.length) ∧ w' = w :=
  Any.Builder_Len_f lays170 B b bs w h
end Go.Proofs.YtfibbmdkpgageaaDoor

/- Plain facts about texts, byte by byte, that speak of no program: what is a digit, a letter, a word, a number. -/
namespace Lx

def isD (c : UInt8) : Bool := decide (48 ≤ c.toNat) && decide (c.toNat ≤ 57)
def isL (c : UInt8) : Bool := decide (97 ≤ c.toNat) && decide (c.toNat ≤ 122)
/-- What stands behind a word's first letter. -/
def isC (c : UInt8) : Bool := isL c || (isD c || decide (c.toNat = 95))
/-- How many bytes from the start are so. -/
def runOf (p : UInt8 → Bool) : List UInt8 → Nat
  | [] => 0
  | c :: l => if p c then runOf p l + 1 else 0
def wordLen : List UInt8 → Nat
  | [] => 0
  | c :: l => if isL c then runOf isC l + 1 else 0
theorem runOf_le (p : UInt8 → Bool) : ∀ l, runOf p l ≤ l.length
  | [] => by simp [runOf]
  | c :: l => by have := runOf_le p l; simp only [runOf]; split <;> simp; omega
theorem runOf_all (p : UInt8 → Bool) : ∀ l i, i < runOf p l → p (l.getD i 0) = true
  | [], i, h => by simp [runOf] at h
  | c :: l, i, h => by
    simp only [runOf] at h
    split at h
    · cases i with
      | zero => simpa
      | succ i => simpa using runOf_all p l i (by omega)
    · omega
theorem runOf_end (p : UInt8 → Bool) : ∀ l, runOf p l < l.length → p (l.getD (runOf p l) 0) = false
  | [], h => by simp at h
  | c :: l, h => by
    simp only [runOf] at h ⊢
    split at h
    · rename_i hc
      rw [if_pos hc]
      simpa using runOf_end p l (by simpa using h)
    · rename_i hc
      rw [if_neg hc]
      simpa using hc
/-- The run is told by its end. -/
theorem runOf_eq (p : UInt8 → Bool) : ∀ (l : List UInt8) (k : Nat), k ≤ l.length → (∀ i, i < k → p (l.getD i 0) = true) → (k < l.length → p (l.getD k 0) = false) → runOf p l = k
  | [], k, h, _, _ => by simp at h; subst h; rfl
  | c :: l, 0, _, _, h2 => by
    have := h2 (by simp)
    simp at this
    simp [runOf, this]
  | c :: l, k + 1, h, h1, h2 => by
    have hc := h1 0 (by omega)
    simp at hc
    have := runOf_eq p l k (by simpa using h) (fun i hi => by simpa using h1 (i + 1) (by omega)) (fun hk => by simpa using h2 (by simpa using hk))
    simp [runOf, hc, this]
theorem wordLen_le : ∀ l, wordLen l ≤ l.length
  | [] => by simp [wordLen]
  | c :: l => by have := runOf_le isC l; simp only [wordLen]; split <;> simp; omega
/-- What digits tell. -/
def valL (l : List UInt8) : Int := l.foldl (fun n c => 10 * n + ((c.toNat : Int) - 48)) 0
theorem valL_snoc (l : List UInt8) (c : UInt8) : valL (l ++ [c]) = 10 * valL l + ((c.toNat : Int) - 48) := by simp [valL]
theorem valL_take (l : List UInt8) (k : Nat) (hk : k < l.length) : valL (l.take (k + 1)) = 10 * valL (l.take k) + (((l.getD k 0).toNat : Int) - 48) := by
  rw [List.take_succ_eq_append_getElem hk, valL_snoc]
  simp [List.getD, hk]
theorem valL_bound (l : List UInt8) (h : ∀ i, i < l.length → isD (l.getD i 0) = true) : ∀ k, k ≤ l.length → 0 ≤ valL (l.take k) ∧ valL (l.take k) < ((10 ^ k : Nat) : Int)
  | 0, _ => by simp [valL]
  | k + 1, hk => by
    have ih := valL_bound l h k (by omega)
    have hd := h k (by omega)
    simp only [isD, Bool.and_eq_true, decide_eq_true_eq] at hd
    rw [valL_take l k (by omega), Nat.pow_succ]
    omega
theorem valL_small (l : List UInt8) (h : ∀ i, i < l.length → isD (l.getD i 0) = true) (k : Nat) (hk : k ≤ l.length) (h6 : k ≤ 6) : 0 ≤ valL (l.take k) ∧ valL (l.take k) < 1000000 := by
  have b := valL_bound l h k hk
  have : (10 : Nat) ^ k ≤ 10 ^ 6 := Nat.pow_le_pow_right (by omega) h6
  have e : (10 : Nat) ^ 6 = 1000000 := by decide
  omega
/-- Does a byte stand as a form asks it? A 0 stands for any digit, all else for itself. -/
def okB (f c : UInt8) : Bool := if f.toNat = 48 then isD c else decide (f.toNat = c.toNat)
def fitsL (l m : List UInt8) : Bool := decide (m.length ≤ l.length) && (List.range m.length).all fun i => okB (m.getD i 0) (l.getD i 0)
theorem fitsL_yes {l m : List UInt8} (h1 : m.length ≤ l.length) (h2 : ∀ i, i < m.length → okB (m.getD i 0) (l.getD i 0) = true) : fitsL l m = true := by
  unfold fitsL
  rw [decide_eq_true h1, Bool.true_and, List.all_eq_true]
  intro i hi
  exact h2 i (by simpa using hi)
theorem fitsL_no {l m : List UInt8} (i : Nat) (h1 : i < m.length) (h2 : okB (m.getD i 0) (l.getD i 0) = false) : fitsL l m = false := by
  cases e : fitsL l m with
  | false => rfl
  | true =>
    unfold fitsL at e
    rw [Bool.and_eq_true, List.all_eq_true] at e
    have := e.2 i (by simpa using h1)
    rw [h2] at this; cases this
theorem fitsL_short {l m : List UInt8} (h : ¬ m.length ≤ l.length) : fitsL l m = false := by simp [fitsL, h]
theorem fitsL_at {l m : List UInt8} (h : fitsL l m = true) : m.length ≤ l.length ∧ ∀ i, i < m.length → okB (m.getD i 0) (l.getD i 0) = true := by
  unfold fitsL at h
  rw [Bool.and_eq_true, List.all_eq_true] at h
  exact ⟨by simpa using h.1, fun i hi => h.2 i (by simpa using hi)⟩
/-- Can a byte stand at that place of a word? -/
def pcAt (l : List UInt8) (i : Nat) : Bool := if i = 0 then isL (l.getD 0 0) else isC (l.getD i 0)
theorem wordLen_eq : ∀ (l : List UInt8) (k : Nat), k ≤ l.length → (∀ i, i < k → pcAt l i = true) → (k < l.length → pcAt l k = false) → wordLen l = k
  | [], k, h, _, _ => by simp at h; subst h; rfl
  | c :: l, 0, _, _, h2 => by
    have := h2 (by simp)
    simp [pcAt] at this
    simp [wordLen, this]
  | c :: l, k + 1, h, h1, h2 => by
    have hc := h1 0 (by omega)
    simp [pcAt] at hc
    have e := runOf_eq isC l k (by simpa using h) (fun i hi => by simpa [pcAt] using h1 (i + 1) (by omega)) (fun hk => by simpa [pcAt] using h2 (by simpa using hk))
    simp [wordLen, hc, e]
/-- What one token is: its kind, its number, its text, how many bytes it has, and what is wrong. -/
structure T1 where
  kind : Int
  n : Int
  text : List UInt8
  len : Nat
  err : Int
def bad (e : Int) : T1 := ⟨0, 0, [], 0, e⟩
def numT (l : List UInt8) : T1 := if 6 < runOf isD l then bad 3 else ⟨6, valL (l.take (runOf isD l)), [], runOf isD l, 0⟩
def dateF : List UInt8 := [48, 48, 48, 48, 45, 48, 48, 45, 48, 48]
def timeF : List UInt8 := [48, 48, 58, 48, 48]
def timeT (l : List UInt8) : T1 := if 59 < valL ((l.drop 3).take 2) ∨ 1440 < 60 * valL ((l.drop 0).take 2) + valL ((l.drop 3).take 2) then bad 3 else ⟨4, 60 * valL ((l.drop 0).take 2) + valL ((l.drop 3).take 2), [], 5, 0⟩
/-- Where a form asks for digits there are digits. -/
theorem dig_part {l m : List UInt8} (h : fitsL l m = true) (a n : Nat) (ha : a + n ≤ m.length) (hf : ∀ i, i < n → (m.getD (a + i) 0).toNat = 48) :
    ((l.drop a).take n).length = n ∧ ∀ i, i < ((l.drop a).take n).length → isD (((l.drop a).take n).getD i 0) = true := by
  obtain ⟨h1, h2⟩ := fitsL_at h
  have e : ((l.drop a).take n).length = n := by simp; omega
  refine ⟨e, fun i hi => ?_⟩
  rw [e] at hi
  have := h2 (a + i) (by omega)
  unfold okB at this
  rw [if_pos (hf i hi)] at this
  rw [List.getD_eq_getElem?_getD] at this ⊢
  rw [List.getElem?_take, if_pos hi, List.getElem?_drop]
  exact this
/-- How many bytes are skipped: blanks, tabs, line feeds, and what stands from a # on. -/
def skipS : Bool → List UInt8 → Nat
  | _, [] => 0
  | true, c :: l => if c.toNat = 10 then skipS false l + 1 else skipS true l + 1
  | false, c :: l => if c.toNat = 32 ∨ c.toNat = 9 ∨ c.toNat = 10 then skipS false l + 1 else if c.toNat = 35 then skipS true l + 1 else 0
theorem skipS_le : ∀ (b : Bool) (l : List UInt8), skipS b l ≤ l.length
  | true, [] => by simp [skipS]
  | false, [] => by simp [skipS]
  | true, c :: l => by
    have h1 := skipS_le true l
    have h2 := skipS_le false l
    simp only [skipS, List.length_cons]; split <;> omega
  | false, c :: l => by
    have h1 := skipS_le true l
    have h2 := skipS_le false l
    simp only [skipS, List.length_cons]
    split
    · omega
    · split <;> omega
def noLf (c : UInt8) : Bool := decide (c.toNat ≠ 10)
/-- How long a remark is: up to the next line feed. -/
def remL (l : List UInt8) : Nat := runOf noLf l
theorem skip_rem : ∀ (l : List UInt8), skipS true l = remL l + skipS false (l.drop (remL l))
  | [] => by simp [remL, runOf, skipS]
  | c :: l => by
    by_cases h : c.toNat = 10
    · simp [remL, runOf, noLf, skipS, h]
    · have ih := skip_rem l
      have e : remL (c :: l) = remL l + 1 := by simp [remL, runOf, noLf, h]
      rw [e]
      simp only [skipS, h, if_false, List.drop_succ_cons]
      omega
theorem skip_hash (l : List UInt8) (h0 : 0 < l.length) (hc : (l.getD 0 0).toNat = 35) : skipS false l = remL l + skipS false (l.drop (remL l)) ∧ 1 ≤ remL l := by
  match l, h0 with
  | c :: r, _ =>
    have hc' : c.toNat = 35 := by simpa using hc
    have e : remL (c :: r) = remL r + 1 := by simp [remL, runOf, noLf, hc']
    have := skip_rem r
    rw [e]
    refine ⟨?_, by omega⟩
    simp only [skipS, hc', List.drop_succ_cons]
    simp
    omega
theorem skip_blank (l : List UInt8) (h0 : 0 < l.length) (hc : (l.getD 0 0).toNat = 32 ∨ (l.getD 0 0).toNat = 9 ∨ (l.getD 0 0).toNat = 10) : skipS false l = 1 + skipS false (l.drop 1) := by
  match l, h0 with
  | c :: r, _ =>
    have hc' : c.toNat = 32 ∨ c.toNat = 9 ∨ c.toNat = 10 := by simpa using hc
    simp only [skipS, if_pos hc', List.drop_succ_cons, List.drop_zero]
    omega
theorem skip_stop (l : List UInt8) (hc : 0 < l.length → ¬ ((l.getD 0 0).toNat = 32 ∨ (l.getD 0 0).toNat = 9 ∨ (l.getD 0 0).toNat = 10) ∧ (l.getD 0 0).toNat ≠ 35) : skipS false l = 0 := by
  match l with
  | [] => rfl
  | c :: r =>
    have := hc (by simp)
    simp only [List.getD_cons_zero] at this
    simp only [skipS, if_neg this.1, if_neg this.2]
theorem index_rem : ∀ l : List UInt8, Go.Lib.indexByte l 10 = if remL l < l.length then (remL l : Int) else -1
  | [] => by simp [Go.Lib.indexByte, remL, runOf]
  | c :: l => by
    have ih := index_rem l
    by_cases h : c.toNat = 10
    · have e : c = 10 := by apply UInt8.toNat_inj.1; simpa using h
      subst e
      simp [Go.Lib.indexByte, remL, runOf, noLf]
    · have hne : (c == 10) = false := by
        rw [beq_eq_false_iff_ne]; intro e; subst e; simp at h
      have e : remL (c :: l) = remL l + 1 := by simp [remL, runOf, noLf, h]
      have hle : remL l ≤ l.length := runOf_le _ l
      unfold Go.Lib.indexByte
      rw [hne, ih, e]
      by_cases hh : remL l < l.length
      · have n1 : ((remL l : Int) == -1) = false := by simp
        rw [if_pos hh, n1]
        simp [hh]
      · rw [if_neg hh]
        simp [hh]
end Lx
