/- What strings.Clone and lex.word come to. -/
import Derived.Test.YtgjggpgkcbekoadDoorRb04
import Derived.Lib.Walk
import Derived.Lib.BufferWrite
import Derived.Lib.UnsafeStr
import Derived.Laws.MakeOwn
import Derived.Deep.WholeRow
import Derived.Laws.CopyOwn
import Derived.Test.YtgjggpgkcbekoadDoorRows
import Derived.WalkKit
import Derived.WalkSpells
import Derived.WalkLawsBesides
import Derived.Deep.QuietTactic
import Derived.BigQuiet
import Derived.Lib.LaidTab
namespace Go.Proofs.YtgjggpgkcbekoadDoor
open Go.RowKit Lx

theorem byteInfo : (Tryd.prog.info? 5).map (fun i => (i.zero, i.size, i.bytes)) = some (some (.int .u8 0), 1, 1) := by kernel_rfl
theorem bytesType : Tryd.prog.underlying 102 = some (.slice 5) := by kernel_rfl
theorem pbyteType : Tryd.prog.underlying 103 = some (.pointer 5) := by kernel_rfl
set_option maxHeartbeats 1000000 in
set_option maxRecDepth 100000 in
theorem cloneL_any (s : ByteArray) (w : World) (hlim : s.size ≤ 1000000) :
    Calls Tryd.prog 69 #[.string s] w fun e w' => e = .returned (.string s) ∧ Below w.heap.size w w' := by
  by_cases h0 : s.size = 0
  · have hs : s = ⟨#[]⟩ := by
      apply ByteArray.ext
      exact Array.eq_empty_of_size_eq_zero h0
    subst hs
    go_enter Tryd.func69, Tryd.ntmps69
    go_wp2
    go_ret
    exact ⟨rfl, Below.refl _ _⟩
  · obtain ⟨i0, hi, hz0, hz1, hz2⟩ := info_parts byteInfo
    have hinfo : (Tryd.prog.info? 5).map (·.size) = some 1 := by rw [hi]; simp [hz1]
    have hco : Tryd.prog.cellsOf 5 = 1 := by kernel_rfl
    obtain ⟨M, hM⟩ : ∃ M, M = madeCells (Value.int .u8 0).cells (((s.size : Nat) : Int).toNat * i0.size) := ⟨_, rfl⟩
    have hMs : M.size = s.size := by rw [hM, size_madeCells, hz1]; simp
    have hmk : ∀ W : World, (Instr.makeSlice 102 (.int .i64 (s.size : Int)) (.int .i64 (s.size : Int))).run Tryd.prog W = .ok (.slice (some ⟨W.heap.size, 0, none⟩) s.size s.size) (W.alloc (.cells M 5)) := fun W => by
      have h := run_make (P := Tryd.prog) W 102 5 i0 (.int .u8 0) bytesType hi hz0 .i64 .i64 (s.size : Int) (s.size : Int) (by omega) (by omega) (by rw [hz2]; omega) (by omega)
      rw [← hM] at h
      simpa using h
    clear hM
    have hcp := Lib.run_copy_row_string (P := Tryd.prog) (w.alloc (.cells M 5)) 102 9 3 5 w.heap.size 0 s.size s.size s M 5 bytesType hinfo (heap_alloc_new w _) (Nat.le_refl _) (by omega)
    obtain ⟨Y, hY⟩ : ∃ Y, Y = (M.toList.take 0 ++ Lib.byteCells s.data.toList ++ M.toList.drop (0 + s.size)).toArray := ⟨_, rfl⟩
    rw [← hY] at hcp
    have hYl : Y.toList = Lib.byteCells s.data.toList := by
      rw [hY, List.toList_toArray, List.take_zero, List.nil_append, List.drop_of_length_le (by rw [Array.length_toList]; omega), List.append_nil]
    have hYs : Y.size = s.size := by rw [← Array.length_toList, hYl, Lib.byteCells_length, ← Lib.size_eq]
    have hgY : ((w.alloc (.cells M 5)).setRow w.heap.size Y).heap[w.heap.size]? = some (.cells Y 5 (0, 0)) := setRow_heap _ _ M _ 5 (0, 0) (heap_alloc_new w _)
    have hne : s.data.toList ≠ [] := fun e => h0 (by rw [Lib.size_eq, e]; rfl)
    have hUS := Lib.run_unsafeString_row (P := Tryd.prog) ((w.alloc (.cells M 5)).setRow w.heap.size Y) 103 3 9 5 pbyteType hco w.heap.size Y.size (by unfold World.shape?; rw [hgY]) s.data.toList hne (by rw [← Lib.size_eq]; omega) (by rw [← Lib.size_eq]; omega)
      (fun j x hx => Lib.cells_of_row hgY Y.size j _ (by rw [List.take_of_length_le (by rw [Array.length_toList]; exact Nat.le_refl _), hYl]; simp [Lib.byteCells, hx]))
    rw [← Lib.size_eq] at hUS
    clear hY
    go_enter Tryd.func69, Tryd.ntmps69
    go_wp2
    go_ret
    have hb1 : Below w.heap.size w (w.alloc (.cells M 5)) := (Below.refl _ w).alloc (Nat.le_refl _) _
    have hb2 : Below w.heap.size (w.alloc (.cells M 5)) ((w.alloc (.cells M 5)).setRow w.heap.size Y) := ⟨rfl, rfl, rfl, by simp, fun k hk => setRow_other _ _ _ _ (by omega)⟩
    exact ⟨rfl, Lib.below_freeze (hb1.trans hb2) (p := ⟨w.heap.size, 0, none⟩) (Nat.le_refl _) _⟩
set_option maxHeartbeats 400000 in
theorem clone_any (s : ByteArray) (w : World) (hlim : s.size ≤ 1000000) :
    Calls Tryd.prog 60 #[.string s] w fun e w' => e = .returned (.string s) ∧ Below w.heap.size w w' := by
  go_enter Tryd.func60, Tryd.ntmps60
  go_wp2_with (go_at_call 69; refine (cloneL_any s _ hlim).mono ?_; rintro e w' ⟨rfl, hb⟩)
  go_ret
  exact ⟨rfl, hb⟩
end Go.Proofs.YtgjggpgkcbekoadDoor

/- What lex.word comes to. -/
namespace Go.Proofs.YtgjggpgkcbekoadDoor
open Go.RowKit Lx

theorem cells_eq {w : World} {g : Nat} {c c' : Array Value} {t : TypeId} (hg : w.heap[g]? = some (.cells c t (0, 0))) (e : c = c') : w.heap[g]? = some (.cells c' t (0, 0)) := by rw [hg, e]
set_option maxRecDepth 10000 in
set_option maxHeartbeats 400000 in
theorem word_any (s : ByteArray) (l : List UInt8) (hs : s.data.toList = l) (hl : l.length ≤ 9223372036854775806) (w : World) :
    Calls Tryd.prog 49 #[.string s] w fun e w' => e = .returned (tokv (wordT l)) ∧ Below w.heap.size w w' := by
  have hz : s.size = l.length := by rw [← hs, Lib.size_eq]
  have cl := fun w => wordLen_any s l hs hl w
  have hk := wordLen_le l
  have hb0 : Below w.heap.size w (w.alloc (.cells #[.int .i64 0, .int .i64 0, .int .i64 0, .string ⟨#[]⟩] 74)) := (Below.refl _ _).alloc (Nat.le_refl _) _
  have h0 : (w.alloc (.cells #[.int .i64 0, .int .i64 0, .int .i64 0, .string ⟨#[]⟩] 74)).heap[w.heap.size]? = some (.cells #[.int .i64 0, .int .i64 0, .int .i64 0, .string ⟨#[]⟩] 74 (0, 0)) := heap_alloc_new w _
  have hT : wordT l = if 20 < wordLen l then bad 7 else ⟨if isWordL (l.take (wordLen l)) then 2 else 1, 0, l.take (wordLen l), wordLen l, 0⟩ := rfl
  generalize wordLen l = k at *
  by_cases h20 : 20 < k
  · have HT : Hid (wordT l = bad 7) := by
      show wordT l = _
      rw [hT, if_pos h20]
    have i20 : (20 : Int) < (k : Int) := by omega
    clear hT h0
    go_enter Tryd.func49, Tryd.ntmps49
    go_wp2_with (go_at_call 30; refine (cl _).mono ?_; rintro e w' ⟨rfl, rfl⟩)
    exact tok_post (by rw [Tryd.results49, Tryd.results48]) w.heap.size (bad 7) rfl rfl rfl rfl (heap_alloc_new w _) ⟨by rw [HT.out], hb0⟩
  · rw [if_neg h20] at hT
    have i20 : ¬ (20 : Int) < (k : Int) := by omega
    have i0 : (0 : Int) ≤ (k : Int) := by omega
    have i1 : (k : Int) ≤ (l.length : Int) := by omega
    have hx : (s.extract 0 k).data.toList = l.take k := by rw [Lib.extract_data, hs]; simp
    have hxs : (s.extract 0 k).size ≤ 1000000 := by rw [Lib.size_eq, hx]; simp; omega
    have cc := fun w => clone_any (s.extract 0 k) w hxs
    have cw := fun w => isWord_any (s.extract 0 k) (l.take k) hx w
    have hba := ba_of hx
    cases hW : isWordL (l.take k) with
    | true =>
      rw [hW] at cw
      have HT : Hid (wordT l = ⟨2, 0, l.take k, k, 0⟩) := by
        show wordT l = _
        rw [hT, hW]; rfl
      have HX : Hid (s.extract 0 k = ⟨(l.take k).toArray⟩) := hba
      clear hT hW hba hx
      go_enter Tryd.func49, Tryd.ntmps49
      go_wp2_with (first
        | (go_at_call 30; refine (cl _).mono ?_; rintro e w' ⟨rfl, rfl⟩)
        | (go_at_call 60; refine (cc _).mono ?_; rintro e w1 ⟨rfl, hb1⟩; have h1 := (hb1.block _ (lt_of_block h0)).trans h0; have hbw1 := hb0.trans (hb1.mono hb0.size); clear hb1 h0 hb0)
        | (go_at_call 31; refine (cw _).mono ?_; rintro e w2 ⟨rfl, hb2⟩; have h2 := (hb2.block _ (lt_of_block h1)).trans h1; have hbw2 := hbw1.trans (hb2.mono hbw1.size); clear hb2 h1 hbw1)
        | (refine wpList_store_row rfl 74 _ _ rfl _ _ rfl rfl _ _ h2 (by kernel_rfl) (by simp) (by simp [Value.oneCell']) ?_))
      exact tok_post (by rw [Tryd.results49, Tryd.results48]) w.heap.size ⟨2, 0, l.take k, k, 0⟩ rfl rfl rfl rfl (cells_eq (setRow_heap _ _ _ _ _ _ h2) (by rw [HX.out])) ⟨by rw [HT.out], below_setRow hbw2 (Nat.le_refl _) _⟩
    | false =>
      rw [hW] at cw
      have HT : Hid (wordT l = ⟨1, 0, l.take k, k, 0⟩) := by
        show wordT l = _
        rw [hT, hW]; rfl
      have HX : Hid (s.extract 0 k = ⟨(l.take k).toArray⟩) := hba
      clear hT hW hba hx
      go_enter Tryd.func49, Tryd.ntmps49
      go_wp2_with (first
        | (go_at_call 30; refine (cl _).mono ?_; rintro e w' ⟨rfl, rfl⟩)
        | (go_at_call 60; refine (cc _).mono ?_; rintro e w1 ⟨rfl, hb1⟩; have h1 := (hb1.block _ (lt_of_block h0)).trans h0; have hbw1 := hb0.trans (hb1.mono hb0.size); clear hb1 h0 hb0)
        | (go_at_call 31; refine (cw _).mono ?_; rintro e w2 ⟨rfl, hb2⟩; have h2 := (hb2.block _ (lt_of_block h1)).trans h1; have hbw2 := hbw1.trans (hb2.mono hbw1.size); clear hb2 h1 hbw1)
        | (refine wpList_store_row rfl 74 _ _ rfl _ _ rfl rfl _ _ h2 (by kernel_rfl) (by simp) (by simp [Value.oneCell']) ?_))
      exact tok_post (by rw [Tryd.results49, Tryd.results48]) w.heap.size ⟨1, 0, l.take k, k, 0⟩ rfl rfl rfl rfl (cells_eq (setRow_heap _ _ _ _ _ _ h2) (by rw [HX.out])) ⟨by rw [HT.out], below_setRow hbw2 (Nat.le_refl _) _⟩
end Go.Proofs.YtgjggpgkcbekoadDoor

/- Plain mathematics of years, months and days of 2000 to 2399: no program in sight. -/
namespace Go.Proofs.YtgjggpgkcbekoadDoor.Cal

/-- Whether a year has a day more. -/
def lpB (y : Int) : Bool := decide (y % 4 = 0 ∧ (¬ y % 100 = 0 ∨ y % 400 = 0))
/-- How many days more a year has. -/
def lp (y : Int) : Int := if y % 4 = 0 ∧ (¬ y % 100 = 0 ∨ y % 400 = 0) then 1 else 0
/-- How many days a month has. -/
def dim (y m : Int) : Int :=
  if y < 2000 ∨ 2399 < y ∨ m < 1 ∨ 12 < m then 0
  else if m = 2 then 28 + lp y
  else if m = 4 ∨ m = 6 ∨ m = 9 ∨ m = 11 then 30 else 31
/-- How many days of the year are ahead of a month (of 1 to 13). -/
def cum (y m : Int) : Int :=
  if m ≤ 1 then 0 else if m = 2 then 31 else if m = 3 then 59 + lp y else if m = 4 then 90 + lp y
  else if m = 5 then 120 + lp y else if m = 6 then 151 + lp y else if m = 7 then 181 + lp y
  else if m = 8 then 212 + lp y else if m = 9 then 243 + lp y else if m = 10 then 273 + lp y
  else if m = 11 then 304 + lp y else if m = 12 then 334 + lp y else 365 + lp y
/-- How many days are ahead of a year. -/
def ys (y : Int) : Int := 365 * (y - 2000) + ((y - 2000 + 3) / 4 - (y - 2000 + 99) / 100 + (y - 2000 + 399) / 400)

theorem lp_01 (y : Int) : 0 ≤ lp y ∧ lp y ≤ 1 := by unfold lp; split <;> omega
theorem lp_of (y : Int) : lp y = if lpB y = true then 1 else 0 := by unfold lp lpB; simp
theorem dim_31 (y m : Int) : 0 ≤ dim y m ∧ dim y m ≤ 31 := by
  have := lp_01 y
  unfold dim; split
  · omega
  · split
    · omega
    · split <;> omega
theorem dim_out (y m : Int) (h : y < 2000 ∨ 2399 < y ∨ m < 1 ∨ 12 < m) : dim y m = 0 := by unfold dim; rw [if_pos h]
theorem dim_pos (y m : Int) (h : 1 ≤ dim y m) : 2000 ≤ y ∧ y ≤ 2399 ∧ 1 ≤ m ∧ m ≤ 12 := by
  by_cases g : y < 2000 ∨ 2399 < y ∨ m < 1 ∨ 12 < m
  · rw [dim_out y m g] at h; omega
  · omega
theorem dim_28 (y m : Int) (a : 2000 ≤ y) (b : y ≤ 2399) (c : 1 ≤ m) (d : m ≤ 12) : 28 ≤ dim y m := by
  have := lp_01 y
  unfold dim; rw [if_neg (by omega)]
  split
  · omega
  · split <;> omega
theorem cum_one (y : Int) : cum y 1 = 0 := rfl
theorem cum_13 (y : Int) : cum y 13 = 365 + lp y := rfl
theorem cum_succ (y m : Int) (a : 2000 ≤ y) (b : y ≤ 2399) (c : 1 ≤ m) (d : m ≤ 12) : cum y (m + 1) = cum y m + dim y m := by
  have h : m = 1 ∨ m = 2 ∨ m = 3 ∨ m = 4 ∨ m = 5 ∨ m = 6 ∨ m = 7 ∨ m = 8 ∨ m = 9 ∨ m = 10 ∨ m = 11 ∨ m = 12 := by omega
  unfold dim
  rw [if_neg (by omega)]
  rcases h with rfl | rfl | rfl | rfl | rfl | rfl | rfl | rfl | rfl | rfl | rfl | rfl <;> simp [cum] <;> omega
theorem cum_bd (y m : Int) (c : 1 ≤ m) (d : m ≤ 13) : 0 ≤ cum y m ∧ cum y m ≤ 366 := by
  have := lp_01 y
  have h : m = 1 ∨ m = 2 ∨ m = 3 ∨ m = 4 ∨ m = 5 ∨ m = 6 ∨ m = 7 ∨ m = 8 ∨ m = 9 ∨ m = 10 ∨ m = 11 ∨ m = 12 ∨ m = 13 := by omega
  rcases h with rfl | rfl | rfl | rfl | rfl | rfl | rfl | rfl | rfl | rfl | rfl | rfl | rfl <;> simp [cum] <;> omega
theorem cum_mono (y m k : Int) (c : 1 ≤ m) (d : m < k) (e : k ≤ 13) (a : 2000 ≤ y) (b : y ≤ 2399) : cum y m + dim y m ≤ cum y k := by
  rw [← cum_succ y m a b c (by omega)]
  have := lp_01 y
  have h : m = 1 ∨ m = 2 ∨ m = 3 ∨ m = 4 ∨ m = 5 ∨ m = 6 ∨ m = 7 ∨ m = 8 ∨ m = 9 ∨ m = 10 ∨ m = 11 ∨ m = 12 := by omega
  have g : k = 2 ∨ k = 3 ∨ k = 4 ∨ k = 5 ∨ k = 6 ∨ k = 7 ∨ k = 8 ∨ k = 9 ∨ k = 10 ∨ k = 11 ∨ k = 12 ∨ k = 13 := by omega
  rcases h with rfl | rfl | rfl | rfl | rfl | rfl | rfl | rfl | rfl | rfl | rfl | rfl <;>
    rcases g with rfl | rfl | rfl | rfl | rfl | rfl | rfl | rfl | rfl | rfl | rfl | rfl <;> first | omega | (simp [cum] <;> omega)
theorem ys_2000 : ys 2000 = 0 := by decide
theorem ys_2400 : ys 2400 = 146097 := by decide
theorem ys_succ (y : Int) : ys (y + 1) = ys y + 365 + lp y := by unfold ys lp; split <;> omega
theorem ys_mono (a b : Int) (h : a ≤ b) : ys a ≤ ys b := by unfold ys; omega
theorem ys_bd (y : Int) (a : 2000 ≤ y) (b : y ≤ 2400) : 0 ≤ ys y ∧ ys y ≤ 146097 := by
  have h1 := ys_mono _ _ a
  have h2 := ys_mono _ _ b
  rw [ys_2000] at h1; rw [ys_2400] at h2; exact ⟨h1, h2⟩
theorem ys_guess (n : Int) (a : 0 ≤ n) (b : n < 146097) : ys (2000 + n / 366) ≤ n ∧ n < ys (2000 + n / 366 + 2) := by unfold ys; omega
theorem ys_uniq (a b n : Int) (h1 : ys a ≤ n) (h2 : n < ys (a + 1)) (h3 : ys b ≤ n) (h4 : n < ys (b + 1)) : a = b := by
  by_cases h : a < b
  · have := ys_mono (a + 1) b (by omega); omega
  · by_cases g : b < a
    · have := ys_mono (b + 1) a (by omega); omega
    · omega

/-- How many days a date is behind the first one of 2000. -/
def num (y m d : Int) : Int := ys y + cum y m + d - 1
theorem num_bd (y m d : Int) (h : 1 ≤ d) (g : d ≤ dim y m) : 0 ≤ num y m d ∧ num y m d < 146097 ∧ ys y ≤ num y m d ∧ num y m d < ys (y + 1) := by
  obtain ⟨a, b, c, e⟩ := dim_pos y m (by omega)
  have h1 := ys_bd y a (by omega)
  have h2 := ys_bd (y + 1) (by omega) (by omega)
  have h3 := ys_succ y
  have h4 := cum_succ y m a b c e
  have h5 := cum_bd y m c (by omega)
  have h6 : cum y (m + 1) ≤ 365 + lp y := by
    by_cases h : m = 12
    · subst h; exact Int.le_of_eq rfl
    · have := cum_mono y (m + 1) 13 (by omega) (by omega) (by omega) a b
      rw [cum_13] at this
      have := dim_31 y (m + 1)
      omega
  unfold num
  omega
/-- A day has one date. -/
theorem num_inj (y m d y' m' d' : Int) (h : 1 ≤ d) (g : d ≤ dim y m) (h' : 1 ≤ d') (g' : d' ≤ dim y' m') (e : num y m d = num y' m' d') : y = y' ∧ m = m' ∧ d = d' := by
  have b1 := num_bd y m d h g
  have b2 := num_bd y' m' d' h' g'
  have hy : y = y' := ys_uniq y y' (num y m d) (by omega) (by omega) (by omega) (by omega)
  subst hy
  obtain ⟨a, b, c, k⟩ := dim_pos y m (by omega)
  obtain ⟨_, _, c', k'⟩ := dim_pos y m' (by omega)
  have hm : m = m' := by
    unfold num at e
    by_cases h1 : m < m'
    · have := cum_mono y m m' c h1 (by omega) a b; omega
    · by_cases h2 : m' < m
      · have := cum_mono y m' m c' h2 (by omega) a b; omega
      · omega
  subst hm
  exact ⟨rfl, rfl, by unfold num at e; omega⟩
/-- The year in which a day lies. -/
def yearOf (n : Int) : Int := if ys (2000 + n / 366 + 1) ≤ n then 2000 + n / 366 + 1 else 2000 + n / 366
theorem yearOf_ok (n : Int) (a : 0 ≤ n) (b : n < 146097) : 2000 ≤ yearOf n ∧ yearOf n ≤ 2399 ∧ ys (yearOf n) ≤ n ∧ n < ys (yearOf n + 1) := by
  have h := ys_guess n a b
  have key : ys (yearOf n) ≤ n ∧ n < ys (yearOf n + 1) := by
    unfold yearOf; split
    · have e : 2000 + n / 366 + 1 + 1 = 2000 + n / 366 + 2 := by omega
      rw [e]
      exact ⟨by assumption, h.2⟩
    · exact ⟨h.1, by omega⟩
  have lo : 2000 ≤ yearOf n := by unfold yearOf; split <;> omega
  refine ⟨lo, ?_, key⟩
  by_cases g : yearOf n ≤ 2399
  · exact g
  · have := ys_mono 2400 (yearOf n) (by omega); rw [ys_2400] at this; omega
end Go.Proofs.YtgjggpgkcbekoadDoor.Cal

/- What each function of package civil comes to, said of the plain functions of Cal. -/
namespace Go.Proofs.YtgjggpgkcbekoadDoor
open Go.RowKit

def tab : List Int := [31, 28, 31, 30, 31, 30, 31, 31, 30, 31, 30, 31]
/-- The table of months lies in memory as its text lays it. -/
def CTab (w : World) : Prop := ∀ i : Nat, i < 12 → w.cell? ⟨0, i, none⟩ = some (.int .i64 (tab.getD i 0))

set_option maxHeartbeats 400000 in
theorem leap_any (y : Int) (w : World) (h0 : 0 ≤ y) (h1 : y ≤ 9223372036854775807) :
    Calls Tryd.prog 74 #[.int .i64 y] w fun e w' => e = .returned (.bool (Cal.lpB y)) ∧ w' = w := by
  by_cases h4 : y % 4 = 0
  · by_cases h100 : y % 100 = 0
    · by_cases h400 : y % 400 = 0
      · have e : Cal.lpB y = true := by unfold Cal.lpB; exact decide_eq_true ⟨h4, .inr h400⟩
        rw [e]
        have a4 : (y % 4 == 0) = true := by simp [h4]
        have a1 : (y % 100 != 0) = false := by simp [h100]
        have a2 : (y % 400 == 0) = true := by simp [h400]
        clear e h4 h100 h400
        go_enter Tryd.func74, Tryd.ntmps74
        go_wp2
        go_ret
        exact ⟨rfl, rfl⟩
      · have e : Cal.lpB y = false := by unfold Cal.lpB; exact decide_eq_false (fun h => by omega)
        rw [e]
        have a4 : (y % 4 == 0) = true := by simp [h4]
        have a1 : (y % 100 != 0) = false := by simp [h100]
        have a2 : (y % 400 == 0) = false := by simp [h400]
        clear e h4 h100 h400
        go_enter Tryd.func74, Tryd.ntmps74
        go_wp2
        go_ret
        exact ⟨rfl, rfl⟩
    · have e : Cal.lpB y = true := by unfold Cal.lpB; exact decide_eq_true ⟨h4, .inl h100⟩
      rw [e]
      have a4 : (y % 4 == 0) = true := by simp [h4]
      have a1 : (y % 100 != 0) = true := by simp [h100]
      clear e h4 h100
      go_enter Tryd.func74, Tryd.ntmps74
      go_wp2
      go_ret
      exact ⟨rfl, rfl⟩
  · have e : Cal.lpB y = false := by unfold Cal.lpB; exact decide_eq_false (fun h => h4 h.1)
    rw [e]
    have a4 : (y % 4 == 0) = false := by simp [h4]
    clear e h4
    go_enter Tryd.func74, Tryd.ntmps74
    go_wp2
    go_ret
    exact ⟨rfl, rfl⟩

set_option maxHeartbeats 400000 in
theorem length_out (y m : Int) (w : World) (h : y < 2000 ∨ 2399 < y ∨ m < 1 ∨ 12 < m) :
    Calls Tryd.prog 66 #[.int .i64 y, .int .i64 m] w fun e w' => e = .returned (.int .i64 0) ∧ w' = w := by
  by_cases a : y < 2000
  · go_enter Tryd.func66, Tryd.ntmps66
    go_wp2
    go_ret
    exact ⟨rfl, rfl⟩
  · by_cases b : 2399 < y
    · go_enter Tryd.func66, Tryd.ntmps66
      go_wp2
      go_ret
      exact ⟨rfl, rfl⟩
    · by_cases c : m < 1
      · go_enter Tryd.func66, Tryd.ntmps66
        go_wp2
        go_ret
        exact ⟨rfl, rfl⟩
      · have d : 12 < m := by omega
        go_enter Tryd.func66, Tryd.ntmps66
        go_wp2
        go_ret
        exact ⟨rfl, rfl⟩

set_option maxHeartbeats 400000 in
theorem length_two (y : Int) (w : World) (a : 2000 ≤ y) (b : y ≤ 2399) (hc : w.cell? ⟨0, 1, none⟩ = some (.int .i64 28)) :
    Calls Tryd.prog 66 #[.int .i64 y, .int .i64 2] w fun e w' => e = .returned (.int .i64 (28 + Cal.lp y)) ∧ w' = w := by
  have hl := Cal.lp_of y
  cases hb : Cal.lpB y
  · rw [hb] at hl
    simp at hl
    rw [hl]
    clear hl
    go_enter Tryd.func66, Tryd.ntmps66
    go_wp2_with (go_at_call 74; refine (leap_any _ _ (by omega) (by omega)).mono ?_; rw [hb]; rintro e w' ⟨rfl, rfl⟩)
    go_ret
    exact ⟨rfl, rfl⟩
  · rw [hb] at hl
    simp at hl
    rw [hl]
    clear hl
    go_enter Tryd.func66, Tryd.ntmps66
    go_wp2_with (go_at_call 74; refine (leap_any _ _ (by omega) (by omega)).mono ?_; rw [hb]; rintro e w' ⟨rfl, rfl⟩)
    go_ret
    exact ⟨rfl, rfl⟩

set_option maxHeartbeats 1000000 in
theorem length_in (y m : Int) (w : World) (hT : CTab w) (a : 2000 ≤ y) (b : y ≤ 2399) (c : 1 ≤ m) (d : m ≤ 12) :
    Calls Tryd.prog 66 #[.int .i64 y, .int .i64 m] w fun e w' => e = .returned (.int .i64 (Cal.dim y m)) ∧ w' = w := by
  have h : m = 1 ∨ m = 2 ∨ m = 3 ∨ m = 4 ∨ m = 5 ∨ m = 6 ∨ m = 7 ∨ m = 8 ∨ m = 9 ∨ m = 10 ∨ m = 11 ∨ m = 12 := by omega
  have e : Cal.dim y m = if m = 2 then 28 + Cal.lp y else if m = 4 ∨ m = 6 ∨ m = 9 ∨ m = 11 then 30 else 31 := by unfold Cal.dim; rw [if_neg (by omega)]
  rw [e]
  clear e
  rcases h with rfl | h
  · have hc := hT 0 (by decide)
    simp [tab] at hc
    rw [if_neg (by decide), if_neg (by decide)]
    clear hT
    go_enter Tryd.func66, Tryd.ntmps66
    go_wp2
    go_ret
    exact ⟨rfl, rfl⟩
  rcases h with rfl | h
  · have hc := hT 1 (by decide)
    simp [tab] at hc
    exact length_two y w a b hc
  rcases h with rfl | h
  · have hc := hT 2 (by decide)
    simp [tab] at hc
    rw [if_neg (by decide), if_neg (by decide)]
    clear hT
    go_enter Tryd.func66, Tryd.ntmps66
    go_wp2
    go_ret
    exact ⟨rfl, rfl⟩
  rcases h with rfl | h
  · have hc := hT 3 (by decide)
    simp [tab] at hc
    rw [if_neg (by decide), if_pos (by decide)]
    clear hT
    go_enter Tryd.func66, Tryd.ntmps66
    go_wp2
    go_ret
    exact ⟨rfl, rfl⟩
  rcases h with rfl | h
  · have hc := hT 4 (by decide)
    simp [tab] at hc
    rw [if_neg (by decide), if_neg (by decide)]
    clear hT
    go_enter Tryd.func66, Tryd.ntmps66
    go_wp2
    go_ret
    exact ⟨rfl, rfl⟩
  rcases h with rfl | h
  · have hc := hT 5 (by decide)
    simp [tab] at hc
    rw [if_neg (by decide), if_pos (by decide)]
    clear hT
    go_enter Tryd.func66, Tryd.ntmps66
    go_wp2
    go_ret
    exact ⟨rfl, rfl⟩
  rcases h with rfl | h
  · have hc := hT 6 (by decide)
    simp [tab] at hc
    rw [if_neg (by decide), if_neg (by decide)]
    clear hT
    go_enter Tryd.func66, Tryd.ntmps66
    go_wp2
    go_ret
    exact ⟨rfl, rfl⟩
  rcases h with rfl | h
  · have hc := hT 7 (by decide)
    simp [tab] at hc
    rw [if_neg (by decide), if_neg (by decide)]
    clear hT
    go_enter Tryd.func66, Tryd.ntmps66
    go_wp2
    go_ret
    exact ⟨rfl, rfl⟩
  rcases h with rfl | h
  · have hc := hT 8 (by decide)
    simp [tab] at hc
    rw [if_neg (by decide), if_pos (by decide)]
    clear hT
    go_enter Tryd.func66, Tryd.ntmps66
    go_wp2
    go_ret
    exact ⟨rfl, rfl⟩
  rcases h with rfl | h
  · have hc := hT 9 (by decide)
    simp [tab] at hc
    rw [if_neg (by decide), if_neg (by decide)]
    clear hT
    go_enter Tryd.func66, Tryd.ntmps66
    go_wp2
    go_ret
    exact ⟨rfl, rfl⟩
  rcases h with rfl | h
  · have hc := hT 10 (by decide)
    simp [tab] at hc
    rw [if_neg (by decide), if_pos (by decide)]
    clear hT
    go_enter Tryd.func66, Tryd.ntmps66
    go_wp2
    go_ret
    exact ⟨rfl, rfl⟩
  subst h
  have hc := hT 11 (by decide)
  simp [tab] at hc
  rw [if_neg (by decide), if_neg (by decide)]
  clear hT
  go_enter Tryd.func66, Tryd.ntmps66
  go_wp2
  go_ret
  exact ⟨rfl, rfl⟩

theorem length_any (y m : Int) (w : World) (hT : CTab w) :
    Calls Tryd.prog 66 #[.int .i64 y, .int .i64 m] w fun e w' => e = .returned (.int .i64 (Cal.dim y m)) ∧ w' = w := by
  by_cases h : y < 2000 ∨ 2399 < y ∨ m < 1 ∨ 12 < m
  · rw [Cal.dim_out y m h]; exact length_out y m w h
  · exact length_in y m w hT (by omega) (by omega) (by omega) (by omega)

set_option maxHeartbeats 400000 in
theorem ys_any (y : Int) (w : World) (a : 2000 ≤ y) (b : y ≤ 2400) :
    Calls Tryd.prog 67 #[.int .i64 y] w fun e w' => e = .returned (.int .i64 (Cal.ys y)) ∧ w' = w := by
  unfold Cal.ys
  go_enter Tryd.func67, Tryd.ntmps67
  go_wp2
  go_ret
  exact ⟨rfl, rfl⟩

set_option maxHeartbeats 400000 in
theorem cum_any (y m : Int) (w : World) (hT : CTab w) (a : 2000 ≤ y) (b : y ≤ 2399) (c : 1 ≤ m) (d : m ≤ 13) :
    Calls Tryd.prog 68 #[.int .i64 y, .int .i64 m] w fun e w' => e = .returned (.int .i64 (Cal.cum y m)) ∧ w' = w := by
  have H : Hid (CTab w) := hT
  clear hT
  go_enter Tryd.func68, Tryd.ntmps68
  go_wp2
  go_loop [5, 6] (fun t i => ∃ k : Int, 1 ≤ k ∧ k ≤ m ∧ i = .int .i64 k ∧ t = .int .i64 (Cal.cum y k)) (fun _ i => (13 - intOf i).toNat)
  case atStart => exact ⟨1, by omega, by omega, rfl, rfl⟩
  case round =>
    obtain ⟨k, hk1, hk2, rfl, rfl⟩ := hrel
    have cb := Cal.cum_bd y k hk1 (by omega)
    have db := Cal.dim_31 y k
    by_cases hlt : k < m
    · have cs : Hid (Cal.cum y (k + 1) = Cal.cum y k + Cal.dim y k) := Cal.cum_succ y k a b hk1 (by omega)
      go_wp2_with (go_at_call 66; refine (length_any _ _ _ H.out).mono ?_; rintro e w' ⟨rfl, rfl⟩)
      go_round
      case rel => exact ⟨k + 1, by omega, by omega, rfl, by rw [cs.out]⟩
      case measure => simp [intOf]; omega
    · have e : k = m := by omega
      subst e
      go_wp2
      go_ret
      exact ⟨rfl, rfl⟩

end Go.Proofs.YtgjggpgkcbekoadDoor

/- What Number, Of, Week and the smaller functions beside them come to. -/
namespace Go.Proofs.YtgjggpgkcbekoadDoor
open Go.RowKit

theorem CTab.below {w w' : World} (h : CTab w) (hb : Below w.heap.size w w') : CTab w' := fun i hi => cell_later hb (h i hi)
theorem CTab.alloc {w : World} (h : CTab w) (o : Obj) : CTab (w.alloc o) := h.below ((Below.refl _ _).alloc (Nat.le_refl _) o)
theorem CTab.drew {w : World} (h : CTab w) : CTab w.drew := fun i hi => h i hi

set_option maxHeartbeats 400000 in
theorem number_yes (y m d : Int) (w : World) (hT : CTab w) (a : 1 ≤ d) (b : d ≤ Cal.dim y m) :
    Calls Tryd.prog 58 #[.agg #[.int .i64 y, .int .i64 m, .int .i64 d]] w fun e w' => e = .returned (.tuple #[.int .i64 (Cal.num y m d), .int .i64 0]) ∧ Below w.heap.size w w' := by
  have H : Hid (CTab w) := hT
  clear hT
  obtain ⟨r1, r2, r3, r4⟩ := Cal.dim_pos y m (by omega)
  have d31 := Cal.dim_31 y m
  have yb := Cal.ys_bd y r1 (by omega)
  have cb := Cal.cum_bd y m r3 (by omega)
  have n1 : decide (d < 1) = false := by simp; omega
  have n2 : decide (Cal.dim y m < d) = false := by simp; omega
  go_enter Tryd.func58, Tryd.ntmps58
  go_wp2
  go_quiet ((go_at_call 66; exact Calls.quiet_of_same (length_any _ _ _ (H.out.alloc _))))
  go_wp2
  generalize hw : (w.alloc (.cells #[.int .i64 y, .int .i64 m, .int .i64 d] 96)).drewN nq = w1
  have c0 : w1.cell? ⟨w.heap.size, 0, none⟩ = some (.int .i64 y) := by rw [← hw]; simp
  have c1 : w1.cell? ⟨w.heap.size, 1, none⟩ = some (.int .i64 m) := by rw [← hw]; simp
  have c2 : w1.cell? ⟨w.heap.size, 2, none⟩ = some (.int .i64 d) := by rw [← hw]; simp
  have hb : Below w.heap.size w w1 := by rw [← hw]; exact below_drewN ((Below.refl _ _).alloc (Nat.le_refl _) _) _
  have H1 : Hid (CTab w1) := H.out.below hb
  clear hw H
  go_quiet ((first | (go_at_call 67; exact Calls.quiet_of_same (ys_any y _ r1 (by omega))) | (go_at_call 68; exact Calls.quiet_of_same (cum_any y m _ H1.out r1 r2 r3 (by omega)))))
  go_wp2
  go_ret2
  exact ⟨rfl, below_drewN hb _⟩

set_option maxHeartbeats 400000 in
theorem number_no (y m d : Int) (w : World) (hT : CTab w) (a : d < 1 ∨ Cal.dim y m < d) :
    Calls Tryd.prog 58 #[.agg #[.int .i64 y, .int .i64 m, .int .i64 d]] w fun e w' => e = .returned (.tuple #[.int .i64 0, .int .i64 3]) ∧ Below w.heap.size w w' := by
  have H : Hid (CTab w) := hT
  clear hT
  by_cases a1 : d < 1
  · have n1 : decide (d < 1) = true := by simp; omega
    clear a
    go_enter Tryd.func58, Tryd.ntmps58
    go_wp2
    go_quiet (fail)
    go_wp2
    go_ret2
    exact ⟨rfl, below_drewN ((Below.refl _ _).alloc (Nat.le_refl _) _) _⟩
  · have n1 : decide (d < 1) = false := by simp; omega
    have n2 : decide (Cal.dim y m < d) = true := by simp; omega
    clear a
    go_enter Tryd.func58, Tryd.ntmps58
    go_wp2
    go_quiet ((go_at_call 66; exact Calls.quiet_of_same (length_any _ _ _ (H.out.alloc _))))
    go_wp2
    go_ret2
    exact ⟨rfl, below_drewN ((Below.refl _ _).alloc (Nat.le_refl _) _) _⟩

end Go.Proofs.YtgjggpgkcbekoadDoor
