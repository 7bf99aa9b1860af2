/- What strings.Clone and lex.word come to. -/
import Derived.Test.YtgfjbcdjpkcbkaaGreatDoorDu02
import Derived.Lib.Walk
import Derived.Lib.BufferWrite
import Derived.Lib.UnsafeStr
import Derived.Laws.MakeOwn
import Derived.Deep.WholeRow
import Derived.Laws.CopyOwn
import Derived.Lib.Bytealg
namespace Go.Proofs.YtgfjbcdjpkcbkaaGreatDoor
open Go.RowKit Lx
theorem byteInfo : (Tryz.prog.info? 5).map (fun i => (i.zero, i.size, i.bytes)) = some (some (.int .u8 0), 1, 1) := by kernel_rfl
theorem bytesType : Tryz.prog.underlying 129 = some (.slice 5) := by kernel_rfl
theorem pbyteType : Tryz.prog.underlying 130 = some (.pointer 5) := by kernel_rfl
set_option maxHeartbeats 1000000 in
set_option maxRecDepth 100000 in
theorem cloneL_any (s : ByteArray) (w : World) (hlim : s.size ≤ 1000000) :
    Calls Tryz.prog 96 #[.string s] w fun e w' => e = .returned (.string s) ∧ Below w.heap.size w w' := by
  by_cases h0 : s.size = 0
  · have hs : s = ⟨#[]⟩ := by
      apply ByteArray.ext
      exact Array.eq_empty_of_size_eq_zero h0
    subst hs
    go_enter Tryz.func96, Tryz.ntmps96
    go_wp2
    go_ret
    exact ⟨rfl, Below.refl _ _⟩
  · obtain ⟨i0, hi, hz0, hz1, hz2⟩ := info_parts byteInfo
    have hinfo : (Tryz.prog.info? 5).map (·.size) = some 1 := by rw [hi]; simp [hz1]
    have hco : Tryz.prog.cellsOf 5 = 1 := by kernel_rfl
    obtain ⟨M, hM⟩ : ∃ M, M = madeCells (Value.int .u8 0).cells (((s.size : Nat) : Int).toNat * i0.size) := ⟨_, rfl⟩
    have hMs : M.size = s.size := by rw [hM, size_madeCells, hz1]; simp
    have hmk : ∀ W : World, (Instr.makeSlice 129 (.int .i64 (s.size : Int)) (.int .i64 (s.size : Int))).run Tryz.prog W = .ok (.slice (some ⟨W.heap.size, 0, none⟩) s.size s.size) (W.alloc (.cells M 5)) := fun W => by
      have h := run_make (P := Tryz.prog) W 129 5 i0 (.int .u8 0) bytesType hi hz0 .i64 .i64 (s.size : Int) (s.size : Int) (by omega) (by omega) (by rw [hz2]; omega) (by omega)
      rw [← hM] at h
      simpa using h
    clear hM
    have hcp := Lib.run_copy_row_string (P := Tryz.prog) (w.alloc (.cells M 5)) 129 9 3 5 w.heap.size 0 s.size s.size s M 5 bytesType hinfo (heap_alloc_new w _) (Nat.le_refl _) (by omega)
    obtain ⟨Y, hY⟩ : ∃ Y, Y = (M.toList.take 0 ++ Lib.byteCells s.data.toList ++ M.toList.drop (0 + s.size)).toArray := ⟨_, rfl⟩
    rw [← hY] at hcp
    have hYl : Y.toList = Lib.byteCells s.data.toList := by
      rw [hY, List.toList_toArray, List.take_zero, List.nil_append, List.drop_of_length_le (by rw [Array.length_toList]; omega), List.append_nil]
    have hYs : Y.size = s.size := by rw [← Array.length_toList, hYl, Lib.byteCells_length, ← Lib.size_eq]
    have hgY : ((w.alloc (.cells M 5)).setRow w.heap.size Y).heap[w.heap.size]? = some (.cells Y 5 (0, 0)) := setRow_heap _ _ M _ 5 (0, 0) (heap_alloc_new w _)
    have hne : s.data.toList ≠ [] := fun e => h0 (by rw [Lib.size_eq, e]; rfl)
    have hUS := Lib.run_unsafeString_row (P := Tryz.prog) ((w.alloc (.cells M 5)).setRow w.heap.size Y) 130 3 9 5 pbyteType hco w.heap.size Y.size (by unfold World.shape?; rw [hgY]) s.data.toList hne (by rw [← Lib.size_eq]; omega) (by rw [← Lib.size_eq]; omega)
      (fun j x hx => Lib.cells_of_row hgY Y.size j _ (by rw [List.take_of_length_le (by rw [Array.length_toList]; exact Nat.le_refl _), hYl]; simp [Lib.byteCells, hx]))
    rw [← Lib.size_eq] at hUS
    clear hY
    go_enter Tryz.func96, Tryz.ntmps96
    go_wp2
    go_ret
    have hb1 : Below w.heap.size w (w.alloc (.cells M 5)) := (Below.refl _ w).alloc (Nat.le_refl _) _
    have hb2 : Below w.heap.size (w.alloc (.cells M 5)) ((w.alloc (.cells M 5)).setRow w.heap.size Y) := ⟨rfl, rfl, rfl, by simp, fun k hk => setRow_other _ _ _ _ (by omega)⟩
    exact ⟨rfl, Lib.below_freeze (hb1.trans hb2) (p := ⟨w.heap.size, 0, none⟩) (Nat.le_refl _) _⟩
set_option maxHeartbeats 400000 in
theorem clone_any (s : ByteArray) (w : World) (hlim : s.size ≤ 1000000) :
    Calls Tryz.prog 86 #[.string s] w fun e w' => e = .returned (.string s) ∧ Below w.heap.size w w' := by
  go_enter Tryz.func86, Tryz.ntmps86
  go_wp2_with (go_at_call 96; refine (cloneL_any s _ hlim).mono ?_; rintro e w' ⟨rfl, hb⟩)
  go_ret
  exact ⟨rfl, hb⟩
end Go.Proofs.YtgfjbcdjpkcbkaaGreatDoor

/- What lex.word comes to. -/
namespace Go.Proofs.YtgfjbcdjpkcbkaaGreatDoor
open Go.RowKit Lx
theorem cells_eq {w : World} {g : Nat} {c c' : Array Value} {t : TypeId} (hg : w.heap[g]? = some (.cells c t (0, 0))) (e : c = c') : w.heap[g]? = some (.cells c' t (0, 0)) := by rw [hg, e]
set_option maxRecDepth 10000 in
set_option maxHeartbeats 400000 in
theorem word_any (s : ByteArray) (l : List UInt8) (hs : s.data.toList = l) (hl : l.length ≤ 9223372036854775806) (w : World) :
    Calls Tryz.prog 71 #[.string s] w fun e w' => e = .returned (tokv (wordT l)) ∧ Below w.heap.size w w' := by
  have hz : s.size = l.length := by rw [← hs, Lib.size_eq]
  have cl := fun w => wordLen_any s l hs hl w
  have hk := wordLen_le l
  have hb0 : Below w.heap.size w (w.alloc (.cells #[.int .i64 0, .int .i64 0, .int .i64 0, .string ⟨#[]⟩] 101)) := (Below.refl _ _).alloc (Nat.le_refl _) _
  have h0 : (w.alloc (.cells #[.int .i64 0, .int .i64 0, .int .i64 0, .string ⟨#[]⟩] 101)).heap[w.heap.size]? = some (.cells #[.int .i64 0, .int .i64 0, .int .i64 0, .string ⟨#[]⟩] 101 (0, 0)) := heap_alloc_new w _
  have hT : wordT l = if 20 < wordLen l then bad 7 else ⟨if isWordL (l.take (wordLen l)) then 2 else 1, 0, l.take (wordLen l), wordLen l, 0⟩ := rfl
  generalize wordLen l = k at *
  by_cases h20 : 20 < k
  · have HT : Hid (wordT l = bad 7) := by
      show wordT l = _
      rw [hT, if_pos h20]
    have i20 : (20 : Int) < (k : Int) := by omega
    clear hT h0
    go_enter Tryz.func71, Tryz.ntmps71
    go_wp2_with (go_at_call 56; refine (cl _).mono ?_; rintro e w' ⟨rfl, rfl⟩)
    exact tok_post (by rw [Tryz.results71, Tryz.results69]) w.heap.size (bad 7) rfl rfl rfl rfl (heap_alloc_new w _) ⟨by rw [HT.out], hb0⟩
  · rw [if_neg h20] at hT
    have i20 : ¬ (20 : Int) < (k : Int) := by omega
    have i0 : (0 : Int) ≤ (k : Int) := by omega
    have i1 : (k : Int) ≤ (l.length : Int) := by omega
    have hx : (s.extract 0 k).data.toList = l.take k := by rw [Lib.extract_data, hs]; simp
    have hxs : (s.extract 0 k).size ≤ 1000000 := by rw [Lib.size_eq, hx]; simp; omega
    have cc := fun w => clone_any (s.extract 0 k) w hxs
    have cw := fun w => isWord_any (s.extract 0 k) (l.take k) hx w
    have hba := ba_of hx
    cases hW : isWordL (l.take k) with
    | true =>
      rw [hW] at cw
      have HT : Hid (wordT l = ⟨2, 0, l.take k, k, 0⟩) := by
        show wordT l = _
        rw [hT, hW]; rfl
      have HX : Hid (s.extract 0 k = ⟨(l.take k).toArray⟩) := hba
      clear hT hW hba hx
      go_enter Tryz.func71, Tryz.ntmps71
      go_wp2_with (first
        | (go_at_call 56; refine (cl _).mono ?_; rintro e w' ⟨rfl, rfl⟩)
        | (go_at_call 86; refine (cc _).mono ?_; rintro e w1 ⟨rfl, hb1⟩; have h1 := (hb1.block _ (lt_of_block h0)).trans h0; have hbw1 := hb0.trans (hb1.mono hb0.size); clear hb1 h0 hb0)
        | (go_at_call 57; refine (cw _).mono ?_; rintro e w2 ⟨rfl, hb2⟩; have h2 := (hb2.block _ (lt_of_block h1)).trans h1; have hbw2 := hbw1.trans (hb2.mono hbw1.size); clear hb2 h1 hbw1)
        | (refine wpList_store_row rfl 101 _ _ rfl _ _ rfl rfl _ _ h2 (by kernel_rfl) (by simp) (by simp [Value.oneCell']) ?_))
      exact tok_post (by rw [Tryz.results71, Tryz.results69]) w.heap.size ⟨2, 0, l.take k, k, 0⟩ rfl rfl rfl rfl (cells_eq (setRow_heap _ _ _ _ _ _ h2) (by rw [HX.out])) ⟨by rw [HT.out], below_setRow hbw2 (Nat.le_refl _) _⟩
    | false =>
      rw [hW] at cw
      have HT : Hid (wordT l = ⟨1, 0, l.take k, k, 0⟩) := by
        show wordT l = _
        rw [hT, hW]; rfl
      have HX : Hid (s.extract 0 k = ⟨(l.take k).toArray⟩) := hba
      clear hT hW hba hx
      go_enter Tryz.func71, Tryz.ntmps71
      go_wp2_with (first
        | (go_at_call 56; refine (cl _).mono ?_; rintro e w' ⟨rfl, rfl⟩)
        | (go_at_call 86; refine (cc _).mono ?_; rintro e w1 ⟨rfl, hb1⟩; have h1 := (hb1.block _ (lt_of_block h0)).trans h0; have hbw1 := hb0.trans (hb1.mono hb0.size); clear hb1 h0 hb0)
        | (go_at_call 57; refine (cw _).mono ?_; rintro e w2 ⟨rfl, hb2⟩; have h2 := (hb2.block _ (lt_of_block h1)).trans h1; have hbw2 := hbw1.trans (hb2.mono hbw1.size); clear hb2 h1 hbw1)
        | (refine wpList_store_row rfl 101 _ _ rfl _ _ rfl rfl _ _ h2 (by kernel_rfl) (by simp) (by simp [Value.oneCell']) ?_))
      exact tok_post (by rw [Tryz.results71, Tryz.results69]) w.heap.size ⟨1, 0, l.take k, k, 0⟩ rfl rfl rfl rfl (cells_eq (setRow_heap _ _ _ _ _ _ h2) (by rw [HX.out])) ⟨by rw [HT.out], below_setRow hbw2 (Nat.le_refl _) _⟩
end Go.Proofs.YtgfjbcdjpkcbkaaGreatDoor

/- What lex.date comes to. -/
namespace Go.Proofs.YtgfjbcdjpkcbkaaGreatDoor
open Go.RowKit Lx
def numE (y m d : Int) : Int × Int := if 1 ≤ d ∧ d ≤ Cal.dim y m then (Cal.num y m d, 0) else (0, 3)
theorem num_any (y m d : Int) (w : World) (hT : CTab w) :
    Calls Tryz.prog 84 #[.agg #[.int .i64 y, .int .i64 m, .int .i64 d]] w fun e w' => e = .returned (.tuple #[.int .i64 (numE y m d).1, .int .i64 (numE y m d).2]) ∧ Below w.heap.size w w' := by
  unfold numE
  by_cases h : 1 ≤ d ∧ d ≤ Cal.dim y m
  · rw [if_pos h]; exact number_yes y m d w hT h.1 h.2
  · rw [if_neg h]; exact number_no y m d w hT (by omega)
def dateT (l : List UInt8) : T1 := if (numE (valL ((l.drop 0).take 4)) (valL ((l.drop 5).take 2)) (valL ((l.drop 8).take 2))).2 = 0 then ⟨5, (numE (valL ((l.drop 0).take 4)) (valL ((l.drop 5).take 2)) (valL ((l.drop 8).take 2))).1, [], 10, 0⟩ else bad 3
theorem numE_err (y m d : Int) : (numE y m d).2 = 0 ∨ (numE y m d).2 = 3 := by
  unfold numE; split <;> simp
structure Fr27 (l : List Value) where
  (u0 u1 u2 u3 u4 u5 u6 u7 u8 u9 u10 u11 u12 u13 u14 u15 u16 u17 u18 u19 u20 u21 u22 u23 u24 u25 u26 : Value)
  eq : l = [u0, u1, u2, u3, u4, u5, u6, u7, u8, u9, u10, u11, u12, u13, u14, u15, u16, u17, u18, u19, u20, u21, u22, u23, u24, u25, u26]
set_option maxRecDepth 100000 in
theorem fr27 (l : List Value) (hl : l.length = 27) : Nonempty (Fr27 l) := allL 27 (fun l => Nonempty (Fr27 l)) (fun u0 u1 u2 u3 u4 u5 u6 u7 u8 u9 u10 u11 u12 u13 u14 u15 u16 u17 u18 u19 u20 u21 u22 u23 u24 u25 u26 => ⟨⟨u0, u1, u2, u3, u4, u5, u6, u7, u8, u9, u10, u11, u12, u13, u14, u15, u16, u17, u18, u19, u20, u21, u22, u23, u24, u25, u26, rfl⟩⟩) l hl
def dsp (s : ByteArray) (y m d nv ev : Int) (i : Nat) (v : Value) : Prop := match i with
  | 0 => v = .string s
  | 1 => v = .string (s.extract 0 4)
  | 2 => v = .int .i64 y
  | 3 => v = .string s
  | 4 => v = .string (s.extract 5 7)
  | 5 => v = .int .i64 m
  | 6 => v = .string s
  | 7 => v = .string (s.extract 8 10)
  | 8 => v = .int .i64 d
  | 9 => v = .agg #[.int .i64 y, .int .i64 m, .int .i64 d]
  | 10 => v = .tuple #[.int .i64 nv, .int .i64 ev]
  | 11 => v = .tuple #[.int .i64 nv, .int .i64 ev]
  | 12 => v = .int .i64 nv
  | 13 => v = .int .i64 ev
  | 14 => v = .int .i64 nv
  | 15 => v = .int .i64 ev
  | _ => True
set_option maxRecDepth 10000 in
set_option maxHeartbeats 1000000 in
theorem date_any (s : ByteArray) (l : List UInt8) (hs : s.data.toList = l) (hf : fitsL l dateF = true) (w : World) (hT : CTab w) :
    Calls Tryz.prog 66 #[.string s] w fun e w' => e = .returned (tokv (dateT l)) ∧ Below w.heap.size w w' := by
  have hz : s.size = l.length := by rw [← hs, Lib.size_eq]
  obtain ⟨hlen, _⟩ := fitsL_at hf
  have hlen10 : 10 ≤ l.length := hlen
  have hi4 : (4 : Int) ≤ (l.length : Int) := by omega
  have hi7 : (7 : Int) ≤ (l.length : Int) := by omega
  have hi10 : (10 : Int) ≤ (l.length : Int) := by omega
  obtain ⟨n1, d1⟩ := dig_part hf 0 4 (by decide) (by decide)
  obtain ⟨n2, d2⟩ := dig_part hf 5 2 (by decide) (by decide)
  obtain ⟨n3, d3⟩ := dig_part hf 8 2 (by decide) (by decide)
  have cy := fun w => value_any (s.extract 0 4) ((l.drop 0).take 4) (by rw [Lib.extract_data, hs]) (by omega) d1 w
  have cm := fun w => value_any (s.extract 5 7) ((l.drop 5).take 2) (by rw [Lib.extract_data, hs]) (by omega) d2 w
  have cd := fun w => value_any (s.extract 8 10) ((l.drop 8).take 2) (by rw [Lib.extract_data, hs]) (by omega) d3 w
  have hD : dateT l = if (numE (valL ((l.drop 0).take 4)) (valL ((l.drop 5).take 2)) (valL ((l.drop 8).take 2))).2 = 0 then ⟨5, (numE (valL ((l.drop 0).take 4)) (valL ((l.drop 5).take 2)) (valL ((l.drop 8).take 2))).1, [], 10, 0⟩ else bad 3 := rfl
  generalize valL ((l.drop 0).take 4) = y at *
  generalize valL ((l.drop 5).take 2) = m at *
  generalize valL ((l.drop 8).take 2) = d at *
  have cN := fun w hT => num_any y m d w hT
  have hE := numE_err y m d
  generalize (numE y m d).1 = nv at *
  generalize (numE y m d).2 = ev at *
  have HD : Hid (dateT l = if ev = 0 then ⟨5, nv, [], 10, 0⟩ else bad 3) := hD
  clear hD n1 n2 n3 d1 d2 d3 hlen hf
  have hb0 : Below w.heap.size w (w.alloc (.cells #[.int .i64 0, .int .i64 0, .int .i64 0, .string ⟨#[]⟩] 101)) := (Below.refl _ _).alloc (Nat.le_refl _) _
  have h0 : (w.alloc (.cells #[.int .i64 0, .int .i64 0, .int .i64 0, .string ⟨#[]⟩] 101)).heap[w.heap.size]? = some (.cells #[.int .i64 0, .int .i64 0, .int .i64 0, .string ⟨#[]⟩] 101 (0, 0)) := heap_alloc_new w _
  have hT0 := hT.below hb0
  clear hT
  have hT := hT0
  clear hT0
  go_enter Tryz.func66, Tryz.ntmps66
  go_wp2
  generalize w.alloc (.cells #[.int .i64 0, .int .i64 0, .int .i64 0, .string ⟨#[]⟩] 101) = w0 at *
  refine wp_region_flow (by kernel_rfl) (by kernel_rfl) (by kernel_rfl) (by kernel_rfl) (fun _ _ W => Below w0.heap.size w0 W) (fun i v _ => dsp s y m d nv ev i v) ?_ ?_ ?_
  · intro L hL
    exact (Below.refl _ _).drew
  · intro i o L A W ho hLi hdep hJ hdef hkept hhas
    clear hdef hLi
    have fin : ∀ (v : Value) (ds : Nat) (W' : World), Below W.heap.size W W' → dsp s y m d nv ev i v → ∃ u, A.put (some ds) v = A.put (some ds) u ∧ (some ds ≠ none → dsp s y m d nv ev i u) ∧ (∀ j x', L j = true → dsp s y m d nv ev j x' → dsp s y m d nv ev j x') ∧ Below w0.heap.size w0 W' := by
      intro v ds W' hb hv
      exact ⟨v, rfl, fun _ => hv, fun _ _ _ h => h, hJ.trans (hb.mono hJ.size)⟩
    match i, ho with
    | 0, ho =>
      cases Option.some.inj ho
      have h0 : A.tmps[0]?.getD undef = .string s := (gd A 0).trans (hkept 0 (fun j p hp _ => nd (by kernel_rfl) j p hp))
      refine wpOp_step rfl (fun K hK => ?_)
      go_simp
      exact hK _ _ (fin _ 8 _ (Below.refl _ _) rfl)
    | 1, ho =>
      cases Option.some.inj ho
      have h8 : A.tmps[8]?.getD undef = .string s := (gd A 8).trans (show A.tmps.getD 8 undef = .string s from hhas 0 _ rfl (hdep ⟨0, .data⟩ (by simp) rfl) 8 rfl)
      refine wpOp_step rfl (fun K hK => ?_)
      go_simp
      exact hK _ _ (fin _ 9 _ (Below.refl _ _) rfl)
    | 2, ho =>
      cases Option.some.inj ho
      have h9 : A.tmps[9]?.getD undef = .string (s.extract 0 4) := (gd A 9).trans (show A.tmps.getD 9 undef = .string (s.extract 0 4) from hhas 1 _ rfl (hdep ⟨1, .data⟩ (by simp) rfl) 9 rfl)
      refine wpOp_step rfl (fun K hK => ?_)
      go_simp
      refine (cy _).mono ?_
      rintro e W' ⟨rfl, rfl⟩
      exact hK _ _ (fin _ 10 _ (Below.refl _ _) rfl)
    | 3, ho =>
      cases Option.some.inj ho
      have h0 : A.tmps[0]?.getD undef = .string s := (gd A 0).trans (hkept 0 (fun j p hp _ => nd (by kernel_rfl) j p hp))
      refine wpOp_step rfl (fun K hK => ?_)
      go_simp
      exact hK _ _ (fin _ 11 _ (Below.refl _ _) rfl)
    | 4, ho =>
      cases Option.some.inj ho
      have h11 : A.tmps[11]?.getD undef = .string s := (gd A 11).trans (show A.tmps.getD 11 undef = .string s from hhas 3 _ rfl (hdep ⟨3, .data⟩ (by simp) rfl) 11 rfl)
      refine wpOp_step rfl (fun K hK => ?_)
      go_simp
      exact hK _ _ (fin _ 12 _ (Below.refl _ _) rfl)
    | 5, ho =>
      cases Option.some.inj ho
      have h12 : A.tmps[12]?.getD undef = .string (s.extract 5 7) := (gd A 12).trans (show A.tmps.getD 12 undef = .string (s.extract 5 7) from hhas 4 _ rfl (hdep ⟨4, .data⟩ (by simp) rfl) 12 rfl)
      refine wpOp_step rfl (fun K hK => ?_)
      go_simp
      refine (cm _).mono ?_
      rintro e W' ⟨rfl, rfl⟩
      exact hK _ _ (fin _ 13 _ (Below.refl _ _) rfl)
    | 6, ho =>
      cases Option.some.inj ho
      have h0 : A.tmps[0]?.getD undef = .string s := (gd A 0).trans (hkept 0 (fun j p hp _ => nd (by kernel_rfl) j p hp))
      refine wpOp_step rfl (fun K hK => ?_)
      go_simp
      exact hK _ _ (fin _ 14 _ (Below.refl _ _) rfl)
    | 7, ho =>
      cases Option.some.inj ho
      have h14 : A.tmps[14]?.getD undef = .string s := (gd A 14).trans (show A.tmps.getD 14 undef = .string s from hhas 6 _ rfl (hdep ⟨6, .data⟩ (by simp) rfl) 14 rfl)
      refine wpOp_step rfl (fun K hK => ?_)
      go_simp
      exact hK _ _ (fin _ 15 _ (Below.refl _ _) rfl)
    | 8, ho =>
      cases Option.some.inj ho
      have h15 : A.tmps[15]?.getD undef = .string (s.extract 8 10) := (gd A 15).trans (show A.tmps.getD 15 undef = .string (s.extract 8 10) from hhas 7 _ rfl (hdep ⟨7, .data⟩ (by simp) rfl) 15 rfl)
      refine wpOp_step rfl (fun K hK => ?_)
      go_simp
      refine (cd _).mono ?_
      rintro e W' ⟨rfl, rfl⟩
      exact hK _ _ (fin _ 16 _ (Below.refl _ _) rfl)
    | 9, ho =>
      cases Option.some.inj ho
      have h10 : A.tmps[10]?.getD undef = .int .i64 y := (gd A 10).trans (show A.tmps.getD 10 undef = .int .i64 y from hhas 2 _ rfl (hdep ⟨2, .data⟩ (by simp) rfl) 10 rfl)
      have h13 : A.tmps[13]?.getD undef = .int .i64 m := (gd A 13).trans (show A.tmps.getD 13 undef = .int .i64 m from hhas 5 _ rfl (hdep ⟨5, .data⟩ (by simp) rfl) 13 rfl)
      have h16 : A.tmps[16]?.getD undef = .int .i64 d := (gd A 16).trans (show A.tmps.getD 16 undef = .int .i64 d from hhas 8 _ rfl (hdep ⟨8, .data⟩ (by simp) rfl) 16 rfl)
      refine wpOp_step rfl (fun K hK => ?_)
      go_simp
      exact hK _ _ (fin _ 17 _ (Below.refl _ _) rfl)
    | 10, ho =>
      cases Option.some.inj ho
      have h17 : A.tmps[17]?.getD undef = .agg #[.int .i64 y, .int .i64 m, .int .i64 d] := (gd A 17).trans (show A.tmps.getD 17 undef = .agg #[.int .i64 y, .int .i64 m, .int .i64 d] from hhas 9 _ rfl (hdep ⟨9, .data⟩ (by simp) rfl) 17 rfl)
      refine wpOp_step rfl (fun K hK => ?_)
      go_simp
      refine (cN _ (hT.below hJ)).mono ?_
      rintro e W' ⟨rfl, hb⟩
      exact hK _ _ (fin _ 18 _ hb rfl)
    | 11, ho =>
      cases Option.some.inj ho
      have h18 : A.tmps[18]?.getD undef = .tuple #[.int .i64 nv, .int .i64 ev] := (gd A 18).trans (show A.tmps.getD 18 undef = .tuple #[.int .i64 nv, .int .i64 ev] from hhas 10 _ rfl (hdep ⟨10, .data⟩ (by simp) rfl) 18 rfl)
      refine wpOp_step rfl (fun K hK => ?_)
      go_simp
      exact hK _ _ (fin _ 7 _ (Below.refl _ _) rfl)
    | 12, ho =>
      cases Option.some.inj ho
      have h7 : A.tmps[7]?.getD undef = .tuple #[.int .i64 nv, .int .i64 ev] := (gd A 7).trans (show A.tmps.getD 7 undef = .tuple #[.int .i64 nv, .int .i64 ev] from hhas 11 _ rfl (hdep ⟨11, .data⟩ (by simp) rfl) 7 rfl)
      refine wpOp_step rfl (fun K hK => ?_)
      go_simp
      exact hK _ _ (fin _ 19 _ (Below.refl _ _) rfl)
    | 13, ho =>
      cases Option.some.inj ho
      have h7 : A.tmps[7]?.getD undef = .tuple #[.int .i64 nv, .int .i64 ev] := (gd A 7).trans (show A.tmps.getD 7 undef = .tuple #[.int .i64 nv, .int .i64 ev] from hhas 11 _ rfl (hdep ⟨11, .data⟩ (by simp) rfl) 7 rfl)
      refine wpOp_step rfl (fun K hK => ?_)
      go_simp
      exact hK _ _ (fin _ 20 _ (Below.refl _ _) rfl)
    | 14, ho =>
      cases Option.some.inj ho
      have h19 : A.tmps[19]?.getD undef = .int .i64 nv := (gd A 19).trans (show A.tmps.getD 19 undef = .int .i64 nv from hhas 12 _ rfl (hdep ⟨12, .data⟩ (by simp) rfl) 19 rfl)
      refine wpOp_step rfl (fun K hK => ?_)
      go_simp
      exact hK _ _ (fin _ 5 _ (Below.refl _ _) rfl)
    | 15, ho =>
      cases Option.some.inj ho
      have h20 : A.tmps[20]?.getD undef = .int .i64 ev := (gd A 20).trans (show A.tmps.getD 20 undef = .int .i64 ev from hhas 13 _ rfl (hdep ⟨13, .data⟩ (by simp) rfl) 20 rfl)
      refine wpOp_step rfl (fun K hK => ?_)
      go_simp
      exact hK _ _ (fin _ 6 _ (Below.refl _ _) rfl)
    | k + 16, ho => simp at ho
  · intro L A W hL hJ hdef hsize hkept hhas
    obtain ⟨t, dd⟩ := A
    have hd : dd = [] := hdef
    subst hd
    clear hdef
    obtain ⟨q, rfl⟩ : ∃ q : List Value, t = q.toArray := ⟨t.toList, by simp⟩
    have hl : q.length = 27 := by
      have h : q.toArray.size = 27 := hsize
      simpa using h
    obtain ⟨⟨u0, u1, u2, u3, u4, u5, u6, u7, u8, u9, u10, u11, u12, u13, u14, u15, u16, u17, u18, u19, u20, u21, u22, u23, u24, u25, u26, rfl⟩⟩ := fr27 q hl
    have e2 : u2 = .pointer (some ⟨w.heap.size, 0, none⟩) := hkept 2 (nd (by kernel_rfl))
    have e3 : u3 = .int .i64 0 := hkept 3 (nd (by kernel_rfl))
    have e4 : u4 = .int .i64 0 := hkept 4 (nd (by kernel_rfl))
    have e5 : u5 = .int .i64 nv := hhas 14 _ rfl 5 rfl
    have e6 : u6 = .int .i64 ev := hhas 15 _ rfl 6 rfl
    subst e2 e3 e4 e5 e6
    have h1 := (hJ.block _ (lt_of_block h0)).trans h0
    have hb1 := hb0.trans (hJ.mono hb0.size)
    clear hsize hkept hhas hL hJ hl h0 hb0 cy cm cd cN
    rcases hE with hE | hE
    · have HT : Hid (dateT l = ⟨5, nv, [], 10, 0⟩) := by
        show dateT l = _
        rw [HD.out, if_pos hE]
      subst hE
      go_wp2_with (refine wpList_store_row rfl 101 _ _ rfl _ _ rfl rfl _ _ h1 (by kernel_rfl) (by simp) (by simp [Value.oneCell']) ?_)
      exact tok_post (by rw [Tryz.results66, Tryz.results69]) w.heap.size ⟨5, nv, [], 10, 0⟩ rfl rfl rfl rfl (setRow_heap _ _ _ _ _ _ h1) ⟨by rw [HT.out], below_setRow hb1 (Nat.le_refl _) _⟩
    · have HT : Hid (dateT l = bad 3) := by
        show dateT l = _
        rw [HD.out, if_neg (by omega)]
      subst hE
      go_wp2_with (refine wpList_store_row rfl 101 _ _ rfl _ _ rfl rfl _ _ h1 (by kernel_rfl) (by simp) (by simp [Value.oneCell']) ?_)
      exact tok_post (by rw [Tryz.results66, Tryz.results69]) w.heap.size (bad 3) rfl rfl rfl rfl (setRow_heap _ _ _ _ _ _ h1) ⟨by rw [HT.out], below_setRow hb1 (Nat.le_refl _) _⟩
end Go.Proofs.YtgfjbcdjpkcbkaaGreatDoor

/- What strings.IndexByte comes to. -/
namespace Go.Proofs.YtgfjbcdjpkcbkaaGreatDoor
open Go.RowKit Lx
set_option maxHeartbeats 400000 in
set_option maxRecDepth 100000 in
theorem indexL_any (s : ByteArray) (c : Int) (w : World) :
    Calls Tryz.prog 92 #[.string s, .int .u8 c] w fun e w' => e = .returned (.int .i64 (Lib.indexByte s.data.toList c.toNat.toUInt8)) ∧ w' = w := by
  go_enter Tryz.func92, Tryz.ntmps92
  go_wp2
  rw [run_callFunc_extern Tryz.func100 (by kernel_rfl) (by kernel_rfl) (by kernel_rfl) (e := Extern.BytealgIndexByte.indexByte) (by kernel_rfl), Lib.run_indexByteString]
  simp only [Result.andThen]
  rw [Oper.upon_value]
  go_wp2
  go_ret
  exact ⟨rfl, rfl⟩
set_option maxHeartbeats 400000 in
theorem index_any (s : ByteArray) (c : Int) (w : World) :
    Calls Tryz.prog 83 #[.string s, .int .u8 c] w fun e w' => e = .returned (.int .i64 (Lib.indexByte s.data.toList c.toNat.toUInt8)) ∧ w' = w := by
  go_enter Tryz.func83, Tryz.ntmps83
  go_wp2_with (go_at_call 92; refine (indexL_any _ _ _).mono ?_; rintro e w' ⟨rfl, rfl⟩)
  go_ret
  exact ⟨rfl, rfl⟩
end Go.Proofs.YtgfjbcdjpkcbkaaGreatDoor

/- What strings.HasPrefix comes to. -/
namespace Go.Proofs.YtgfjbcdjpkcbkaaGreatDoor
open Go.RowKit Lx
set_option maxHeartbeats 400000 in
theorem prefix_any (s p : ByteArray) (w : World) :
    Calls Tryz.prog 87 #[.string s, .string p] w fun e w' => e = .returned (.bool (Lib.hasPrefix s.data.toList p.data.toList)) ∧ w' = w := by
  rw [← Lib.hasPrefix_of_take, ← Lib.size_eq, ← Lib.size_eq]
  go_enter Tryz.func87, Tryz.ntmps87
  go_wp2
  · rename_i h
    go_ret
    refine ⟨?_, rfl⟩
    show Ending.returned (Value.bool ((s.extract 0 p.size).toList == p.toList)) = _
    rw [Lib.extract_toList, Lib.toList_data]
    simp [h]
  · rename_i h
    go_ret
    refine ⟨?_, rfl⟩
    show Ending.returned (Value.bool false) = _
    simp [h]
end Go.Proofs.YtgfjbcdjpkcbkaaGreatDoor

/- What lex.sign comes to. -/
namespace Go.Proofs.YtgfjbcdjpkcbkaaGreatDoor
open Go.RowKit Lx
set_option maxRecDepth 10000 in
set_option maxHeartbeats 400000 in
theorem sign_any (s : ByteArray) (l : List UInt8) (hs : s.data.toList = l) (hl : 0 < l.length) (w : World) :
    Calls Tryz.prog 72 #[.string s] w fun e w' => e = .returned (tokv (signT l)) ∧ Below w.heap.size w w' := by
  have hz : s.size = l.length := by rw [← hs, Lib.size_eq]
  have cp := fun w => prefix_any s ⟨#[46, 46]⟩ w
  rw [hs] at cp
  have hb0 : Below w.heap.size w (w.alloc (.cells #[.int .i64 0, .int .i64 0, .int .i64 0, .string ⟨#[]⟩] 101)) := (Below.refl _ _).alloc (Nat.le_refl _) _
  cases hp : Lib.hasPrefix l [46, 46] with
  | true =>
    have HT : Hid (signT l = ⟨3, 0, [46, 46], 2, 0⟩) := by
      show signT l = _
      unfold signT; rw [hp]; rfl
    rw [show (⟨#[46, 46]⟩ : ByteArray).data.toList = [46, 46] from rfl, hp] at cp
    have hbx : Below w.heap.size w (w.alloc (.cells #[.int .i64 3, .int .i64 0, .int .i64 0, .string ⟨#[46, 46]⟩] 101)) := (Below.refl _ _).alloc (Nat.le_refl _) _
    clear hp
    go_enter Tryz.func72, Tryz.ntmps72
    go_wp2_with (go_at_call 87; refine (cp _).mono ?_; rintro e w' ⟨rfl, rfl⟩)
    exact tok_post (by rw [Tryz.results72, Tryz.results69]) w.heap.size ⟨3, 0, [46, 46], 2, 0⟩ rfl rfl rfl rfl (heap_alloc_new w _) ⟨by rw [HT.out], hbx⟩
  | false =>
    rw [show (⟨#[46, 46]⟩ : ByteArray).data.toList = [46, 46] from rfl, hp] at cp
    have g1 : ∀ h : 0 < s.size, s[0] = l.getD 0 0 := fun h => byte_at hs 0 h
    have hl' : (0 : Int) < (l.length : Int) := by omega
    have ci := fun w => index_any ⟨#[61, 59, 58, 43, 45, 38, 40, 41, 44]⟩ ((l.getD 0 0).toNat : Int) w
    have eu : (((l.getD 0 0).toNat : Int)).toNat.toUInt8 = l.getD 0 0 := by simp
    rw [eu, show (⟨#[61, 59, 58, 43, 45, 38, 40, 41, 44]⟩ : ByteArray).data.toList = signsL from rfl] at ci
    have hlt := index_lt signsL (l.getD 0 0)
    have hlt9 : Lib.indexByte signsL (l.getD 0 0) < 9 := hlt
    have hge := Lib.indexByte_ge signsL (l.getD 0 0)
    have hat := index_at signsL (l.getD 0 0)
    have hT : signT l = if Go.Lib.indexByte signsL (l.getD 0 0) < 0 then bad 2 else ⟨3, 0, [l.getD 0 0], 1, 0⟩ := by
      unfold signT; rw [hp]; rfl
    generalize hc : l.getD 0 0 = c at *
    generalize Lib.indexByte signsL c = i at *
    clear hp hlt eu
    by_cases hi : i < 0
    · have HT : Hid (signT l = bad 2) := by
        show signT l = _
        rw [hT, if_pos hi]
      clear hT hat
      go_enter Tryz.func72, Tryz.ntmps72
      go_wp2_with (first
        | (go_at_call 87; refine (cp _).mono ?_; rintro e w' ⟨rfl, rfl⟩)
        | (go_at_call 83; refine (ci _).mono ?_; rintro e w' ⟨rfl, rfl⟩))
      exact tok_post (by rw [Tryz.results72, Tryz.results69]) w.heap.size (bad 2) rfl rfl rfl rfl (heap_alloc_new w _) ⟨by rw [HT.out], hb0⟩
    · have HT : Hid (signT l = ⟨3, 0, [c], 1, 0⟩) := by
        show signT l = _
        rw [hT, if_neg hi]
      obtain ⟨j, rfl⟩ : ∃ j : Nat, i = j := ⟨i.toNat, by omega⟩
      have hj := hat j rfl
      have hj9 : j < 9 := by omega
      have ex : (⟨#[61, 59, 58, 43, 45, 38, 40, 41, 44]⟩ : ByteArray).extract j (j + 1) = ⟨#[c]⟩ := by
        apply ba_of (l := [c])
        rw [Lib.extract_data, show (⟨#[61, 59, 58, 43, 45, 38, 40, 41, 44]⟩ : ByteArray).data.toList = signsL from rfl, show j + 1 - j = 1 by omega]
        have hjl : j < signsL.length := hj9
        rw [List.drop_eq_getElem_cons hjl]
        have : signsL[j] = c := by
          rw [← hj]; simp [List.getD, hjl]
        simp [this]
      have i0 : ¬ (j : Int) < 0 := by omega
      have i1 : (0 : Int) ≤ (j : Int) := by omega
      have i2 : (j : Int) ≤ 9 := by omega
      have i3 : (j : Int) + 1 ≤ 9 := by omega
      have hbx : Below w.heap.size w (w.alloc (.cells #[.int .i64 3, .int .i64 0, .int .i64 0, .string ⟨#[c]⟩] 101)) := (Below.refl _ _).alloc (Nat.le_refl _) _
      clear hT hat hi hj
      go_enter Tryz.func72, Tryz.ntmps72
      go_wp2_with (first
        | (go_at_call 87; refine (cp _).mono ?_; rintro e w' ⟨rfl, rfl⟩)
        | (go_at_call 83; refine (ci _).mono ?_; rintro e w' ⟨rfl, rfl⟩))
      exact tok_post (by rw [Tryz.results72, Tryz.results69]) w.heap.size ⟨3, 0, [c], 1, 0⟩ rfl rfl rfl rfl (heap_alloc_new w _) ⟨by rw [HT.out], hbx⟩
end Go.Proofs.YtgfjbcdjpkcbkaaGreatDoor

/- What lex.first comes to: the token that a text begins with. -/
namespace Go.Proofs.YtgfjbcdjpkcbkaaGreatDoor
open Go.RowKit Lx
def firstT (l : List UInt8) : T1 := if fitsL l dateF then dateT l else if fitsL l timeF then timeT l else if isD (l.getD 0 0) then numT l else if isL (l.getD 0 0) then wordT l else signT l
set_option maxRecDepth 10000 in
set_option maxHeartbeats 400000 in
theorem first_any (s : ByteArray) (l : List UInt8) (hs : s.data.toList = l) (hl : l.length ≤ 9223372036854775806) (hl0 : 0 < l.length) (w : World) (hT : CTab w) :
    Calls Tryz.prog 50 #[.string s] w fun e w' => e = .returned (tokv (firstT l)) ∧ Below w.heap.size w w' := by
  have hz : s.size = l.length := by rw [← hs, Lib.size_eq]
  have hl0' : (0 : Int) < (l.length : Int) := by omega
  have g1 : ∀ h : 0 < s.size, s[0] = l.getD 0 0 := fun h => byte_at hs 0 h
  have hb0 : Below w.heap.size w (w.alloc (.cells #[.int .i64 0, .int .i64 0, .int .i64 0, .string ⟨#[]⟩] 101)) := (Below.refl _ _).alloc (Nat.le_refl _) _
  have h0 : (w.alloc (.cells #[.int .i64 0, .int .i64 0, .int .i64 0, .string ⟨#[]⟩] 101)).heap[w.heap.size]? = some (.cells #[.int .i64 0, .int .i64 0, .int .i64 0, .string ⟨#[]⟩] 101 (0, 0)) := heap_alloc_new w _
  have HT0 : Hid (CTab w) := hT
  clear hT
  have cf1 := fun w => fits_any s ⟨#[48, 48, 48, 48, 45, 48, 48, 45, 48, 48]⟩ l dateF hs rfl (by omega) (by decide) w
  have cf2 := fun w => fits_any s ⟨#[48, 48, 58, 48, 48]⟩ l timeF hs rfl (by omega) (by decide) w
  have cD := fun w => digit_any (l.getD 0 0) w
  have cL := fun w => letter_any (l.getD 0 0) w
  have hF : firstT l = if fitsL l dateF then dateT l else if fitsL l timeF then timeT l else if isD (l.getD 0 0) then numT l else if isL (l.getD 0 0) then wordT l else signT l := rfl
  generalize hc : l.getD 0 0 = c at *
  cases f1 : fitsL l dateF with
  | true =>
    rw [f1] at cf1
    have HT : Hid (firstT l = dateT l) := by
      show firstT l = _
      rw [hF, f1]; rfl
    obtain ⟨t, cT, HS⟩ : ∃ t : T1, (∀ w, CTab w → Calls Tryz.prog 66 #[.string s] w fun e w' => e = .returned (.tuple #[.agg #[.int .i64 t.kind, .int .i64 t.n, .int .i64 0, .string ⟨t.text.toArray⟩], .int .i64 (t.len : Int), .int .i64 t.err]) ∧ Below w.heap.size w w') ∧ Hid (dateT l = t) := ⟨dateT l, fun w _hT => date_any s l hs f1 w _hT, rfl⟩
    clear hF
    go_enter Tryz.func50, Tryz.ntmps50
    go_wp2_with (first
      | (go_at_call 65; have _t := cf1; refine (cf1 _).mono ?_; rintro e w1 ⟨rfl, hb1⟩; have h1 := (hb1.block _ (lt_of_block h0)).trans h0; have hbw1 := hb0.trans (hb1.mono hb0.size); clear _t cf1 hb1 h0 hb0)
      | (go_at_call 66; refine (cT _ (HT0.out.below hbw1)).mono ?_; rintro e w9 ⟨rfl, hb9⟩; have h9 := (hb9.block _ (lt_of_block h1)).trans h1; have hbw9 := hbw1.trans (hb9.mono hbw1.size); clear hb9 h1 hbw1)
      | (refine wpList_store_row rfl 101 _ _ rfl _ _ rfl rfl _ _ h9 (by kernel_rfl) (by simp) (by simp [Value.oneCell']) ?_))
    exact tok_post (by rw [Tryz.results50, Tryz.results69]) w.heap.size t rfl rfl rfl rfl (setRow_heap _ _ _ _ _ _ h9) ⟨by rw [HT.out, HS.out], below_setRow hbw9 (Nat.le_refl _) _⟩
  | false =>
    rw [f1] at cf1
    cases f2 : fitsL l timeF with
    | true =>
      rw [f2] at cf2
      have HT : Hid (firstT l = timeT l) := by
        show firstT l = _
        rw [hF, f1, f2]; rfl
      obtain ⟨t, cT, HS⟩ : ∃ t : T1, (∀ w, CTab w → Calls Tryz.prog 67 #[.string s] w fun e w' => e = .returned (.tuple #[.agg #[.int .i64 t.kind, .int .i64 t.n, .int .i64 0, .string ⟨t.text.toArray⟩], .int .i64 (t.len : Int), .int .i64 t.err]) ∧ Below w.heap.size w w') ∧ Hid (timeT l = t) := ⟨timeT l, fun w _hT => clock_any s l hs hl f2 w, rfl⟩
      clear hF
      go_enter Tryz.func50, Tryz.ntmps50
      go_wp2_with (first
        | (go_at_call 65; have _t := cf1; refine (cf1 _).mono ?_; rintro e w1 ⟨rfl, hb1⟩; have h1 := (hb1.block _ (lt_of_block h0)).trans h0; have hbw1 := hb0.trans (hb1.mono hb0.size); clear _t cf1 hb1 h0 hb0)
        | (go_at_call 65; refine (cf2 _).mono ?_; rintro e w2 ⟨rfl, hb2⟩; have h2 := (hb2.block _ (lt_of_block h1)).trans h1; have hbw2 := hbw1.trans (hb2.mono hbw1.size); clear hb2 h1 hbw1)
        | (go_at_call 67; refine (cT _ (HT0.out.below hbw2)).mono ?_; rintro e w9 ⟨rfl, hb9⟩; have h9 := (hb9.block _ (lt_of_block h2)).trans h2; have hbw9 := hbw2.trans (hb9.mono hbw2.size); clear hb9 h2 hbw2)
        | (refine wpList_store_row rfl 101 _ _ rfl _ _ rfl rfl _ _ h9 (by kernel_rfl) (by simp) (by simp [Value.oneCell']) ?_))
      exact tok_post (by rw [Tryz.results50, Tryz.results69]) w.heap.size t rfl rfl rfl rfl (setRow_heap _ _ _ _ _ _ h9) ⟨by rw [HT.out, HS.out], below_setRow hbw9 (Nat.le_refl _) _⟩
    | false =>
      rw [f2] at cf2
      cases f3 : isD c with
      | true =>
        rw [f3] at cD
        have HT : Hid (firstT l = numT l) := by
          show firstT l = _
          rw [hF, f1, f2, f3]; rfl
        obtain ⟨t, cT, HS⟩ : ∃ t : T1, (∀ w, CTab w → Calls Tryz.prog 69 #[.string s] w fun e w' => e = .returned (.tuple #[.agg #[.int .i64 t.kind, .int .i64 t.n, .int .i64 0, .string ⟨t.text.toArray⟩], .int .i64 (t.len : Int), .int .i64 t.err]) ∧ Below w.heap.size w w') ∧ Hid (numT l = t) := ⟨numT l, fun w _hT => number_any s l hs hl w, rfl⟩
        clear hF
        go_enter Tryz.func50, Tryz.ntmps50
        go_wp2_with (first
          | (go_at_call 65; have _t := cf1; refine (cf1 _).mono ?_; rintro e w1 ⟨rfl, hb1⟩; have h1 := (hb1.block _ (lt_of_block h0)).trans h0; have hbw1 := hb0.trans (hb1.mono hb0.size); clear _t cf1 hb1 h0 hb0)
          | (go_at_call 65; refine (cf2 _).mono ?_; rintro e w2 ⟨rfl, hb2⟩; have h2 := (hb2.block _ (lt_of_block h1)).trans h1; have hbw2 := hbw1.trans (hb2.mono hbw1.size); clear hb2 h1 hbw1)
          | (go_at_call 68; refine (cD _).mono ?_; rintro e w' ⟨rfl, rfl⟩)
          | (go_at_call 69; refine (cT _ (HT0.out.below hbw2)).mono ?_; rintro e w9 ⟨rfl, hb9⟩; have h9 := (hb9.block _ (lt_of_block h2)).trans h2; have hbw9 := hbw2.trans (hb9.mono hbw2.size); clear hb9 h2 hbw2)
          | (refine wpList_store_row rfl 101 _ _ rfl _ _ rfl rfl _ _ h9 (by kernel_rfl) (by simp) (by simp [Value.oneCell']) ?_))
        exact tok_post (by rw [Tryz.results50, Tryz.results69]) w.heap.size t rfl rfl rfl rfl (setRow_heap _ _ _ _ _ _ h9) ⟨by rw [HT.out, HS.out], below_setRow hbw9 (Nat.le_refl _) _⟩
      | false =>
        rw [f3] at cD
        cases f4 : isL c with
        | true =>
          rw [f4] at cL
          have HT : Hid (firstT l = wordT l) := by
            show firstT l = _
            rw [hF, f1, f2, f3, f4]; rfl
          obtain ⟨t, cT, HS⟩ : ∃ t : T1, (∀ w, CTab w → Calls Tryz.prog 71 #[.string s] w fun e w' => e = .returned (.tuple #[.agg #[.int .i64 t.kind, .int .i64 t.n, .int .i64 0, .string ⟨t.text.toArray⟩], .int .i64 (t.len : Int), .int .i64 t.err]) ∧ Below w.heap.size w w') ∧ Hid (wordT l = t) := ⟨wordT l, fun w _hT => word_any s l hs hl w, rfl⟩
          clear hF
          go_enter Tryz.func50, Tryz.ntmps50
          go_wp2_with (first
            | (go_at_call 65; have _t := cf1; refine (cf1 _).mono ?_; rintro e w1 ⟨rfl, hb1⟩; have h1 := (hb1.block _ (lt_of_block h0)).trans h0; have hbw1 := hb0.trans (hb1.mono hb0.size); clear _t cf1 hb1 h0 hb0)
            | (go_at_call 65; refine (cf2 _).mono ?_; rintro e w2 ⟨rfl, hb2⟩; have h2 := (hb2.block _ (lt_of_block h1)).trans h1; have hbw2 := hbw1.trans (hb2.mono hbw1.size); clear hb2 h1 hbw1)
            | (go_at_call 68; refine (cD _).mono ?_; rintro e w' ⟨rfl, rfl⟩)
            | (go_at_call 70; refine (cL _).mono ?_; rintro e w' ⟨rfl, rfl⟩)
            | (go_at_call 71; refine (cT _ (HT0.out.below hbw2)).mono ?_; rintro e w9 ⟨rfl, hb9⟩; have h9 := (hb9.block _ (lt_of_block h2)).trans h2; have hbw9 := hbw2.trans (hb9.mono hbw2.size); clear hb9 h2 hbw2)
            | (refine wpList_store_row rfl 101 _ _ rfl _ _ rfl rfl _ _ h9 (by kernel_rfl) (by simp) (by simp [Value.oneCell']) ?_))
          exact tok_post (by rw [Tryz.results50, Tryz.results69]) w.heap.size t rfl rfl rfl rfl (setRow_heap _ _ _ _ _ _ h9) ⟨by rw [HT.out, HS.out], below_setRow hbw9 (Nat.le_refl _) _⟩
        | false =>
          rw [f4] at cL
          have HT : Hid (firstT l = signT l) := by
            show firstT l = _
            rw [hF, f1, f2, f3, f4]; rfl
          obtain ⟨t, cT, HS⟩ : ∃ t : T1, (∀ w, CTab w → Calls Tryz.prog 72 #[.string s] w fun e w' => e = .returned (.tuple #[.agg #[.int .i64 t.kind, .int .i64 t.n, .int .i64 0, .string ⟨t.text.toArray⟩], .int .i64 (t.len : Int), .int .i64 t.err]) ∧ Below w.heap.size w w') ∧ Hid (signT l = t) := ⟨signT l, fun w _hT => sign_any s l hs hl0 w, rfl⟩
          clear hF
          go_enter Tryz.func50, Tryz.ntmps50
          go_wp2_with (first
            | (go_at_call 65; have _t := cf1; refine (cf1 _).mono ?_; rintro e w1 ⟨rfl, hb1⟩; have h1 := (hb1.block _ (lt_of_block h0)).trans h0; have hbw1 := hb0.trans (hb1.mono hb0.size); clear _t cf1 hb1 h0 hb0)
            | (go_at_call 65; refine (cf2 _).mono ?_; rintro e w2 ⟨rfl, hb2⟩; have h2 := (hb2.block _ (lt_of_block h1)).trans h1; have hbw2 := hbw1.trans (hb2.mono hbw1.size); clear hb2 h1 hbw1)
            | (go_at_call 68; refine (cD _).mono ?_; rintro e w' ⟨rfl, rfl⟩)
            | (go_at_call 70; refine (cL _).mono ?_; rintro e w' ⟨rfl, rfl⟩)
            | (go_at_call 72; refine (cT _ (HT0.out.below hbw2)).mono ?_; rintro e w9 ⟨rfl, hb9⟩; have h9 := (hb9.block _ (lt_of_block h2)).trans h2; have hbw9 := hbw2.trans (hb9.mono hbw2.size); clear hb9 h2 hbw2)
            | (refine wpList_store_row rfl 101 _ _ rfl _ _ rfl rfl _ _ h9 (by kernel_rfl) (by simp) (by simp [Value.oneCell']) ?_))
          exact tok_post (by rw [Tryz.results50, Tryz.results69]) w.heap.size t rfl rfl rfl rfl (setRow_heap _ _ _ _ _ _ h9) ⟨by rw [HT.out, HS.out], below_setRow hbw9 (Nat.le_refl _) _⟩
end Go.Proofs.YtgfjbcdjpkcbkaaGreatDoor

/- The tokens of a text, one behind the other: plain facts. -/
namespace Go.Proofs.YtgfjbcdjpkcbkaaGreatDoor
open Go.RowKit Lx
theorem run_pos {p : UInt8 → Bool} : ∀ {l : List UInt8}, 0 < l.length → p (l.getD 0 0) = true → 1 ≤ runOf p l
  | [], h, _ => by simp at h
  | c :: l, _, h => by
    have hc : p c = true := by simpa using h
    simp [runOf, hc]
theorem wordLen_pos : ∀ {l : List UInt8}, 0 < l.length → isL (l.getD 0 0) = true → 1 ≤ wordLen l
  | [], h, _ => by simp at h
  | c :: l, _, h => by
    have hc : isL c = true := by simpa using h
    simp [wordLen, hc]
structure Fine (l : List UInt8) (t : T1) : Prop where
  pos : 1 ≤ t.len
  le : t.len ≤ l.length
  text : t.text = l.take t.text.length
  tle : t.text.length ≤ t.len
theorem first_fine (l : List UInt8) (h0 : 0 < l.length) (he : (firstT l).err = 0) : Fine l (firstT l) := by
  unfold firstT at he ⊢
  split at he
  · rename_i hf
    rw [if_pos hf]
    have hlen := (fitsL_at hf).1
    have h10 : 10 ≤ l.length := hlen
    unfold dateT at he ⊢
    split at he
    · rename_i h
      rw [if_pos h]
      exact ⟨by simp, h10, by simp, by simp⟩
    · simp [bad] at he
  · rename_i hf
    rw [if_neg hf]
    split at he
    · rename_i hf2
      rw [if_pos hf2]
      have hlen := (fitsL_at hf2).1
      have h5 : 5 ≤ l.length := hlen
      unfold timeT at he ⊢
      split at he
      · simp [bad] at he
      · rename_i h
        rw [if_neg h]
        exact ⟨by simp, h5, by simp, by simp⟩
    · rename_i hf2
      rw [if_neg hf2]
      split at he
      · rename_i hd
        rw [if_pos hd]
        unfold numT at he ⊢
        split at he
        · simp [bad] at he
        · rename_i h
          rw [if_neg h]
          exact ⟨run_pos h0 hd, runOf_le _ l, by simp, by simp⟩
      · rename_i hd
        rw [if_neg hd]
        split at he
        · rename_i hL
          rw [if_pos hL]
          have hwl := wordLen_le l
          unfold wordT at he ⊢
          split at he
          · simp [bad] at he
          · rename_i h
            rw [if_neg h]
            exact ⟨wordLen_pos h0 hL, hwl, by simp [Nat.min_eq_left hwl], by simp; omega⟩
        · rename_i hL
          rw [if_neg hL]
          unfold signT at he ⊢
          split at he
          · rename_i hp
            rw [if_pos hp]
            have hp' : [46, 46] <+: l := by
              unfold Lib.hasPrefix at hp
              exact List.isPrefixOf_iff_prefix.1 hp
            obtain ⟨r, rfl⟩ := hp'
            exact ⟨by simp, by simp, by simp, by simp⟩
          · rename_i hp
            rw [if_neg hp]
            split at he
            · simp [bad] at he
            · rename_i h
              rw [if_neg h]
              match l, h0 with
              | c :: r, _ => exact ⟨by simp, by simp, by simp, by simp⟩
def iterN (l : List UInt8) : Nat → Option (List (T1 × Nat) × Nat)
  | 0 => some ([], 0 + skipS false (l.drop 0))
  | n + 1 => match iterN l n with
    | none => none
    | some (ts, k) => if k < l.length ∧ (firstT (l.drop k)).err = 0 then some (ts ++ [(firstT (l.drop k), k)], k + (firstT (l.drop k)).len + skipS false (l.drop (k + (firstT (l.drop k)).len))) else none
def Lexed (l : List UInt8) (ts : List (T1 × Nat)) (k : Nat) : Prop := ∃ n, iterN l n = some (ts, k)
theorem Lexed.start {l : List UInt8} : Lexed l [] (0 + skipS false (l.drop 0)) := ⟨0, rfl⟩
theorem Lexed.step {l : List UInt8} {ts : List (T1 × Nat)} {k : Nat} (h : Lexed l ts k) (hk : k < l.length) (he : (firstT (l.drop k)).err = 0) : Lexed l (ts ++ [(firstT (l.drop k), k)]) (k + (firstT (l.drop k)).len + skipS false (l.drop (k + (firstT (l.drop k)).len))) := by
  obtain ⟨n, hn⟩ := h
  exact ⟨n + 1, by simp only [iterN, hn]; rw [if_pos ⟨hk, he⟩]⟩
theorem Lexed.ind {l : List UInt8} {M : List (T1 × Nat) → Nat → Prop} (h0 : M [] (0 + skipS false (l.drop 0)))
    (hs : ∀ (ts : List (T1 × Nat)) (k : Nat), Lexed l ts k → k < l.length → (firstT (l.drop k)).err = 0 → M ts k → M (ts ++ [(firstT (l.drop k), k)]) (k + (firstT (l.drop k)).len + skipS false (l.drop (k + (firstT (l.drop k)).len)))) :
    ∀ (n : Nat) {ts : List (T1 × Nat)} {k : Nat}, iterN l n = some (ts, k) → M ts k
  | 0, ts, k, hn => by
    simp only [iterN] at hn
    obtain ⟨rfl, rfl⟩ := Prod.mk.inj (Option.some.inj hn)
    exact h0
  | n + 1, ts, k, hn => by
    simp only [iterN] at hn
    split at hn
    · cases hn
    · rename_i ts' k' hn'
      split at hn
      · rename_i hc
        obtain ⟨rfl, rfl⟩ := Prod.mk.inj (Option.some.inj hn)
        exact hs ts' k' ⟨n, hn'⟩ hc.1 hc.2 (Lexed.ind h0 hs n hn')
      · cases hn
theorem drop_pos {l : List UInt8} {k : Nat} (h : k < l.length) : 0 < (l.drop k).length := by simp; omega
theorem Lexed.le {l : List UInt8} {ts : List (T1 × Nat)} {k : Nat} (h : Lexed l ts k) : k ≤ l.length ∧ ts.length ≤ k := by
  obtain ⟨n, hn⟩ := h
  refine Lexed.ind (M := fun ts k => k ≤ l.length ∧ ts.length ≤ k) ?_ ?_ n hn
  · have := skipS_le false (l.drop 0)
    simp at this ⊢
    omega
  · intro ts k _ hk he ih
    have f := first_fine _ (drop_pos hk) he
    have := skipS_le false (l.drop (k + (firstT (l.drop k)).len))
    have h1 := f.pos
    have h2 := f.le
    simp at this h2 ⊢
    omega
end Go.Proofs.YtgfjbcdjpkcbkaaGreatDoor

/- What lex.remarkLength and lex.skip come to. -/
namespace Go.Proofs.YtgfjbcdjpkcbkaaGreatDoor
open Go.RowKit Lx
set_option maxHeartbeats 400000 in
theorem remark_any (s : ByteArray) (l : List UInt8) (hs : s.data.toList = l) (w : World) :
    Calls Tryz.prog 64 #[.string s] w fun e w' => e = .returned (.int .i64 (remL l : Int)) ∧ w' = w := by
  have hz : s.size = l.length := by rw [← hs, Lib.size_eq]
  have ci := fun w => index_any s 10 w
  have e10 : (10 : Int).toNat.toUInt8 = 10 := by decide
  rw [hs, e10, index_rem] at ci
  have hle : remL l ≤ l.length := runOf_le _ l
  by_cases h : remL l < l.length
  · rw [if_pos h] at ci
    have h0 : (0 : Int) ≤ (remL l : Int) := by omega
    go_enter Tryz.func64, Tryz.ntmps64
    go_wp2_with (go_at_call 83; refine (ci _).mono ?_; rintro e w' ⟨rfl, rfl⟩)
    go_ret
    exact ⟨rfl, rfl⟩
  · rw [if_neg h] at ci
    have e : remL l = l.length := by omega
    rw [e]
    go_enter Tryz.func64, Tryz.ntmps64
    go_wp2_with (go_at_call 83; refine (ci _).mono ?_; rintro e w' ⟨rfl, rfl⟩)
    go_ret
    exact ⟨rfl, rfl⟩
set_option maxRecDepth 10000 in
set_option maxHeartbeats 400000 in
theorem skip_any (s : ByteArray) (l : List UInt8) (hs : s.data.toList = l) (hl : l.length ≤ 9223372036854775806) (at0 r : Nat) (hat : at0 ≤ l.length) (hr : at0 + skipS false (l.drop at0) = r) (w : World) :
    Calls Tryz.prog 49 #[.string s, .int .i64 (at0 : Int)] w fun e w' => e = .returned (.int .i64 (r : Int)) ∧ w' = w := by
  have hz : s.size = l.length := by rw [← hs, Lib.size_eq]
  have HR : Hid (at0 + skipS false (l.drop at0) = r) := hr
  clear hr
  go_enter Tryz.func49, Tryz.ntmps49
  go_wp2
  go_loop [1] (fun i => ∃ k : Nat, k ≤ l.length ∧ i = .int .i64 k ∧ r = k + skipS false (l.drop k)) (fun i => l.length - (intOf i).toNat)
  case atStart => exact ⟨at0, hat, rfl, HR.out.symm⟩
  case round =>
    obtain ⟨k, hk, rfl, hinv⟩ := hrel
    have HI : Hid (r = k + skipS false (l.drop k)) := hinv
    clear hinv
    by_cases hlt : k < l.length
    · have hlt' : (k : Int) < (l.length : Int) := by omega
      have hk0 : (0 : Int) ≤ (k : Int) := by omega
      have g1 : ∀ h : k < s.size, s[k] = l.getD k 0 := fun h => byte_at hs k h
      have hd0 : (l.drop k).getD 0 0 = l.getD k 0 := by simp [List.getD_eq_getElem?_getD, List.getElem?_drop]
      have hdl : 0 < (l.drop k).length := by simp; omega
      have hdd : ∀ n, (l.drop k).drop n = l.drop (k + n) := fun n => by rw [List.drop_drop]
      have hblank := skip_blank (l.drop k) hdl
      have hhash := skip_hash (l.drop k) hdl
      have hstop := skip_stop (l.drop k)
      rw [hd0] at hblank hhash hstop
      rw [hdd] at hblank hhash
      have cr := fun w => remark_any (s.extract k s.size) (l.drop k) (by rw [Lib.extract_data, hs]; exact List.take_of_length_le (by simp; omega)) w
      have hrl : remL (l.drop k) ≤ (l.drop k).length := runOf_le _ _
      simp only [List.length_drop] at hrl
      rw [hz] at cr
      generalize hc : l.getD k 0 = c at *
      generalize remL (l.drop k) = n at *
      by_cases hb : c.toNat = 32 ∨ c.toNat = 9 ∨ c.toNat = 10
      · have hS := hblank hb
        have HB : Hid (skipS false (l.drop k) = 1 + skipS false (l.drop (k + 1))) := hS
        clear hS hblank hhash hstop cr hdd
        rcases (show c.toNat = 32 ∨ (c.toNat ≠ 32 ∧ c.toNat = 9) ∨ (c.toNat ≠ 32 ∧ c.toNat ≠ 9 ∧ c.toNat = 10) from by omega) with j1 | ⟨j0, j1⟩ | ⟨j0, j00, j1⟩
        · have i1 : ((c.toNat : Int) == 32) = true := by simp; omega
          clear hb j1
          go_wp2
          go_round
          case rel => exact ⟨k + 1, by omega, by go_num, by have := HI.out; have := HB.out; omega⟩
          case measure => simp [intOf]; omega
        · have i0 : ((c.toNat : Int) == 32) = false := by simp; omega
          have i1 : ((c.toNat : Int) == 9) = true := by simp; omega
          clear hb j1 j0
          go_wp2
          go_round
          case rel => exact ⟨k + 1, by omega, by go_num, by have := HI.out; have := HB.out; omega⟩
          case measure => simp [intOf]; omega
        · have i0 : ((c.toNat : Int) == 32) = false := by simp; omega
          have i00 : ((c.toNat : Int) == 9) = false := by simp; omega
          have i1 : ((c.toNat : Int) == 10) = true := by simp; omega
          clear hb j1 j0 j00
          go_wp2
          go_round
          case rel => exact ⟨k + 1, by omega, by go_num, by have := HI.out; have := HB.out; omega⟩
          case measure => simp [intOf]; omega
      · have i0 : ((c.toNat : Int) == 32) = false := by simp; omega
        have i00 : ((c.toNat : Int) == 9) = false := by simp; omega
        have i1 : ((c.toNat : Int) == 10) = false := by simp; omega
        by_cases h35 : c.toNat = 35
        · obtain ⟨hS, hn1⟩ := hhash h35
          have HB : Hid (skipS false (l.drop k) = n + skipS false (l.drop (k + n))) := hS
          have i2 : ((c.toNat : Int) == 35) = true := by simp; omega
          clear hS hblank hhash hstop hb h35 hdd
          go_wp2_with (go_at_call 64; refine (cr _).mono ?_; rintro e w' ⟨rfl, rfl⟩)
          go_round
          case rel => exact ⟨k + n, by omega, by go_num, by have := HI.out; have := HB.out; omega⟩
          case measure => simp [intOf]; omega
        · have HB : Hid (skipS false (l.drop k) = 0) := hstop fun _ => ⟨hb, h35⟩
          have i2 : ((c.toNat : Int) == 35) = false := by simp; omega
          clear hblank hhash hstop hb h35 cr hdd
          go_wp2
          go_ret
          exact ⟨by rw [show r = k from by have := HI.out; have := HB.out; omega]; rfl, rfl⟩
    · have hkl : k = l.length := by omega
      have HB : Hid (skipS false (l.drop k) = 0) := by
        rw [hkl, List.drop_length]
        exact rfl
      have hlt' : ¬ (k : Int) < (l.length : Int) := by omega
      clear hkl
      go_wp2
      go_ret
      exact ⟨by rw [show r = k from by have := HI.out; have := HB.out; omega]; rfl, rfl⟩
end Go.Proofs.YtgfjbcdjpkcbkaaGreatDoor
