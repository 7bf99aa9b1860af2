/- What lex.date comes to. -/
import Derived.Test.YtkineofpclneaabDoorLexK
import Derived.Test.YtkineofpclneaabDoorCNum
import Derived.Test.YtkineofpclneaabDoorListsX
namespace Go.Proofs.YtkineofpclneaabDoor
open Go.RowKit Lx

/-- What a date's number is, and what is wrong with it. -/
def numE (y m d : Int) : Int × Int := if 1 ≤ d ∧ d ≤ Cal.dim y m then (Cal.num y m d, 0) else (0, 3)
theorem num_any (y m d : Int) (w : World) (hT : CTab w) :
    Calls Tryd.prog 66 #[.agg #[.int .i64 y, .int .i64 m, .int .i64 d]] w fun e w' => e = .returned (.tuple #[.int .i64 (numE y m d).1, .int .i64 (numE y m d).2]) ∧ Below w.heap.size w w' := by
  unfold numE
  by_cases h : 1 ≤ d ∧ d ≤ Cal.dim y m
  · rw [if_pos h]; exact number_yes y m d w hT h.1 h.2
  · rw [if_neg h]; exact number_no y m d w hT (by omega)
def dateT (l : List UInt8) : T1 := if (numE (valL ((l.drop 0).take 4)) (valL ((l.drop 5).take 2)) (valL ((l.drop 8).take 2))).2 = 0 then ⟨5, (numE (valL ((l.drop 0).take 4)) (valL ((l.drop 5).take 2)) (valL ((l.drop 8).take 2))).1, [], 10, 0⟩ else bad 3
theorem numE_err (y m d : Int) : (numE y m d).2 = 0 ∨ (numE y m d).2 = 3 := by
  unfold numE; split <;> simp
/-- So many values, one by one. -/
structure Fr27 (l : List Value) where
  (u0 u1 u2 u3 u4 u5 u6 u7 u8 u9 u10 u11 u12 u13 u14 u15 u16 u17 u18 u19 u20 u21 u22 u23 u24 u25 u26 : Value)
  eq : l = [u0, u1, u2, u3, u4, u5, u6, u7, u8, u9, u10, u11, u12, u13, u14, u15, u16, u17, u18, u19, u20, u21, u22, u23, u24, u25, u26]
set_option maxRecDepth 100000 in
theorem fr27 (l : List Value) (hl : l.length = 27) : Nonempty (Fr27 l) := allL 27 (fun l => Nonempty (Fr27 l)) (fun u0 u1 u2 u3 u4 u5 u6 u7 u8 u9 u10 u11 u12 u13 u14 u15 u16 u17 u18 u19 u20 u21 u22 u23 u24 u25 u26 => ⟨⟨u0, u1, u2, u3, u4, u5, u6, u7, u8, u9, u10, u11, u12, u13, u14, u15, u16, u17, u18, u19, u20, u21, u22, u23, u24, u25, u26, rfl⟩⟩) l hl
def dsp (s : ByteArray) (y m d nv ev : Int) (i : Nat) (v : Value) : Prop := match i with
  | 0 => v = .string s
  | 1 => v = .string (s.extract 0 4)
  | 2 => v = .int .i64 y
  | 3 => v = .string s
  | 4 => v = .string (s.extract 5 7)
  | 5 => v = .int .i64 m
  | 6 => v = .string s
  | 7 => v = .string (s.extract 8 10)
  | 8 => v = .int .i64 d
  | 9 => v = .agg #[.int .i64 y, .int .i64 m, .int .i64 d]
  | 10 => v = .tuple #[.int .i64 nv, .int .i64 ev]
  | 11 => v = .tuple #[.int .i64 nv, .int .i64 ev]
  | 12 => v = .int .i64 nv
  | 13 => v = .int .i64 ev
  | 14 => v = .int .i64 nv
  | 15 => v = .int .i64 ev
  | _ => True

set_option maxRecDepth 10000 in
set_option maxHeartbeats 1000000 in
theorem date_any (s : ByteArray) (l : List UInt8) (hs : s.data.toList = l) (hf : fitsL l dateF = true) (w : World) (hT : CTab w) :
    Calls Tryd.prog 53 #[.string s] w fun e w' => e = .returned (tokv (dateT l)) ∧ Below w.heap.size w w' := by
  have hz : s.size = l.length := by rw [← hs, Lib.size_eq]
  obtain ⟨hlen, _⟩ := fitsL_at hf
  have hlen10 : 10 ≤ l.length := hlen
  have hi4 : (4 : Int) ≤ (l.length : Int) := by omega
  have hi7 : (7 : Int) ≤ (l.length : Int) := by omega
  have hi10 : (10 : Int) ≤ (l.length : Int) := by omega
  obtain ⟨n1, d1⟩ := dig_part hf 0 4 (by decide) (by decide)
  obtain ⟨n2, d2⟩ := dig_part hf 5 2 (by decide) (by decide)
  obtain ⟨n3, d3⟩ := dig_part hf 8 2 (by decide) (by decide)
  have cy := fun w => value_any (s.extract 0 4) ((l.drop 0).take 4) (by rw [Lib.extract_data, hs]) (by omega) d1 w
  have cm := fun w => value_any (s.extract 5 7) ((l.drop 5).take 2) (by rw [Lib.extract_data, hs]) (by omega) d2 w
  have cd := fun w => value_any (s.extract 8 10) ((l.drop 8).take 2) (by rw [Lib.extract_data, hs]) (by omega) d3 w
  have hD : dateT l = if (numE (valL ((l.drop 0).take 4)) (valL ((l.drop 5).take 2)) (valL ((l.drop 8).take 2))).2 = 0 then ⟨5, (numE (valL ((l.drop 0).take 4)) (valL ((l.drop 5).take 2)) (valL ((l.drop 8).take 2))).1, [], 10, 0⟩ else bad 3 := rfl
  generalize valL ((l.drop 0).take 4) = y at *
  generalize valL ((l.drop 5).take 2) = m at *
  generalize valL ((l.drop 8).take 2) = d at *
  have cN := fun w hT => num_any y m d w hT
  have hE := numE_err y m d
  generalize (numE y m d).1 = nv at *
  generalize (numE y m d).2 = ev at *
  have HD : Hid (dateT l = if ev = 0 then ⟨5, nv, [], 10, 0⟩ else bad 3) := hD
  clear hD n1 n2 n3 d1 d2 d3 hlen hf
  have hb0 : Below w.heap.size w (w.alloc (.cells #[.int .i64 0, .int .i64 0, .int .i64 0, .string ⟨#[]⟩] 54)) := (Below.refl _ _).alloc (Nat.le_refl _) _
  have h0 : (w.alloc (.cells #[.int .i64 0, .int .i64 0, .int .i64 0, .string ⟨#[]⟩] 54)).heap[w.heap.size]? = some (.cells #[.int .i64 0, .int .i64 0, .int .i64 0, .string ⟨#[]⟩] 54 (0, 0)) := heap_alloc_new w _
  have hT0 := hT.below hb0
  clear hT
  have hT := hT0
  clear hT0
  go_enter Tryd.func53, Tryd.ntmps53
  go_wp2
  generalize w.alloc (.cells #[.int .i64 0, .int .i64 0, .int .i64 0, .string ⟨#[]⟩] 54) = w0 at *
  refine wp_region_flow (by kernel_rfl) (by kernel_rfl) (by kernel_rfl) (by kernel_rfl) (fun _ _ W => Below w0.heap.size w0 W) (fun i v _ => dsp s y m d nv ev i v) ?_ ?_ ?_
  · intro L hL
    exact (Below.refl _ _).drew
  · intro i o L A W ho hLi hdep hJ hdef hkept hhas
    clear hdef hLi
    have fin : ∀ (v : Value) (ds : Nat) (W' : World), Below W.heap.size W W' → dsp s y m d nv ev i v → ∃ u, A.put (some ds) v = A.put (some ds) u ∧ (some ds ≠ none → dsp s y m d nv ev i u) ∧ (∀ j x', L j = true → dsp s y m d nv ev j x' → dsp s y m d nv ev j x') ∧ Below w0.heap.size w0 W' := by
      intro v ds W' hb hv
      exact ⟨v, rfl, fun _ => hv, fun _ _ _ h => h, hJ.trans (hb.mono hJ.size)⟩
    match i, ho with
    | 0, ho =>
      cases Option.some.inj ho
      have h0 : A.tmps[0]?.getD undef = .string s := (gd A 0).trans (hkept 0 (fun j p hp _ => nd (by kernel_rfl) j p hp))
      refine wpOp_step rfl (fun K hK => ?_)
      go_simp
      exact hK _ _ (fin _ 8 _ (Below.refl _ _) rfl)
    | 1, ho =>
      cases Option.some.inj ho
      have h8 : A.tmps[8]?.getD undef = .string s := (gd A 8).trans (show A.tmps.getD 8 undef = .string s from hhas 0 _ rfl (hdep ⟨0, .data⟩ (by simp) rfl) 8 rfl)
      refine wpOp_step rfl (fun K hK => ?_)
      go_simp
      exact hK _ _ (fin _ 9 _ (Below.refl _ _) rfl)
    | 2, ho =>
      cases Option.some.inj ho
      have h9 : A.tmps[9]?.getD undef = .string (s.extract 0 4) := (gd A 9).trans (show A.tmps.getD 9 undef = .string (s.extract 0 4) from hhas 1 _ rfl (hdep ⟨1, .data⟩ (by simp) rfl) 9 rfl)
      refine wpOp_step rfl (fun K hK => ?_)
      go_simp
      refine (cy _).mono ?_
      rintro e W' ⟨rfl, rfl⟩
      exact hK _ _ (fin _ 10 _ (Below.refl _ _) rfl)
    | 3, ho =>
      cases Option.some.inj ho
      have h0 : A.tmps[0]?.getD undef = .string s := (gd A 0).trans (hkept 0 (fun j p hp _ => nd (by kernel_rfl) j p hp))
      refine wpOp_step rfl (fun K hK => ?_)
      go_simp
      exact hK _ _ (fin _ 11 _ (Below.refl _ _) rfl)
    | 4, ho =>
      cases Option.some.inj ho
      have h11 : A.tmps[11]?.getD undef = .string s := (gd A 11).trans (show A.tmps.getD 11 undef = .string s from hhas 3 _ rfl (hdep ⟨3, .data⟩ (by simp) rfl) 11 rfl)
      refine wpOp_step rfl (fun K hK => ?_)
      go_simp
      exact hK _ _ (fin _ 12 _ (Below.refl _ _) rfl)
    | 5, ho =>
      cases Option.some.inj ho
      have h12 : A.tmps[12]?.getD undef = .string (s.extract 5 7) := (gd A 12).trans (show A.tmps.getD 12 undef = .string (s.extract 5 7) from hhas 4 _ rfl (hdep ⟨4, .data⟩ (by simp) rfl) 12 rfl)
      refine wpOp_step rfl (fun K hK => ?_)
      go_simp
      refine (cm _).mono ?_
      rintro e W' ⟨rfl, rfl⟩
      exact hK _ _ (fin _ 13 _ (Below.refl _ _) rfl)
    | 6, ho =>
      cases Option.some.inj ho
      have h0 : A.tmps[0]?.getD undef = .string s := (gd A 0).trans (hkept 0 (fun j p hp _ => nd (by kernel_rfl) j p hp))
      refine wpOp_step rfl (fun K hK => ?_)
      go_simp
      exact hK _ _ (fin _ 14 _ (Below.refl _ _) rfl)
    | 7, ho =>
      cases Option.some.inj ho
      have h14 : A.tmps[14]?.getD undef = .string s := (gd A 14).trans (show A.tmps.getD 14 undef = .string s from hhas 6 _ rfl (hdep ⟨6, .data⟩ (by simp) rfl) 14 rfl)
      refine wpOp_step rfl (fun K hK => ?_)
      go_simp
      exact hK _ _ (fin _ 15 _ (Below.refl _ _) rfl)
    | 8, ho =>
      cases Option.some.inj ho
      have h15 : A.tmps[15]?.getD undef = .string (s.extract 8 10) := (gd A 15).trans (show A.tmps.getD 15 undef = .string (s.extract 8 10) from hhas 7 _ rfl (hdep ⟨7, .data⟩ (by simp) rfl) 15 rfl)
      refine wpOp_step rfl (fun K hK => ?_)
      go_simp
      refine (cd _).mono ?_
      rintro e W' ⟨rfl, rfl⟩
      exact hK _ _ (fin _ 16 _ (Below.refl _ _) rfl)
    | 9, ho =>
      cases Option.some.inj ho
      have h10 : A.tmps[10]?.getD undef = .int .i64 y := (gd A 10).trans (show A.tmps.getD 10 undef = .int .i64 y from hhas 2 _ rfl (hdep ⟨2, .data⟩ (by simp) rfl) 10 rfl)
      have h13 : A.tmps[13]?.getD undef = .int .i64 m := (gd A 13).trans (show A.tmps.getD 13 undef = .int .i64 m from hhas 5 _ rfl (hdep ⟨5, .data⟩ (by simp) rfl) 13 rfl)
      have h16 : A.tmps[16]?.getD undef = .int .i64 d := (gd A 16).trans (show A.tmps.getD 16 undef = .int .i64 d from hhas 8 _ rfl (hdep ⟨8, .data⟩ (by simp) rfl) 16 rfl)
      refine wpOp_step rfl (fun K hK => ?_)
      go_simp
      exact hK _ _ (fin _ 17 _ (Below.refl _ _) rfl)
    | 10, ho =>
      cases Option.some.inj ho
      have h17 : A.tmps[17]?.getD undef = .agg #[.int .i64 y, .int .i64 m, .int .i64 d] := (gd A 17).trans (show A.tmps.getD 17 undef = .agg #[.int .i64 y, .int .i64 m, .int .i64 d] from hhas 9 _ rfl (hdep ⟨9, .data⟩ (by simp) rfl) 17 rfl)
      refine wpOp_step rfl (fun K hK => ?_)
      go_simp
      refine (cN _ (hT.below hJ)).mono ?_
      rintro e W' ⟨rfl, hb⟩
      exact hK _ _ (fin _ 18 _ hb rfl)
    | 11, ho =>
      cases Option.some.inj ho
      have h18 : A.tmps[18]?.getD undef = .tuple #[.int .i64 nv, .int .i64 ev] := (gd A 18).trans (show A.tmps.getD 18 undef = .tuple #[.int .i64 nv, .int .i64 ev] from hhas 10 _ rfl (hdep ⟨10, .data⟩ (by simp) rfl) 18 rfl)
      refine wpOp_step rfl (fun K hK => ?_)
      go_simp
      exact hK _ _ (fin _ 7 _ (Below.refl _ _) rfl)
    | 12, ho =>
      cases Option.some.inj ho
      have h7 : A.tmps[7]?.getD undef = .tuple #[.int .i64 nv, .int .i64 ev] := (gd A 7).trans (show A.tmps.getD 7 undef = .tuple #[.int .i64 nv, .int .i64 ev] from hhas 11 _ rfl (hdep ⟨11, .data⟩ (by simp) rfl) 7 rfl)
      refine wpOp_step rfl (fun K hK => ?_)
      go_simp
      exact hK _ _ (fin _ 19 _ (Below.refl _ _) rfl)
    | 13, ho =>
      cases Option.some.inj ho
      have h7 : A.tmps[7]?.getD undef = .tuple #[.int .i64 nv, .int .i64 ev] := (gd A 7).trans (show A.tmps.getD 7 undef = .tuple #[.int .i64 nv, .int .i64 ev] from hhas 11 _ rfl (hdep ⟨11, .data⟩ (by simp) rfl) 7 rfl)
      refine wpOp_step rfl (fun K hK => ?_)
      go_simp
      exact hK _ _ (fin _ 20 _ (Below.refl _ _) rfl)
    | 14, ho =>
      cases Option.some.inj ho
      have h19 : A.tmps[19]?.getD undef = .int .i64 nv := (gd A 19).trans (show A.tmps.getD 19 undef = .int .i64 nv from hhas 12 _ rfl (hdep ⟨12, .data⟩ (by simp) rfl) 19 rfl)
      refine wpOp_step rfl (fun K hK => ?_)
      go_simp
      exact hK _ _ (fin _ 5 _ (Below.refl _ _) rfl)
    | 15, ho =>
      cases Option.some.inj ho
      have h20 : A.tmps[20]?.getD undef = .int .i64 ev := (gd A 20).trans (show A.tmps.getD 20 undef = .int .i64 ev from hhas 13 _ rfl (hdep ⟨13, .data⟩ (by simp) rfl) 20 rfl)
      refine wpOp_step rfl (fun K hK => ?_)
      go_simp
      exact hK _ _ (fin _ 6 _ (Below.refl _ _) rfl)
    | k + 16, ho => simp at ho
  · intro L A W hL hJ hdef hsize hkept hhas
    obtain ⟨t, dd⟩ := A
    have hd : dd = [] := hdef
    subst hd
    clear hdef
    obtain ⟨q, rfl⟩ : ∃ q : List Value, t = q.toArray := ⟨t.toList, by simp⟩
    have hl : q.length = 27 := by
      have h : q.toArray.size = 27 := hsize
      simpa using h
    obtain ⟨⟨u0, u1, u2, u3, u4, u5, u6, u7, u8, u9, u10, u11, u12, u13, u14, u15, u16, u17, u18, u19, u20, u21, u22, u23, u24, u25, u26, rfl⟩⟩ := fr27 q hl
    have e2 : u2 = .pointer (some ⟨w.heap.size, 0, none⟩) := hkept 2 (nd (by kernel_rfl))
    have e3 : u3 = .int .i64 0 := hkept 3 (nd (by kernel_rfl))
    have e4 : u4 = .int .i64 0 := hkept 4 (nd (by kernel_rfl))
    have e5 : u5 = .int .i64 nv := hhas 14 _ rfl 5 rfl
    have e6 : u6 = .int .i64 ev := hhas 15 _ rfl 6 rfl
    subst e2 e3 e4 e5 e6
    have h1 := (hJ.block _ (lt_of_block h0)).trans h0
    have hb1 := hb0.trans (hJ.mono hb0.size)
    clear hsize hkept hhas hL hJ hl h0 hb0 cy cm cd cN
    rcases hE with hE | hE
    · have HT : Hid (dateT l = ⟨5, nv, [], 10, 0⟩) := by
        show dateT l = _
        rw [HD.out, if_pos hE]
      subst hE
      go_wp2_with (refine wpList_store_row rfl 54 _ _ rfl _ _ rfl rfl _ _ h1 (by kernel_rfl) (by simp) (by simp [Value.oneCell']) ?_)
      exact tok_post (by rw [Tryd.results53, Tryd.results56]) w.heap.size ⟨5, nv, [], 10, 0⟩ rfl rfl rfl rfl (setRow_heap _ _ _ _ _ _ h1) ⟨by rw [HT.out], below_setRow hb1 (Nat.le_refl _) _⟩
    · have HT : Hid (dateT l = bad 3) := by
        show dateT l = _
        rw [HD.out, if_neg (by omega)]
      subst hE
      go_wp2_with (refine wpList_store_row rfl 54 _ _ rfl _ _ rfl rfl _ _ h1 (by kernel_rfl) (by simp) (by simp [Value.oneCell']) ?_)
      exact tok_post (by rw [Tryd.results53, Tryd.results56]) w.heap.size (bad 3) rfl rfl rfl rfl (setRow_heap _ _ _ _ _ _ h1) ⟨by rw [HT.out], below_setRow hb1 (Nat.le_refl _) _⟩
end Go.Proofs.YtkineofpclneaabDoor
