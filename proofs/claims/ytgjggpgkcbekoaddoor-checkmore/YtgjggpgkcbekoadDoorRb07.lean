/- What strings.HasPrefix comes to. -/
import Derived.Test.YtgjggpgkcbekoadDoorRb04
import Derived.Lib.Bytealg
import Derived.Lib.Walk
import Derived.Test.YtgjggpgkcbekoadDoorRb06
namespace Go.Proofs.YtgjggpgkcbekoadDoor
open Go.RowKit Lx

set_option maxHeartbeats 400000 in
theorem prefix_any (s p : ByteArray) (w : World) :
    Calls Tryd.prog 61 #[.string s, .string p] w fun e w' => e = .returned (.bool (Lib.hasPrefix s.data.toList p.data.toList)) ∧ w' = w := by
  rw [← Lib.hasPrefix_of_take, ← Lib.size_eq, ← Lib.size_eq]
  go_enter Tryd.func61, Tryd.ntmps61
  go_wp2
  · rename_i h
    go_ret
    refine ⟨?_, rfl⟩
    show Ending.returned (Value.bool ((s.extract 0 p.size).toList == p.toList)) = _
    rw [Lib.extract_toList, Lib.toList_data]
    simp [h]
  · rename_i h
    go_ret
    refine ⟨?_, rfl⟩
    show Ending.returned (Value.bool false) = _
    simp [h]
end Go.Proofs.YtgjggpgkcbekoadDoor

/- What lex.sign comes to. -/
namespace Go.Proofs.YtgjggpgkcbekoadDoor
open Go.RowKit Lx

set_option maxRecDepth 10000 in
set_option maxHeartbeats 400000 in
theorem sign_any (s : ByteArray) (l : List UInt8) (hs : s.data.toList = l) (hl : 0 < l.length) (w : World) :
    Calls Tryd.prog 50 #[.string s] w fun e w' => e = .returned (tokv (signT l)) ∧ Below w.heap.size w w' := by
  have hz : s.size = l.length := by rw [← hs, Lib.size_eq]
  have cp := fun w => prefix_any s ⟨#[46, 46]⟩ w
  rw [hs] at cp
  have hb0 : Below w.heap.size w (w.alloc (.cells #[.int .i64 0, .int .i64 0, .int .i64 0, .string ⟨#[]⟩] 74)) := (Below.refl _ _).alloc (Nat.le_refl _) _
  cases hp : Lib.hasPrefix l [46, 46] with
  | true =>
    have HT : Hid (signT l = ⟨3, 0, [46, 46], 2, 0⟩) := by
      show signT l = _
      unfold signT; rw [hp]; rfl
    rw [show (⟨#[46, 46]⟩ : ByteArray).data.toList = [46, 46] from rfl, hp] at cp
    have hbx : Below w.heap.size w (w.alloc (.cells #[.int .i64 3, .int .i64 0, .int .i64 0, .string ⟨#[46, 46]⟩] 74)) := (Below.refl _ _).alloc (Nat.le_refl _) _
    clear hp
    go_enter Tryd.func50, Tryd.ntmps50
    go_wp2_with (go_at_call 61; refine (cp _).mono ?_; rintro e w' ⟨rfl, rfl⟩)
    exact tok_post (by rw [Tryd.results50, Tryd.results48]) w.heap.size ⟨3, 0, [46, 46], 2, 0⟩ rfl rfl rfl rfl (heap_alloc_new w _) ⟨by rw [HT.out], hbx⟩
  | false =>
    rw [show (⟨#[46, 46]⟩ : ByteArray).data.toList = [46, 46] from rfl, hp] at cp
    have g1 : ∀ h : 0 < s.size, s[0] = l.getD 0 0 := fun h => byte_at hs 0 h
    have hl' : (0 : Int) < (l.length : Int) := by omega
    have ci := fun w => index_any ⟨#[61, 59, 58, 43, 45, 38, 40, 41, 44]⟩ ((l.getD 0 0).toNat : Int) w
    have eu : (((l.getD 0 0).toNat : Int)).toNat.toUInt8 = l.getD 0 0 := by simp
    rw [eu, show (⟨#[61, 59, 58, 43, 45, 38, 40, 41, 44]⟩ : ByteArray).data.toList = signsL from rfl] at ci
    have hlt := index_lt signsL (l.getD 0 0)
    have hlt9 : Lib.indexByte signsL (l.getD 0 0) < 9 := hlt
    have hge := Lib.indexByte_ge signsL (l.getD 0 0)
    have hat := index_at signsL (l.getD 0 0)
    have hT : signT l = if Go.Lib.indexByte signsL (l.getD 0 0) < 0 then bad 2 else ⟨3, 0, [l.getD 0 0], 1, 0⟩ := by
      unfold signT; rw [hp]; rfl
    generalize hc : l.getD 0 0 = c at *
    generalize Lib.indexByte signsL c = i at *
    clear hp hlt eu
    by_cases hi : i < 0
    · have HT : Hid (signT l = bad 2) := by
        show signT l = _
        rw [hT, if_pos hi]
      clear hT hat
      go_enter Tryd.func50, Tryd.ntmps50
      go_wp2_with (first
        | (go_at_call 61; refine (cp _).mono ?_; rintro e w' ⟨rfl, rfl⟩)
        | (go_at_call 57; refine (ci _).mono ?_; rintro e w' ⟨rfl, rfl⟩))
      exact tok_post (by rw [Tryd.results50, Tryd.results48]) w.heap.size (bad 2) rfl rfl rfl rfl (heap_alloc_new w _) ⟨by rw [HT.out], hb0⟩
    · have HT : Hid (signT l = ⟨3, 0, [c], 1, 0⟩) := by
        show signT l = _
        rw [hT, if_neg hi]
      obtain ⟨j, rfl⟩ : ∃ j : Nat, i = j := ⟨i.toNat, by omega⟩
      have hj := hat j rfl
      have hj9 : j < 9 := by omega
      have ex : (⟨#[61, 59, 58, 43, 45, 38, 40, 41, 44]⟩ : ByteArray).extract j (j + 1) = ⟨#[c]⟩ := by
        apply ba_of (l := [c])
        rw [Lib.extract_data, show (⟨#[61, 59, 58, 43, 45, 38, 40, 41, 44]⟩ : ByteArray).data.toList = signsL from rfl, show j + 1 - j = 1 by omega]
        have hjl : j < signsL.length := hj9
        rw [List.drop_eq_getElem_cons hjl]
        have : signsL[j] = c := by
          rw [← hj]; simp [List.getD, hjl]
        simp [this]
      have i0 : ¬ (j : Int) < 0 := by omega
      have i1 : (0 : Int) ≤ (j : Int) := by omega
      have i2 : (j : Int) ≤ 9 := by omega
      have i3 : (j : Int) + 1 ≤ 9 := by omega
      have hbx : Below w.heap.size w (w.alloc (.cells #[.int .i64 3, .int .i64 0, .int .i64 0, .string ⟨#[c]⟩] 74)) := (Below.refl _ _).alloc (Nat.le_refl _) _
      clear hT hat hi hj
      go_enter Tryd.func50, Tryd.ntmps50
      go_wp2_with (first
        | (go_at_call 61; refine (cp _).mono ?_; rintro e w' ⟨rfl, rfl⟩)
        | (go_at_call 57; refine (ci _).mono ?_; rintro e w' ⟨rfl, rfl⟩))
      exact tok_post (by rw [Tryd.results50, Tryd.results48]) w.heap.size ⟨3, 0, [c], 1, 0⟩ rfl rfl rfl rfl (heap_alloc_new w _) ⟨by rw [HT.out], hbx⟩
end Go.Proofs.YtgjggpgkcbekoadDoor

/- What lex.first comes to: the token that a text begins with. -/
namespace Go.Proofs.YtgjggpgkcbekoadDoor
open Go.RowKit Lx

/-- The token that a text begins with. -/
def firstT (l : List UInt8) : T1 := if fitsL l dateF then dateT l else if fitsL l timeF then timeT l else if isD (l.getD 0 0) then numT l else if isL (l.getD 0 0) then wordT l else signT l

set_option maxRecDepth 10000 in
set_option maxHeartbeats 400000 in
theorem first_any (s : ByteArray) (l : List UInt8) (hs : s.data.toList = l) (hl : l.length ≤ 9223372036854775806) (hl0 : 0 < l.length) (w : World) (hT : CTab w) :
    Calls Tryd.prog 34 #[.string s] w fun e w' => e = .returned (tokv (firstT l)) ∧ Below w.heap.size w w' := by
  have hz : s.size = l.length := by rw [← hs, Lib.size_eq]
  have hl0' : (0 : Int) < (l.length : Int) := by omega
  have g1 : ∀ h : 0 < s.size, s[0] = l.getD 0 0 := fun h => byte_at hs 0 h
  have hb0 : Below w.heap.size w (w.alloc (.cells #[.int .i64 0, .int .i64 0, .int .i64 0, .string ⟨#[]⟩] 74)) := (Below.refl _ _).alloc (Nat.le_refl _) _
  have h0 : (w.alloc (.cells #[.int .i64 0, .int .i64 0, .int .i64 0, .string ⟨#[]⟩] 74)).heap[w.heap.size]? = some (.cells #[.int .i64 0, .int .i64 0, .int .i64 0, .string ⟨#[]⟩] 74 (0, 0)) := heap_alloc_new w _
  have HT0 : Hid (CTab w) := hT
  clear hT
  have cf1 := fun w => fits_any s ⟨#[48, 48, 48, 48, 45, 48, 48, 45, 48, 48]⟩ l dateF hs rfl (by omega) (by decide) w
  have cf2 := fun w => fits_any s ⟨#[48, 48, 58, 48, 48]⟩ l timeF hs rfl (by omega) (by decide) w
  have cD := fun w => digit_any (l.getD 0 0) w
  have cL := fun w => letter_any (l.getD 0 0) w
  have hF : firstT l = if fitsL l dateF then dateT l else if fitsL l timeF then timeT l else if isD (l.getD 0 0) then numT l else if isL (l.getD 0 0) then wordT l else signT l := rfl
  generalize hc : l.getD 0 0 = c at *
  cases f1 : fitsL l dateF with
  | true =>
    rw [f1] at cf1
    have HT : Hid (firstT l = dateT l) := by
      show firstT l = _
      rw [hF, f1]; rfl
    obtain ⟨t, cT, HS⟩ : ∃ t : T1, (∀ w, CTab w → Calls Tryd.prog 46 #[.string s] w fun e w' => e = .returned (.tuple #[.agg #[.int .i64 t.kind, .int .i64 t.n, .int .i64 0, .string ⟨t.text.toArray⟩], .int .i64 (t.len : Int), .int .i64 t.err]) ∧ Below w.heap.size w w') ∧ Hid (dateT l = t) := ⟨dateT l, fun w _hT => date_any s l hs f1 w _hT, rfl⟩
    clear hF
    go_enter Tryd.func34, Tryd.ntmps34
    go_wp2_with (first
      | (go_at_call 45; have _t := cf1; refine (cf1 _).mono ?_; rintro e w1 ⟨rfl, hb1⟩; have h1 := (hb1.block _ (lt_of_block h0)).trans h0; have hbw1 := hb0.trans (hb1.mono hb0.size); clear _t cf1 hb1 h0 hb0)
      | (go_at_call 46; refine (cT _ (HT0.out.below hbw1)).mono ?_; rintro e w9 ⟨rfl, hb9⟩; have h9 := (hb9.block _ (lt_of_block h1)).trans h1; have hbw9 := hbw1.trans (hb9.mono hbw1.size); clear hb9 h1 hbw1)
      | (refine wpList_store_row rfl 74 _ _ rfl _ _ rfl rfl _ _ h9 (by kernel_rfl) (by simp) (by simp [Value.oneCell']) ?_))
    exact tok_post (by rw [Tryd.results34, Tryd.results48]) w.heap.size t rfl rfl rfl rfl (setRow_heap _ _ _ _ _ _ h9) ⟨by rw [HT.out, HS.out], below_setRow hbw9 (Nat.le_refl _) _⟩
  | false =>
    rw [f1] at cf1
    cases f2 : fitsL l timeF with
    | true =>
      rw [f2] at cf2
      have HT : Hid (firstT l = timeT l) := by
        show firstT l = _
        rw [hF, f1, f2]; rfl
      obtain ⟨t, cT, HS⟩ : ∃ t : T1, (∀ w, CTab w → Calls Tryd.prog 47 #[.string s] w fun e w' => e = .returned (.tuple #[.agg #[.int .i64 t.kind, .int .i64 t.n, .int .i64 0, .string ⟨t.text.toArray⟩], .int .i64 (t.len : Int), .int .i64 t.err]) ∧ Below w.heap.size w w') ∧ Hid (timeT l = t) := ⟨timeT l, fun w _hT => clock_any s l hs hl f2 w, rfl⟩
      clear hF
      go_enter Tryd.func34, Tryd.ntmps34
      go_wp2_with (first
        | (go_at_call 45; have _t := cf1; refine (cf1 _).mono ?_; rintro e w1 ⟨rfl, hb1⟩; have h1 := (hb1.block _ (lt_of_block h0)).trans h0; have hbw1 := hb0.trans (hb1.mono hb0.size); clear _t cf1 hb1 h0 hb0)
        | (go_at_call 45; refine (cf2 _).mono ?_; rintro e w2 ⟨rfl, hb2⟩; have h2 := (hb2.block _ (lt_of_block h1)).trans h1; have hbw2 := hbw1.trans (hb2.mono hbw1.size); clear hb2 h1 hbw1)
        | (go_at_call 47; refine (cT _ (HT0.out.below hbw2)).mono ?_; rintro e w9 ⟨rfl, hb9⟩; have h9 := (hb9.block _ (lt_of_block h2)).trans h2; have hbw9 := hbw2.trans (hb9.mono hbw2.size); clear hb9 h2 hbw2)
        | (refine wpList_store_row rfl 74 _ _ rfl _ _ rfl rfl _ _ h9 (by kernel_rfl) (by simp) (by simp [Value.oneCell']) ?_))
      exact tok_post (by rw [Tryd.results34, Tryd.results48]) w.heap.size t rfl rfl rfl rfl (setRow_heap _ _ _ _ _ _ h9) ⟨by rw [HT.out, HS.out], below_setRow hbw9 (Nat.le_refl _) _⟩
    | false =>
      rw [f2] at cf2
      cases f3 : isD c with
      | true =>
        rw [f3] at cD
        have HT : Hid (firstT l = numT l) := by
          show firstT l = _
          rw [hF, f1, f2, f3]; rfl
        obtain ⟨t, cT, HS⟩ : ∃ t : T1, (∀ w, CTab w → Calls Tryd.prog 48 #[.string s] w fun e w' => e = .returned (.tuple #[.agg #[.int .i64 t.kind, .int .i64 t.n, .int .i64 0, .string ⟨t.text.toArray⟩], .int .i64 (t.len : Int), .int .i64 t.err]) ∧ Below w.heap.size w w') ∧ Hid (numT l = t) := ⟨numT l, fun w _hT => number_any s l hs hl w, rfl⟩
        clear hF
        go_enter Tryd.func34, Tryd.ntmps34
        go_wp2_with (first
          | (go_at_call 45; have _t := cf1; refine (cf1 _).mono ?_; rintro e w1 ⟨rfl, hb1⟩; have h1 := (hb1.block _ (lt_of_block h0)).trans h0; have hbw1 := hb0.trans (hb1.mono hb0.size); clear _t cf1 hb1 h0 hb0)
          | (go_at_call 45; refine (cf2 _).mono ?_; rintro e w2 ⟨rfl, hb2⟩; have h2 := (hb2.block _ (lt_of_block h1)).trans h1; have hbw2 := hbw1.trans (hb2.mono hbw1.size); clear hb2 h1 hbw1)
          | (go_at_call 39; refine (cD _).mono ?_; rintro e w' ⟨rfl, rfl⟩)
          | (go_at_call 48; refine (cT _ (HT0.out.below hbw2)).mono ?_; rintro e w9 ⟨rfl, hb9⟩; have h9 := (hb9.block _ (lt_of_block h2)).trans h2; have hbw9 := hbw2.trans (hb9.mono hbw2.size); clear hb9 h2 hbw2)
          | (refine wpList_store_row rfl 74 _ _ rfl _ _ rfl rfl _ _ h9 (by kernel_rfl) (by simp) (by simp [Value.oneCell']) ?_))
        exact tok_post (by rw [Tryd.results34, Tryd.results48]) w.heap.size t rfl rfl rfl rfl (setRow_heap _ _ _ _ _ _ h9) ⟨by rw [HT.out, HS.out], below_setRow hbw9 (Nat.le_refl _) _⟩
      | false =>
        rw [f3] at cD
        cases f4 : isL c with
        | true =>
          rw [f4] at cL
          have HT : Hid (firstT l = wordT l) := by
            show firstT l = _
            rw [hF, f1, f2, f3, f4]; rfl
          obtain ⟨t, cT, HS⟩ : ∃ t : T1, (∀ w, CTab w → Calls Tryd.prog 49 #[.string s] w fun e w' => e = .returned (.tuple #[.agg #[.int .i64 t.kind, .int .i64 t.n, .int .i64 0, .string ⟨t.text.toArray⟩], .int .i64 (t.len : Int), .int .i64 t.err]) ∧ Below w.heap.size w w') ∧ Hid (wordT l = t) := ⟨wordT l, fun w _hT => word_any s l hs hl w, rfl⟩
          clear hF
          go_enter Tryd.func34, Tryd.ntmps34
          go_wp2_with (first
            | (go_at_call 45; have _t := cf1; refine (cf1 _).mono ?_; rintro e w1 ⟨rfl, hb1⟩; have h1 := (hb1.block _ (lt_of_block h0)).trans h0; have hbw1 := hb0.trans (hb1.mono hb0.size); clear _t cf1 hb1 h0 hb0)
            | (go_at_call 45; refine (cf2 _).mono ?_; rintro e w2 ⟨rfl, hb2⟩; have h2 := (hb2.block _ (lt_of_block h1)).trans h1; have hbw2 := hbw1.trans (hb2.mono hbw1.size); clear hb2 h1 hbw1)
            | (go_at_call 39; refine (cD _).mono ?_; rintro e w' ⟨rfl, rfl⟩)
            | (go_at_call 38; refine (cL _).mono ?_; rintro e w' ⟨rfl, rfl⟩)
            | (go_at_call 49; refine (cT _ (HT0.out.below hbw2)).mono ?_; rintro e w9 ⟨rfl, hb9⟩; have h9 := (hb9.block _ (lt_of_block h2)).trans h2; have hbw9 := hbw2.trans (hb9.mono hbw2.size); clear hb9 h2 hbw2)
            | (refine wpList_store_row rfl 74 _ _ rfl _ _ rfl rfl _ _ h9 (by kernel_rfl) (by simp) (by simp [Value.oneCell']) ?_))
          exact tok_post (by rw [Tryd.results34, Tryd.results48]) w.heap.size t rfl rfl rfl rfl (setRow_heap _ _ _ _ _ _ h9) ⟨by rw [HT.out, HS.out], below_setRow hbw9 (Nat.le_refl _) _⟩
        | false =>
          rw [f4] at cL
          have HT : Hid (firstT l = signT l) := by
            show firstT l = _
            rw [hF, f1, f2, f3, f4]; rfl
          obtain ⟨t, cT, HS⟩ : ∃ t : T1, (∀ w, CTab w → Calls Tryd.prog 50 #[.string s] w fun e w' => e = .returned (.tuple #[.agg #[.int .i64 t.kind, .int .i64 t.n, .int .i64 0, .string ⟨t.text.toArray⟩], .int .i64 (t.len : Int), .int .i64 t.err]) ∧ Below w.heap.size w w') ∧ Hid (signT l = t) := ⟨signT l, fun w _hT => sign_any s l hs hl0 w, rfl⟩
          clear hF
          go_enter Tryd.func34, Tryd.ntmps34
          go_wp2_with (first
            | (go_at_call 45; have _t := cf1; refine (cf1 _).mono ?_; rintro e w1 ⟨rfl, hb1⟩; have h1 := (hb1.block _ (lt_of_block h0)).trans h0; have hbw1 := hb0.trans (hb1.mono hb0.size); clear _t cf1 hb1 h0 hb0)
            | (go_at_call 45; refine (cf2 _).mono ?_; rintro e w2 ⟨rfl, hb2⟩; have h2 := (hb2.block _ (lt_of_block h1)).trans h1; have hbw2 := hbw1.trans (hb2.mono hbw1.size); clear hb2 h1 hbw1)
            | (go_at_call 39; refine (cD _).mono ?_; rintro e w' ⟨rfl, rfl⟩)
            | (go_at_call 38; refine (cL _).mono ?_; rintro e w' ⟨rfl, rfl⟩)
            | (go_at_call 50; refine (cT _ (HT0.out.below hbw2)).mono ?_; rintro e w9 ⟨rfl, hb9⟩; have h9 := (hb9.block _ (lt_of_block h2)).trans h2; have hbw9 := hbw2.trans (hb9.mono hbw2.size); clear hb9 h2 hbw2)
            | (refine wpList_store_row rfl 74 _ _ rfl _ _ rfl rfl _ _ h9 (by kernel_rfl) (by simp) (by simp [Value.oneCell']) ?_))
          exact tok_post (by rw [Tryd.results34, Tryd.results48]) w.heap.size t rfl rfl rfl rfl (setRow_heap _ _ _ _ _ _ h9) ⟨by rw [HT.out, HS.out], below_setRow hbw9 (Nat.le_refl _) _⟩
end Go.Proofs.YtgjggpgkcbekoadDoor

/- The tokens of a text, one behind the other: plain facts. -/
namespace Go.Proofs.YtgjggpgkcbekoadDoor
open Go.RowKit Lx

theorem run_pos {p : UInt8 → Bool} : ∀ {l : List UInt8}, 0 < l.length → p (l.getD 0 0) = true → 1 ≤ runOf p l
  | [], h, _ => by simp at h
  | c :: l, _, h => by
    have hc : p c = true := by simpa using h
    simp [runOf, hc]
theorem wordLen_pos : ∀ {l : List UInt8}, 0 < l.length → isL (l.getD 0 0) = true → 1 ≤ wordLen l
  | [], h, _ => by simp at h
  | c :: l, _, h => by
    have hc : isL c = true := by simpa using h
    simp [wordLen, hc]
/-- What is said of a right token: it has bytes, and what it says stands there. -/
structure Fine (l : List UInt8) (t : T1) : Prop where
  pos : 1 ≤ t.len
  le : t.len ≤ l.length
  text : t.text = l.take t.text.length
  tle : t.text.length ≤ t.len
theorem first_fine (l : List UInt8) (h0 : 0 < l.length) (he : (firstT l).err = 0) : Fine l (firstT l) := by
  unfold firstT at he ⊢
  split at he
  · rename_i hf
    rw [if_pos hf]
    have hlen := (fitsL_at hf).1
    have h10 : 10 ≤ l.length := hlen
    unfold dateT at he ⊢
    split at he
    · rename_i h
      rw [if_pos h]
      exact ⟨by simp, h10, by simp, by simp⟩
    · simp [bad] at he
  · rename_i hf
    rw [if_neg hf]
    split at he
    · rename_i hf2
      rw [if_pos hf2]
      have hlen := (fitsL_at hf2).1
      have h5 : 5 ≤ l.length := hlen
      unfold timeT at he ⊢
      split at he
      · simp [bad] at he
      · rename_i h
        rw [if_neg h]
        exact ⟨by simp, h5, by simp, by simp⟩
    · rename_i hf2
      rw [if_neg hf2]
      split at he
      · rename_i hd
        rw [if_pos hd]
        unfold numT at he ⊢
        split at he
        · simp [bad] at he
        · rename_i h
          rw [if_neg h]
          exact ⟨run_pos h0 hd, runOf_le _ l, by simp, by simp⟩
      · rename_i hd
        rw [if_neg hd]
        split at he
        · rename_i hL
          rw [if_pos hL]
          have hwl := wordLen_le l
          unfold wordT at he ⊢
          split at he
          · simp [bad] at he
          · rename_i h
            rw [if_neg h]
            exact ⟨wordLen_pos h0 hL, hwl, by simp [Nat.min_eq_left hwl], by simp; omega⟩
        · rename_i hL
          rw [if_neg hL]
          unfold signT at he ⊢
          split at he
          · rename_i hp
            rw [if_pos hp]
            have hp' : [46, 46] <+: l := by
              unfold Lib.hasPrefix at hp
              exact List.isPrefixOf_iff_prefix.1 hp
            obtain ⟨r, rfl⟩ := hp'
            exact ⟨by simp, by simp, by simp, by simp⟩
          · rename_i hp
            rw [if_neg hp]
            split at he
            · simp [bad] at he
            · rename_i h
              rw [if_neg h]
              match l, h0 with
              | c :: r, _ => exact ⟨by simp, by simp, by simp, by simp⟩
/-- The tokens, counted. -/
def iterN (l : List UInt8) : Nat → Option (List (T1 × Nat) × Nat)
  | 0 => some ([], 0 + skipS false (l.drop 0))
  | n + 1 => match iterN l n with
    | none => none
    | some (ts, k) => if k < l.length ∧ (firstT (l.drop k)).err = 0 then some (ts ++ [(firstT (l.drop k), k)], k + (firstT (l.drop k)).len + skipS false (l.drop (k + (firstT (l.drop k)).len))) else none
/-- The tokens ahead of a place. -/
def Lexed (l : List UInt8) (ts : List (T1 × Nat)) (k : Nat) : Prop := ∃ n, iterN l n = some (ts, k)
theorem Lexed.start {l : List UInt8} : Lexed l [] (0 + skipS false (l.drop 0)) := ⟨0, rfl⟩
theorem Lexed.step {l : List UInt8} {ts : List (T1 × Nat)} {k : Nat} (h : Lexed l ts k) (hk : k < l.length) (he : (firstT (l.drop k)).err = 0) : Lexed l (ts ++ [(firstT (l.drop k), k)]) (k + (firstT (l.drop k)).len + skipS false (l.drop (k + (firstT (l.drop k)).len))) := by
  obtain ⟨n, hn⟩ := h
  exact ⟨n + 1, by simp only [iterN, hn]; rw [if_pos ⟨hk, he⟩]⟩
theorem Lexed.ind {l : List UInt8} {M : List (T1 × Nat) → Nat → Prop} (h0 : M [] (0 + skipS false (l.drop 0)))
    (hs : ∀ (ts : List (T1 × Nat)) (k : Nat), Lexed l ts k → k < l.length → (firstT (l.drop k)).err = 0 → M ts k → M (ts ++ [(firstT (l.drop k), k)]) (k + (firstT (l.drop k)).len + skipS false (l.drop (k + (firstT (l.drop k)).len)))) :
    ∀ (n : Nat) {ts : List (T1 × Nat)} {k : Nat}, iterN l n = some (ts, k) → M ts k
  | 0, ts, k, hn => by
    simp only [iterN] at hn
    obtain ⟨rfl, rfl⟩ := Prod.mk.inj (Option.some.inj hn)
    exact h0
  | n + 1, ts, k, hn => by
    simp only [iterN] at hn
    split at hn
    · cases hn
    · rename_i ts' k' hn'
      split at hn
      · rename_i hc
        obtain ⟨rfl, rfl⟩ := Prod.mk.inj (Option.some.inj hn)
        exact hs ts' k' ⟨n, hn'⟩ hc.1 hc.2 (Lexed.ind h0 hs n hn')
      · cases hn
theorem drop_pos {l : List UInt8} {k : Nat} (h : k < l.length) : 0 < (l.drop k).length := by simp; omega
theorem Lexed.le {l : List UInt8} {ts : List (T1 × Nat)} {k : Nat} (h : Lexed l ts k) : k ≤ l.length ∧ ts.length ≤ k := by
  obtain ⟨n, hn⟩ := h
  refine Lexed.ind (M := fun ts k => k ≤ l.length ∧ ts.length ≤ k) ?_ ?_ n hn
  · have := skipS_le false (l.drop 0)
    simp at this ⊢
    omega
  · intro ts k _ hk he ih
    have f := first_fine _ (drop_pos hk) he
    have := skipS_le false (l.drop (k + (firstT (l.drop k)).len))
    have h1 := f.pos
    have h2 := f.le
    simp at this h2 ⊢
    omega
end Go.Proofs.YtgjggpgkcbekoadDoor

/- Plain facts about two texts on two lines. -/
namespace Go.Proofs.YtgjggpgkcbekoadDoor
open Go.RowKit Lx

theorem run_line (p : UInt8 → Bool) (hp : p 10 = false) (y : List UInt8) : ∀ x : List UInt8, runOf p (x ++ 10 :: y) = runOf p x
  | [] => by simp [runOf, hp]
  | c :: x => by simp only [List.cons_append, runOf, run_line p hp y x]
theorem word_line (y : List UInt8) : ∀ x : List UInt8, wordLen (x ++ 10 :: y) = wordLen x
  | [] => by simp [wordLen, show isL 10 = false from by decide]
  | c :: x => by simp only [List.cons_append, wordLen, run_line isC (by decide) y x]
theorem getD_line (x y : List UInt8) (i : Nat) (hi : i < x.length) : (x ++ 10 :: y).getD i 0 = x.getD i 0 := by
  rw [List.getD_eq_getElem?_getD, List.getD_eq_getElem?_getD, List.getElem?_append_left hi]
theorem getD_lf (x y : List UInt8) : (x ++ 10 :: y).getD x.length 0 = 10 := by
  rw [List.getD_eq_getElem?_getD, List.getElem?_append_right (Nat.le_refl _)]; simp
/-- A form that asks for no line feed fits where it does on the first line. -/
theorem fits_line (x y m : List UInt8) (hm : ∀ i, i < m.length → okB (m.getD i 0) 10 = false) : fitsL (x ++ 10 :: y) m = fitsL x m := by
  by_cases hle : m.length ≤ x.length
  · cases h : fitsL x m with
    | true =>
      obtain ⟨_, h2⟩ := fitsL_at h
      exact fitsL_yes (by simp; omega) fun i hi => by rw [getD_line x y i (by omega)]; exact h2 i hi
    | false =>
      cases h' : fitsL (x ++ 10 :: y) m with
      | false => rfl
      | true =>
        obtain ⟨_, h2⟩ := fitsL_at h'
        have : fitsL x m = true := fitsL_yes hle fun i hi => by
          have := h2 i hi
          rw [getD_line x y i (by omega)] at this
          exact this
        rw [h] at this; cases this
  · rw [fitsL_short hle]
    exact fitsL_no x.length (by omega) (by rw [getD_lf]; exact hm _ (by omega))
theorem take_line (x y : List UInt8) (a n : Nat) (h : a + n ≤ x.length) : ((x ++ 10 :: y).drop a).take n = (x.drop a).take n := by
  rw [List.drop_append_of_le_length (by omega), List.take_append_of_le_length (by simp; omega)]
/-- The first token of a line that has bytes does not see the next line. -/
theorem first_line (x y : List UInt8) (h0 : 0 < x.length) : firstT (x ++ 10 :: y) = firstT x := by
  have hg : (x ++ 10 :: y).getD 0 0 = x.getD 0 0 := getD_line x y 0 h0
  unfold firstT
  rw [fits_line x y dateF (by decide), fits_line x y timeF (by decide), hg]
  split
  · rename_i h
    have hl : 10 ≤ x.length := (fitsL_at h).1
    unfold dateT
    rw [take_line x y 0 4 (by omega), take_line x y 5 2 (by omega), take_line x y 8 2 (by omega)]
  · split
    · rename_i h
      have hl : 5 ≤ x.length := (fitsL_at h).1
      unfold timeT
      rw [take_line x y 0 2 (by omega), take_line x y 3 2 (by omega)]
    · split
      · unfold numT
        have hr := runOf_le isD x
        rw [run_line isD (by decide) y x]
        rw [List.take_append_of_le_length hr]
      · split
        · unfold wordT
          have hr := wordLen_le x
          rw [word_line y x, List.take_append_of_le_length hr]
        · unfold signT
          rw [hg]
          have hp : Lib.hasPrefix (x ++ 10 :: y) [46, 46] = Lib.hasPrefix x [46, 46] := by
            match x, h0 with
            | [c], _ => simp [Lib.hasPrefix, List.isPrefixOf]
            | c :: d :: r, _ => simp [Lib.hasPrefix, List.isPrefixOf]
          rw [hp]
/-- What is skipped on the first line, and then. -/
theorem skip_line (y : List UInt8) : ∀ (b : Bool) (x : List UInt8), skipS b (x ++ 10 :: y) = if skipS b x = x.length then x.length + 1 + skipS false y else skipS b x
  | true, [] => by simp [skipS]; omega
  | false, [] => by simp [skipS]; omega
  | true, c :: x => by
    have h1 := skip_line y true x
    have h2 := skip_line y false x
    simp only [List.cons_append, skipS, List.length_cons]
    split
    · rw [h2]; split <;> split <;> omega
    · rw [h1]; split <;> split <;> omega
  | false, c :: x => by
    have h1 := skip_line y true x
    have h2 := skip_line y false x
    simp only [List.cons_append, skipS, List.length_cons]
    split
    · rw [h2]; split <;> split <;> omega
    · split
      · rw [h1]; split <;> split <;> omega
      · split
        · omega
        · rfl
end Go.Proofs.YtgjggpgkcbekoadDoor
