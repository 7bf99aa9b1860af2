/- What lex.first comes to: the token that a text begins with. -/
import Derived.Test.YtkineofpclneaabDoorLexL
import Derived.Test.YtkineofpclneaabDoorLexD
import Derived.Test.YtkineofpclneaabDoorLexH
namespace Go.Proofs.YtkineofpclneaabDoor
open Go.RowKit Lx

/-- The token that a text begins with. -/
def firstT (l : List UInt8) : T1 := if fitsL l dateF then dateT l else if fitsL l timeF then timeT l else if isD (l.getD 0 0) then numT l else if isL (l.getD 0 0) then wordT l else signT l

set_option maxRecDepth 10000 in
set_option maxHeartbeats 400000 in
theorem first_any (s : ByteArray) (l : List UInt8) (hs : s.data.toList = l) (hl : l.length ≤ 9223372036854775806) (hl0 : 0 < l.length) (w : World) (hT : CTab w) :
    Calls Tryd.prog 42 #[.string s] w fun e w' => e = .returned (tokv (firstT l)) ∧ Below w.heap.size w w' := by
  have hz : s.size = l.length := by rw [← hs, Lib.size_eq]
  have hl0' : (0 : Int) < (l.length : Int) := by omega
  have g1 : ∀ h : 0 < s.size, s[0] = l.getD 0 0 := fun h => byte_at hs 0 h
  have hb0 : Below w.heap.size w (w.alloc (.cells #[.int .i64 0, .int .i64 0, .int .i64 0, .string ⟨#[]⟩] 54)) := (Below.refl _ _).alloc (Nat.le_refl _) _
  have h0 : (w.alloc (.cells #[.int .i64 0, .int .i64 0, .int .i64 0, .string ⟨#[]⟩] 54)).heap[w.heap.size]? = some (.cells #[.int .i64 0, .int .i64 0, .int .i64 0, .string ⟨#[]⟩] 54 (0, 0)) := heap_alloc_new w _
  have HT0 : Hid (CTab w) := hT
  clear hT
  have cf1 := fun w => fits_any s ⟨#[48, 48, 48, 48, 45, 48, 48, 45, 48, 48]⟩ l dateF hs rfl (by omega) (by decide) w
  have cf2 := fun w => fits_any s ⟨#[48, 48, 58, 48, 48]⟩ l timeF hs rfl (by omega) (by decide) w
  have cD := fun w => digit_any (l.getD 0 0) w
  have cL := fun w => letter_any (l.getD 0 0) w
  have hF : firstT l = if fitsL l dateF then dateT l else if fitsL l timeF then timeT l else if isD (l.getD 0 0) then numT l else if isL (l.getD 0 0) then wordT l else signT l := rfl
  generalize hc : l.getD 0 0 = c at *
  cases f1 : fitsL l dateF with
  | true =>
    rw [f1] at cf1
    have HT : Hid (firstT l = dateT l) := by
      show firstT l = _
      rw [hF, f1]; rfl
    obtain ⟨t, cT, HS⟩ : ∃ t : T1, (∀ w, CTab w → Calls Tryd.prog 53 #[.string s] w fun e w' => e = .returned (.tuple #[.agg #[.int .i64 t.kind, .int .i64 t.n, .int .i64 0, .string ⟨t.text.toArray⟩], .int .i64 (t.len : Int), .int .i64 t.err]) ∧ Below w.heap.size w w') ∧ Hid (dateT l = t) := ⟨dateT l, fun w _hT => date_any s l hs f1 w _hT, rfl⟩
    clear hF
    go_enter Tryd.func42, Tryd.ntmps42
    go_wp2_with (first
      | (go_at_call 52; have _t := cf1; refine (cf1 _).mono ?_; rintro e w1 ⟨rfl, hb1⟩; have h1 := (hb1.block _ (lt_of_block h0)).trans h0; have hbw1 := hb0.trans (hb1.mono hb0.size); clear _t cf1 hb1 h0 hb0)
      | (go_at_call 53; refine (cT _ (HT0.out.below hbw1)).mono ?_; rintro e w9 ⟨rfl, hb9⟩; have h9 := (hb9.block _ (lt_of_block h1)).trans h1; have hbw9 := hbw1.trans (hb9.mono hbw1.size); clear hb9 h1 hbw1)
      | (refine wpList_store_row rfl 54 _ _ rfl _ _ rfl rfl _ _ h9 (by kernel_rfl) (by simp) (by simp [Value.oneCell']) ?_))
    exact tok_post (by rw [Tryd.results42, Tryd.results56]) w.heap.size t rfl rfl rfl rfl (setRow_heap _ _ _ _ _ _ h9) ⟨by rw [HT.out, HS.out], below_setRow hbw9 (Nat.le_refl _) _⟩
  | false =>
    rw [f1] at cf1
    cases f2 : fitsL l timeF with
    | true =>
      rw [f2] at cf2
      have HT : Hid (firstT l = timeT l) := by
        show firstT l = _
        rw [hF, f1, f2]; rfl
      obtain ⟨t, cT, HS⟩ : ∃ t : T1, (∀ w, CTab w → Calls Tryd.prog 54 #[.string s] w fun e w' => e = .returned (.tuple #[.agg #[.int .i64 t.kind, .int .i64 t.n, .int .i64 0, .string ⟨t.text.toArray⟩], .int .i64 (t.len : Int), .int .i64 t.err]) ∧ Below w.heap.size w w') ∧ Hid (timeT l = t) := ⟨timeT l, fun w _hT => clock_any s l hs hl f2 w, rfl⟩
      clear hF
      go_enter Tryd.func42, Tryd.ntmps42
      go_wp2_with (first
        | (go_at_call 52; have _t := cf1; refine (cf1 _).mono ?_; rintro e w1 ⟨rfl, hb1⟩; have h1 := (hb1.block _ (lt_of_block h0)).trans h0; have hbw1 := hb0.trans (hb1.mono hb0.size); clear _t cf1 hb1 h0 hb0)
        | (go_at_call 52; refine (cf2 _).mono ?_; rintro e w2 ⟨rfl, hb2⟩; have h2 := (hb2.block _ (lt_of_block h1)).trans h1; have hbw2 := hbw1.trans (hb2.mono hbw1.size); clear hb2 h1 hbw1)
        | (go_at_call 54; refine (cT _ (HT0.out.below hbw2)).mono ?_; rintro e w9 ⟨rfl, hb9⟩; have h9 := (hb9.block _ (lt_of_block h2)).trans h2; have hbw9 := hbw2.trans (hb9.mono hbw2.size); clear hb9 h2 hbw2)
        | (refine wpList_store_row rfl 54 _ _ rfl _ _ rfl rfl _ _ h9 (by kernel_rfl) (by simp) (by simp [Value.oneCell']) ?_))
      exact tok_post (by rw [Tryd.results42, Tryd.results56]) w.heap.size t rfl rfl rfl rfl (setRow_heap _ _ _ _ _ _ h9) ⟨by rw [HT.out, HS.out], below_setRow hbw9 (Nat.le_refl _) _⟩
    | false =>
      rw [f2] at cf2
      cases f3 : isD c with
      | true =>
        rw [f3] at cD
        have HT : Hid (firstT l = numT l) := by
          show firstT l = _
          rw [hF, f1, f2, f3]; rfl
        obtain ⟨t, cT, HS⟩ : ∃ t : T1, (∀ w, CTab w → Calls Tryd.prog 56 #[.string s] w fun e w' => e = .returned (.tuple #[.agg #[.int .i64 t.kind, .int .i64 t.n, .int .i64 0, .string ⟨t.text.toArray⟩], .int .i64 (t.len : Int), .int .i64 t.err]) ∧ Below w.heap.size w w') ∧ Hid (numT l = t) := ⟨numT l, fun w _hT => number_any s l hs hl w, rfl⟩
        clear hF
        go_enter Tryd.func42, Tryd.ntmps42
        go_wp2_with (first
          | (go_at_call 52; have _t := cf1; refine (cf1 _).mono ?_; rintro e w1 ⟨rfl, hb1⟩; have h1 := (hb1.block _ (lt_of_block h0)).trans h0; have hbw1 := hb0.trans (hb1.mono hb0.size); clear _t cf1 hb1 h0 hb0)
          | (go_at_call 52; refine (cf2 _).mono ?_; rintro e w2 ⟨rfl, hb2⟩; have h2 := (hb2.block _ (lt_of_block h1)).trans h1; have hbw2 := hbw1.trans (hb2.mono hbw1.size); clear hb2 h1 hbw1)
          | (go_at_call 55; refine (cD _).mono ?_; rintro e w' ⟨rfl, rfl⟩)
          | (go_at_call 56; refine (cT _ (HT0.out.below hbw2)).mono ?_; rintro e w9 ⟨rfl, hb9⟩; have h9 := (hb9.block _ (lt_of_block h2)).trans h2; have hbw9 := hbw2.trans (hb9.mono hbw2.size); clear hb9 h2 hbw2)
          | (refine wpList_store_row rfl 54 _ _ rfl _ _ rfl rfl _ _ h9 (by kernel_rfl) (by simp) (by simp [Value.oneCell']) ?_))
        exact tok_post (by rw [Tryd.results42, Tryd.results56]) w.heap.size t rfl rfl rfl rfl (setRow_heap _ _ _ _ _ _ h9) ⟨by rw [HT.out, HS.out], below_setRow hbw9 (Nat.le_refl _) _⟩
      | false =>
        rw [f3] at cD
        cases f4 : isL c with
        | true =>
          rw [f4] at cL
          have HT : Hid (firstT l = wordT l) := by
            show firstT l = _
            rw [hF, f1, f2, f3, f4]; rfl
          obtain ⟨t, cT, HS⟩ : ∃ t : T1, (∀ w, CTab w → Calls Tryd.prog 58 #[.string s] w fun e w' => e = .returned (.tuple #[.agg #[.int .i64 t.kind, .int .i64 t.n, .int .i64 0, .string ⟨t.text.toArray⟩], .int .i64 (t.len : Int), .int .i64 t.err]) ∧ Below w.heap.size w w') ∧ Hid (wordT l = t) := ⟨wordT l, fun w _hT => word_any s l hs hl w, rfl⟩
          clear hF
          go_enter Tryd.func42, Tryd.ntmps42
          go_wp2_with (first
            | (go_at_call 52; have _t := cf1; refine (cf1 _).mono ?_; rintro e w1 ⟨rfl, hb1⟩; have h1 := (hb1.block _ (lt_of_block h0)).trans h0; have hbw1 := hb0.trans (hb1.mono hb0.size); clear _t cf1 hb1 h0 hb0)
            | (go_at_call 52; refine (cf2 _).mono ?_; rintro e w2 ⟨rfl, hb2⟩; have h2 := (hb2.block _ (lt_of_block h1)).trans h1; have hbw2 := hbw1.trans (hb2.mono hbw1.size); clear hb2 h1 hbw1)
            | (go_at_call 55; refine (cD _).mono ?_; rintro e w' ⟨rfl, rfl⟩)
            | (go_at_call 57; refine (cL _).mono ?_; rintro e w' ⟨rfl, rfl⟩)
            | (go_at_call 58; refine (cT _ (HT0.out.below hbw2)).mono ?_; rintro e w9 ⟨rfl, hb9⟩; have h9 := (hb9.block _ (lt_of_block h2)).trans h2; have hbw9 := hbw2.trans (hb9.mono hbw2.size); clear hb9 h2 hbw2)
            | (refine wpList_store_row rfl 54 _ _ rfl _ _ rfl rfl _ _ h9 (by kernel_rfl) (by simp) (by simp [Value.oneCell']) ?_))
          exact tok_post (by rw [Tryd.results42, Tryd.results56]) w.heap.size t rfl rfl rfl rfl (setRow_heap _ _ _ _ _ _ h9) ⟨by rw [HT.out, HS.out], below_setRow hbw9 (Nat.le_refl _) _⟩
        | false =>
          rw [f4] at cL
          have HT : Hid (firstT l = signT l) := by
            show firstT l = _
            rw [hF, f1, f2, f3, f4]; rfl
          obtain ⟨t, cT, HS⟩ : ∃ t : T1, (∀ w, CTab w → Calls Tryd.prog 59 #[.string s] w fun e w' => e = .returned (.tuple #[.agg #[.int .i64 t.kind, .int .i64 t.n, .int .i64 0, .string ⟨t.text.toArray⟩], .int .i64 (t.len : Int), .int .i64 t.err]) ∧ Below w.heap.size w w') ∧ Hid (signT l = t) := ⟨signT l, fun w _hT => sign_any s l hs hl0 w, rfl⟩
          clear hF
          go_enter Tryd.func42, Tryd.ntmps42
          go_wp2_with (first
            | (go_at_call 52; have _t := cf1; refine (cf1 _).mono ?_; rintro e w1 ⟨rfl, hb1⟩; have h1 := (hb1.block _ (lt_of_block h0)).trans h0; have hbw1 := hb0.trans (hb1.mono hb0.size); clear _t cf1 hb1 h0 hb0)
            | (go_at_call 52; refine (cf2 _).mono ?_; rintro e w2 ⟨rfl, hb2⟩; have h2 := (hb2.block _ (lt_of_block h1)).trans h1; have hbw2 := hbw1.trans (hb2.mono hbw1.size); clear hb2 h1 hbw1)
            | (go_at_call 55; refine (cD _).mono ?_; rintro e w' ⟨rfl, rfl⟩)
            | (go_at_call 57; refine (cL _).mono ?_; rintro e w' ⟨rfl, rfl⟩)
            | (go_at_call 59; refine (cT _ (HT0.out.below hbw2)).mono ?_; rintro e w9 ⟨rfl, hb9⟩; have h9 := (hb9.block _ (lt_of_block h2)).trans h2; have hbw9 := hbw2.trans (hb9.mono hbw2.size); clear hb9 h2 hbw2)
            | (refine wpList_store_row rfl 54 _ _ rfl _ _ rfl rfl _ _ h9 (by kernel_rfl) (by simp) (by simp [Value.oneCell']) ?_))
          exact tok_post (by rw [Tryd.results42, Tryd.results56]) w.heap.size t rfl rfl rfl rfl (setRow_heap _ _ _ _ _ _ h9) ⟨by rw [HT.out, HS.out], below_setRow hbw9 (Nat.le_refl _) _⟩
end Go.Proofs.YtkineofpclneaabDoor
