/- What lex.Named comes to, and that the law's first question is answered yes. -/
import Derived.Test.YtkineofpclneaabDoorLexS
namespace Go.Proofs.YtkineofpclneaabDoor
open Go.RowKit Lx

set_option maxRecDepth 10000 in
set_option maxHeartbeats 400000 in
theorem named_any (s : ByteArray) (l : List UInt8) (hs : s.data.toList = l) (hl : l.length ≤ 9223372036854775806) (w : World) :
    Calls Tryd.prog 24 #[.string s] w fun e w' => e = .returned (.bool (namedL l)) ∧ Below w.heap.size w w' := by
  have hz : s.size = l.length := by rw [← hs, Lib.size_eq]
  have hnil : s.toList.isEmpty = l.isEmpty := by rw [Lib.toList_data, hs]
  have cl := fun w => wordLen_any s l hs hl w
  have cw := fun w => isWord_any s l hs w
  by_cases h0 : l.length = 0
  · have HN : Hid (namedL l = false) := by show namedL l = false; simp [namedL, h0]
    have hq : s.toList.isEmpty = true := by rw [hnil]; simpa using h0
    clear hnil h0
    go_enter Tryd.func24, Tryd.ntmps24
    go_wp2_with (first
      | (go_at_call 44; refine (cl _).mono ?_; rintro e w' ⟨rfl, rfl⟩)
      | (go_at_call 45; refine (cw _).mono ?_; rintro e w1 ⟨rfl, hb1⟩))
    go_ret
    exact ⟨by rw [HN.out]; rfl, Below.refl _ _⟩
  · have hq : s.toList.isEmpty = false := by rw [hnil]; cases l <;> simp at h0 ⊢
    clear hnil
    by_cases h20 : l.length ≤ 20
    · have i20 : (l.length : Int) ≤ 20 := by omega
      by_cases hw : wordLen l = l.length
      · have HN : Hid (namedL l = !isWordL l) := by show namedL l = _; simp [namedL, h0, h20, hw]
        rw [hw] at cl
        clear h0 hw
        generalize isWordL l = b at *
        go_enter Tryd.func24, Tryd.ntmps24
        go_wp2_with (first
          | (go_at_call 44; refine (cl _).mono ?_; rintro e w' ⟨rfl, rfl⟩)
          | (go_at_call 45; refine (cw _).mono ?_; rintro e w1 ⟨rfl, hb1⟩))
        go_ret
        exact ⟨by rw [HN.out]; rfl, hb1⟩
      · have HN : Hid (namedL l = false) := by show namedL l = false; simp [namedL, hw]
        have iw : ((wordLen l : Int) == (l.length : Int)) = false := by simp; omega
        clear h0 hw
        generalize wordLen l = k at *
        go_enter Tryd.func24, Tryd.ntmps24
        go_wp2_with (first
          | (go_at_call 44; refine (cl _).mono ?_; rintro e w' ⟨rfl, rfl⟩)
          | (go_at_call 45; refine (cw _).mono ?_; rintro e w1 ⟨rfl, hb1⟩))
        go_ret
        exact ⟨by rw [HN.out]; rfl, Below.refl _ _⟩
    · have i20 : ¬ (l.length : Int) ≤ 20 := by omega
      have HN : Hid (namedL l = false) := by show namedL l = false; simp [namedL, h20]
      clear h0 h20
      go_enter Tryd.func24, Tryd.ntmps24
      go_wp2_with (first
        | (go_at_call 44; refine (cl _).mono ?_; rintro e w' ⟨rfl, rfl⟩)
        | (go_at_call 45; refine (cw _).mono ?_; rintro e w1 ⟨rfl, hb1⟩))
      go_ret
      exact ⟨by rw [HN.out]; rfl, Below.refl _ _⟩

set_option maxRecDepth 100000 in
theorem alive_ts {base : Nat} {w : World} {v : Value} {er at_ : Int} (h : LexTells aliveL base w v er at_) : er = 0 ∧ w.ownsRow base 54 4 v 7 (flatT aliveTs) := by
  have h8 : iterN aliveL 8 = none := by rfl
  have hstep : ∀ ts k, Lexed aliveL ts k → (k < aliveL.length ∧ (firstT (aliveL.drop k)).err = 0) ∨ (ts = aliveTs ∧ k = 25) := by
    intro ts k hL
    obtain ⟨n, hn⟩ := hL.iter
    have hn8 : n < 8 := by
      rcases Nat.lt_or_ge n 8 with g | g
      · exact g
      · rw [iter_none h8 n g] at hn; cases hn
    by_cases e7 : n = 7
    · subst e7
      rw [alive_iter] at hn
      right
      have := Option.some.inj hn
      exact ⟨(congrArg Prod.fst this).symm, (congrArg Prod.snd this).symm⟩
    · left
      have hnx : iterN aliveL (n + 1) ≠ none := by
        intro e
        have := iter_none e 7 (by omega)
        rw [alive_iter] at this; cases this
      simp only [iterN, hn] at hnx
      split at hnx
      · assumption
      · exact absurd rfl hnx
  rcases h with ⟨h, _⟩ | ⟨ts, k, _, hL, hk, he, _⟩ | ⟨ts, k, _, hL, hk, ho, he, _⟩
  · exact absurd h (by decide)
  · rcases hstep _ _ hL with ⟨_, h⟩ | ⟨_, h⟩
    · exact absurd h he
    · rw [h] at hk; exact absurd hk (by decide)
  · rcases hstep _ _ hL with ⟨h, _⟩ | ⟨h, _⟩
    · exact absurd h hk
    · subst h; exact ⟨he, ho⟩

set_option maxRecDepth 10000 in
set_option maxHeartbeats 400000 in
theorem alive3_any (w : World) (hT : CTab w) : Calls Tryd.prog 28 #[] w fun e w' => e = .returned (.bool true) ∧ Below w.heap.size w w' := by
  have cx := lex_any ⟨#[114, 117, 108, 101, 32, 97, 32, 61, 32, 48, 57, 58, 51, 48, 45, 49, 48, 58, 48, 48, 59, 32, 35, 32, 110]⟩ aliveL rfl (by decide) w hT
  have c1 := fun w => named_any ⟨#[97]⟩ [97] rfl (by decide) w
  have c2 := fun w => named_any ⟨#[114, 117, 108, 101]⟩ [114, 117, 108, 101] rfl (by decide) w
  rw [show namedL [97] = true from by decide] at c1
  rw [show namedL [114, 117, 108, 101] = false from by decide] at c2
  go_enter Tryd.func28, Tryd.ntmps28
  go_wp2_with (first
    | (go_at_call 21; refine cx.mono ?_; rintro e w1 ⟨⟨v, er, at_, rfl, hx⟩, hb1⟩; obtain ⟨rfl, ho⟩ := alive_ts hx; obtain ⟨g, cap, rfl, hcell⟩ := own_slice ho (by omega); have d1' : w1.cell? ⟨g, 13, none⟩ = some (.int .i64 570) := hcell 13 _ rfl; have d2' : w1.cell? ⟨g, 22, none⟩ = some (.int .i64 15) := hcell 22 _ rfl; have hbX : Below w1.heap.size w1 (w1.alloc (.cells #[.int .i64 0, .int .i64 at_] 46)) := (Below.refl _ _).alloc (Nat.le_refl _) _; have d1 := (hbX.cell (block_lt_of_cell d1')).trans d1'; have d2 := (hbX.cell (block_lt_of_cell d2')).trans d2'; have hbA := hb1.alloc hb1.size (.cells #[.int .i64 0, .int .i64 at_] 46); clear hx ho hcell cx hb1 d1' d2' hbX)
    | (go_at_call 24; have _t := c1; refine (c1 _).mono ?_; rintro e w2 ⟨rfl, hb2⟩; have hbw2 := hbA.trans (hb2.mono hbA.size); clear _t c1 hb2 hbA)
    | (go_at_call 24; refine (c2 _).mono ?_; rintro e w3 ⟨rfl, hb3⟩; have hbw3 := hbw2.trans (hb3.mono hbw2.size)))
  go_ret
  exact ⟨rfl, hbw3⟩
end Go.Proofs.YtkineofpclneaabDoor
