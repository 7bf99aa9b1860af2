/- The law LexTells, walked out of the contracts. -/
import Derived.Test.YtkineofpclneaabDoorLRefL
import Derived.Test.YtkineofpclneaabDoorLRefC
import Derived.Test.YtkineofpclneaabDoorLexZ
namespace Go.Proofs.YtkineofpclneaabDoor
open Go.RowKit Lx

theorem TRow.below {w w' : World} {v : Value} {ts : List (T1 × Nat)} (h : TRow w v ts) (hb : Below w.heap.size w w') : TRow w' v ts := by
  rcases h with h | ⟨g, o, c, hv, hl, hc⟩
  · exact .inl h
  · refine .inr ⟨g, o, c, hv, hl, fun j t k hj => ?_⟩
    obtain ⟨c1, c2, c3, c4⟩ := hc j t k hj
    exact ⟨(hb.cell (block_lt_of_cell c1)).trans c1, (hb.cell (block_lt_of_cell c2)).trans c2, (hb.cell (block_lt_of_cell c3)).trans c3, (hb.cell (block_lt_of_cell c4)).trans c4⟩
/-- What is told of one text is told one way. -/
theorem tells_same {l : List UInt8} {base base' : Nat} {w w' : World} {v v' : Value} {er er' at_ at' : Int} (h : LexTells l base w v er at_) (h' : LexTells l base' w' v' er' at') : er' = er ∧ at' = at_ ∧ ∃ ts, TRow w v ts ∧ TRow w' v' ts := by
  rcases h with ⟨h, rfl, rfl, rfl⟩ | ⟨ts, k, h6, hL, hk, he, rfl, rfl, rfl⟩ | ⟨ts, k, h6, hL, hk, ho, rfl, rfl⟩
  · rcases h' with ⟨_, rfl, rfl, rfl⟩ | ⟨ts', k', h6', _⟩ | ⟨ts', k', h6', _⟩
    · exact ⟨rfl, rfl, [], .inl ⟨0, rfl, rfl⟩, .inl ⟨0, rfl, rfl⟩⟩
    · omega
    · omega
  · rcases h' with ⟨h, _⟩ | ⟨ts', k', _, hL', hk', he', rfl, rfl, rfl⟩ | ⟨ts', k', _, hL', hk', _⟩
    · omega
    · obtain ⟨_, e⟩ := lexed_one hL hL' (fun h => he h.2) (fun h => he' h.2)
      subst e
      exact ⟨rfl, rfl, [], .inl ⟨0, rfl, rfl⟩, .inl ⟨0, rfl, rfl⟩⟩
    · obtain ⟨_, e⟩ := lexed_one hL hL' (fun h => he h.2) (fun h => hk' h.1)
      omega
  · rcases h' with ⟨h, _⟩ | ⟨ts', k', _, hL', hk', he', _⟩ | ⟨ts', k', _, hL', hk', ho', rfl, rfl⟩
    · omega
    · obtain ⟨_, e⟩ := lexed_one hL hL' (fun h => hk h.1) (fun h => he' h.2)
      omega
    · obtain ⟨e, _⟩ := lexed_one hL hL' (fun h => hk h.1) (fun h => hk' h.1)
      subst e
      have := hL.le
      exact ⟨rfl, rfl, ts, trow_of_owns ho (by omega), trow_of_owns ho' (by omega)⟩
theorem eqFault (a b : Int) (w : World) : (Op.equalIn 10000 46 (.agg #[.int .i64 a, .int .i64 b]) (.agg #[.int .i64 a, .int .i64 b])).run Tryd.prog w = .ok true w := by
  rw [run_equalIn_struct w 9999 46 _ _ (by kernel_rfl) (by kernel_rfl)]
  simp [Program.fieldsOf, Tryd.underlying46, Op.eqFields]
  go_simp
theorem neqFault (a b : Int) (w : World) : (binOp .neq 46 (.agg #[.int .i64 a, .int .i64 b]) (.agg #[.int .i64 a, .int .i64 b])).run Tryd.prog w = .ok (.bool false) w := by
  rw [run_neq_struct, eqFault]; simp [Result.andThen]
theorem wordIs (j : Nat) (hj : j < 13) : isWordL (wordsL.getD j []) = true := by
  match j, hj with
  | 0, _ => decide
  | 1, _ => decide
  | 2, _ => decide
  | 3, _ => decide
  | 4, _ => decide
  | 5, _ => decide
  | 6, _ => decide
  | 7, _ => decide
  | 8, _ => decide
  | 9, _ => decide
  | 10, _ => decide
  | 11, _ => decide
  | 12, _ => decide
theorem wordLess (j : Nat) (hj : j < 12) : Op.bytesLess (⟨(wordsL.getD j []).toArray⟩ : ByteArray).toList (⟨(wordsL.getD (j + 1) []).toArray⟩ : ByteArray).toList = true := by
  rw [Lib.toList_data, Lib.toList_data]
  match j, hj with
  | 0, _ => rfl
  | 1, _ => rfl
  | 2, _ => rfl
  | 3, _ => rfl
  | 4, _ => rfl
  | 5, _ => rfl
  | 6, _ => rfl
  | 7, _ => rfl
  | 8, _ => rfl
  | 9, _ => rfl
  | 10, _ => rfl
  | 11, _ => rfl
attribute [local go_sem] neqFault

set_option maxRecDepth 100000 in
set_option maxHeartbeats 2000000 in
theorem tells3_walk (s : ByteArray) (hl : s.size ≤ 9223372036854775806) (w : World) (hT : CTab w) :
    Calls Tryd.prog 7 #[.string s] w fun e w' => e = .returned (.bool true) ∧ Below w.heap.size w w' := by
  obtain ⟨l, hs⟩ : ∃ l, s.data.toList = l := ⟨_, rfl⟩
  have hz : s.size = l.length := by rw [← hs, Lib.size_eq]
  rw [hz] at hl
  have cX := lex_any s l hs (by omega) w hT
  have cY := fun w => rlex_any s l hs (by omega) w
  have cN := fun w => named_any s l hs hl w
  have cM := fun w => rnamed_any s l hs hl w
  have cW := fun w => words_any w
  generalize namedL l = nb at *
  go_enter Tryd.func7, Tryd.ntmps7
  go_wp2_with fail
  refine cX.mono ?_
  rintro e w1 ⟨⟨v, er, at_, rfl, hx⟩, hb1⟩
  have hb1a := hb1.alloc hb1.size (.cells #[.int .i64 er, .int .i64 at_] 46)
  have hf1 := heap_alloc_new w1 (.cells #[.int .i64 er, .int .i64 at_] 46)
  go_wp2_with fail
  refine (cY _).mono ?_
  rintro e w2 ⟨⟨v', er', at', rfl, hy⟩, hb2⟩
  obtain ⟨rfl, rfl, ts, r1, r2⟩ := tells_same hx hy
  have r1a := ((r1.below ((Below.refl _ _).alloc (Nat.le_refl _) (.cells #[.int .i64 er', .int .i64 at'] 46))).below hb2).below ((Below.refl _ _).alloc (Nat.le_refl _) (.cells #[.int .i64 er', .int .i64 at'] 46))
  have r2a := r2.below ((Below.refl _ _).alloc (Nat.le_refl _) (.cells #[.int .i64 er', .int .i64 at'] 46))
  have hb2a := hb1a.trans (hb2.mono hb1a.size)
  have hb2b := hb2a.alloc hb2a.size (.cells #[.int .i64 er', .int .i64 at'] 46)
  have hf2 := (Below.heap_alloc w2 (.cells #[.int .i64 er', .int .i64 at'] 46) _ (lt_of_block ((hb2.block _ (lt_of_block hf1)).trans hf1))).trans ((hb2.block _ (lt_of_block hf1)).trans hf1)
  have hg2 := heap_alloc_new w2 (.cells #[.int .i64 er', .int .i64 at'] 46)
  have cS := sameT_true v v' ts _ r1a r2a
  clear hx hy hb1 hb1a hb2 hf1 r1 r2 r1a r2a hb2a cX cY
  generalize hW2 : w2.alloc (.cells #[.int .i64 er', .int .i64 at'] 46) = W2 at *
  have bn : (nb != nb) = false := by simp
  go_wp2_with (first
    | (refine wpList_load_row rfl 46 _ rfl _ rfl _ _ _ _ hf2 faultType rfl (by kernel_rfl) ?_; clear hf2)
    | (refine wpList_load_row rfl 46 _ rfl _ rfl _ _ _ _ hg2 faultType rfl (by kernel_rfl) ?_; clear hg2))
  refine cS.mono ?_
  rintro e w3 ⟨rfl, hb3⟩
  have hb3a := hb2b.trans (hb3.mono hb2b.size)
  clear cS hb3 hb2b hW2
  go_wp2_with fail
  refine (cN _).mono ?_
  rintro e w4 ⟨rfl, hb4⟩
  have hb4a := hb3a.trans (hb4.mono hb3a.size)
  clear hb4 hb3a
  go_wp2_with fail
  refine (cM _).mono ?_
  rintro e w5 ⟨rfl, hb5⟩
  have hb5a := hb4a.trans (hb5.mono hb4a.size)
  clear hb5 hb4a
  go_wp2_with fail
  refine (cW _).mono ?_
  rintro e w6 ⟨rfl, hb6⟩
  have hb6a : Below w.heap.size w w6 := by rw [hb6]; exact hb5a.alloc hb5a.size _
  clear hb6 hb5a
  go_wp2_with fail
  refine (cW _).mono ?_
  rintro e w7 ⟨rfl, hb7⟩
  have hb7a : Below w.heap.size w w7 := by rw [hb7]; exact hb6a.alloc hb6a.size _
  have HC : Hid (∀ j, j < 13 → w7.cell? ⟨w6.heap.size, j, none⟩ = some (.string ⟨(wordsL.getD j []).toArray⟩)) := fun j hj => by rw [hb7, cell_of_row _ _ _ _ _ _ (heap_alloc_new w6 _), wordCell j hj]
  clear hb7 hb6a
  go_wp2_with fail
  go_loopw [7, 8, 42] (fun _ _ i wr => ∃ j : Nat, i = .int .i64 (j : Int) ∧ j ≤ 13 ∧ Below w7.heap.size w7 wr) (fun _ _ i _ => 13 - (intOf i).toNat)
  case atStart => exact ⟨0, rfl, by omega, Below.refl _ _⟩
  case round =>
    obtain ⟨j, rfl, hj, hbel⟩ := hrel
    have hj0 : (0 : Int) ≤ (j : Int) := by omega
    by_cases hlt : j < 13
    · have hlt' : (j : Int) < 13 := by omega
      have k1 := HC.out j hlt
      have d1 := (hbel.cell (block_lt_of_cell k1)).trans k1
      have cR := fun w => rword_any (⟨(wordsL.getD j []).toArray⟩ : ByteArray) (wordsL.getD j []) rfl w
      rw [wordIs j hlt] at cR
      by_cases h0 : j = 0
      · subst h0
        clear k1 HC hlt hlt'
        generalize (⟨(wordsL.getD 0 []).toArray⟩ : ByteArray) = x at *
        go_wp2_with fail
        refine (cR _).mono ?_
        rintro e w8 ⟨rfl, hb8⟩
        have hb8a := hbel.trans (hb8.mono hbel.size)
        go_wp2_with fail
        go_roundw
        case rel => exact ⟨1, rfl, by omega, hb8a⟩
        case measure => simp [intOf]
      · obtain ⟨i, hij⟩ : ∃ i, i + 1 = j := ⟨j - 1, by omega⟩
        have hls := wordLess i (by omega)
        rw [hij] at hls
        have HJ : Hid (i + 1 = j) := hij
        have HW : Hid (∀ w : World, (w.alloc (.cells wordCells 9)).cell? ⟨w.heap.size, i, none⟩ = some (.string ⟨(wordsL.getD i []).toArray⟩)) := fun w => by rw [cell_of_row _ _ _ _ _ _ (heap_alloc_new w _), wordCell i (by omega)]
        have hp : (0 : Int) < (j : Int) := by omega
        have hq : (j : Int) - 1 = (i : Int) := by omega
        have hi0 : (0 : Int) ≤ (i : Int) := by omega
        have hi1 : (i : Int) < 13 := by omega
        clear k1 HC h0 hij
        generalize (⟨(wordsL.getD j []).toArray⟩ : ByteArray) = x at *
        generalize (⟨(wordsL.getD i []).toArray⟩ : ByteArray) = y at *
        go_wp2_with fail
        refine (cR _).mono ?_
        rintro e w8 ⟨rfl, hb8⟩
        have hb8a := hbel.trans (hb8.mono hbel.size)
        go_wp2_with fail
        refine (cW _).mono ?_
        rintro e w9 ⟨rfl, hb9⟩
        have hb9a : Below w7.heap.size w7 w9 := by rw [hb9]; exact hb8a.alloc hb8a.size _
        have d2 : w9.cell? ⟨w8.heap.size, i, none⟩ = some (.string y) := by rw [hb9]; exact HW.out w8
        clear hb9 HW
        go_wp2_with fail
        go_roundw
        case rel => exact ⟨j + 1, by go_num, by omega, hb9a⟩
        case measure => simp [intOf]; omega
    · have hlt' : ¬ (j : Int) < 13 := by omega
      go_wp2_with fail
      go_ret
      exact ⟨rfl, hb7a.trans (hbel.mono hb7a.size)⟩
end Go.Proofs.YtkineofpclneaabDoor
