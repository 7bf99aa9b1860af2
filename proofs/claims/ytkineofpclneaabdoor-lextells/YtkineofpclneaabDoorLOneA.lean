/- What slotref3.One comes to where a date stands. -/
import Derived.Test.YtkineofpclneaabDoorLOneP
namespace Go.Proofs.YtkineofpclneaabDoor
open Go.RowKit Lx

set_option maxRecDepth 10000 in
set_option maxHeartbeats 1000000 in
theorem one_date (s : ByteArray) (l : List UInt8) (hs : s.data.toList = l) (hl : l.length ≤ 6000) (k : Nat) (hk : k < l.length) (hf : fitsL (l.drop k) dateF = true) (w : World) :
    Calls Tryd.prog 43 #[.string s, .int .i64 (k : Int)] w fun e w' => OneTells (firstT (l.drop k)) k e ∧ Below w.heap.size w w' := by
  have hF : firstT (l.drop k) = dateT (l.drop k) := by unfold firstT; rw [if_pos hf]
  have hfb := hf
  rw [date_bools] at hfb
  simp only [Bool.and_eq_true] at hfb
  obtain ⟨b1, b2, b3, b4, b5⟩ := hfb
  have v1 := dig_val b1
  have v2 := dig_val b2
  have v3 := dig_val b3
  have c1 : ∀ w, Calls Tryd.prog 60 #[.string s, .int .i64 (k : Int), .int .i64 4] w fun e w' => e = .returned (.tuple #[.int .i64 (valL ((l.drop k).take 4)), .bool true]) ∧ Below w.heap.size w w' := fun w => by
    have := rdigits_any s l hs hl k 4 (by omega) (by omega) w
    rw [b1, v1] at this; exact this
  have c2 : ∀ w, Calls Tryd.prog 60 #[.string s, .int .i64 ((k : Int) + 5), .int .i64 2] w fun e w' => e = .returned (.tuple #[.int .i64 (valL ((l.drop (k + 5)).take 2)), .bool true]) ∧ Below w.heap.size w w' := fun w => by
    have := rdigits_any s l hs hl (k + 5) 2 (by omega) (by omega) w
    rw [b2, v2] at this; exact this
  have c3 : ∀ w, Calls Tryd.prog 60 #[.string s, .int .i64 ((k : Int) + 8), .int .i64 2] w fun e w' => e = .returned (.tuple #[.int .i64 (valL ((l.drop (k + 8)).take 2)), .bool true]) ∧ Below w.heap.size w w' := fun w => by
    have := rdigits_any s l hs hl (k + 8) 2 (by omega) (by omega) w
    rw [b3, v3] at this; exact this
  have c4 : ∀ w, Calls Tryd.prog 61 #[.string s, .int .i64 ((k : Int) + 4), .int .u8 45] w fun e w' => e = .returned (.bool true) ∧ w' = w := fun w => by
    have := rsign_any s l hs (k + 4) 45 w
    rw [b4] at this; exact this
  have c5 : ∀ w, Calls Tryd.prog 61 #[.string s, .int .i64 ((k : Int) + 7), .int .u8 45] w fun e w' => e = .returned (.bool true) ∧ w' = w := fun w => by
    have := rsign_any s l hs (k + 7) 45 w
    rw [b5] at this; exact this
  have hD : dateT (l.drop k) = if (numE (valL ((l.drop k).take 4)) (valL ((l.drop (k + 5)).take 2)) (valL ((l.drop (k + 8)).take 2))).2 = 0 then ⟨5, (numE (valL ((l.drop k).take 4)) (valL ((l.drop (k + 5)).take 2)) (valL ((l.drop (k + 8)).take 2))).1, [], 10, 0⟩ else bad 3 := by
    unfold dateT
    rw [List.drop_drop, List.drop_drop, List.drop_drop]; rfl
  have hE := numE_err (valL ((l.drop k).take 4)) (valL ((l.drop (k + 5)).take 2)) (valL ((l.drop (k + 8)).take 2))
  have c6 := fun w => rnum_any (valL ((l.drop k).take 4)) (valL ((l.drop (k + 5)).take 2)) (valL ((l.drop (k + 8)).take 2)) w
  have h0 : (w.alloc (.cells #[.int .i64 0, .int .i64 0, .int .i64 0, .string ⟨#[]⟩] 54)).heap[w.heap.size]? = some (.cells #[.int .i64 0, .int .i64 0, .int .i64 0, .string ⟨#[]⟩] 54 (0, 0)) := heap_alloc_new w _
  have hb0 : Below w.heap.size w (w.alloc (.cells #[.int .i64 0, .int .i64 0, .int .i64 0, .string ⟨#[]⟩] 54)) := (Below.refl _ _).alloc (Nat.le_refl _) _
  generalize valL ((l.drop k).take 4) = y at *
  generalize valL ((l.drop (k + 5)).take 2) = m at *
  generalize valL ((l.drop (k + 8)).take 2) = d at *
  have HO : ∀ nn ee, nn = (numE y m d).1 → ee = (numE y m d).2 → Hid ((firstT (l.drop k)).err = ee ∧ (ee = 0 → firstT (l.drop k) = ⟨5, nn, [], 10, 0⟩)) := by
    intro nn ee e1 e2
    subst e1 e2
    show _ ∧ _
    rw [hF, hD]
    rcases hE with h | h
    · rw [if_pos h, h]; exact ⟨rfl, fun _ => rfl⟩
    · rw [if_neg (by omega)]; exact ⟨h.symm, fun h' => by omega⟩
  obtain ⟨nn, en⟩ : ∃ nn, nn = (numE y m d).1 := ⟨_, rfl⟩
  obtain ⟨ee, ee'⟩ : ∃ ee, ee = (numE y m d).2 := ⟨_, rfl⟩
  have HH := HO nn ee en ee'
  rw [← en, ← ee'] at c6
  have hk' : (k : Int) < 6000 := by omega
  have hk0 : (0 : Int) ≤ (k : Int) := by omega
  clear HO hE hD hF hf b1 b2 b3 b4 b5 v1 v2 v3 en ee'
  go_enter Tryd.func43, Tryd.ntmps43
  go_wp2_with fail
  refine (c1 _).mono ?_
  rintro e w1 ⟨rfl, hb1⟩
  have h1 := (hb1.block _ (lt_of_block h0)).trans h0
  have hbw1 := hb0.trans (hb1.mono hb0.size)
  clear hb1 h0 hb0
  go_wp2_with fail
  refine (c2 _).mono ?_
  rintro e w2 ⟨rfl, hb2⟩
  have h2 := (hb2.block _ (lt_of_block h1)).trans h1
  have hbw2 := hbw1.trans (hb2.mono hbw1.size)
  clear hb2 h1 hbw1
  go_wp2_with fail
  refine (c3 _).mono ?_
  rintro e w3 ⟨rfl, hb3⟩
  have h3 := (hb3.block _ (lt_of_block h2)).trans h2
  have hbw3 := hbw2.trans (hb3.mono hbw2.size)
  clear hb3 h2 hbw2
  go_wp2_with fail
  refine (c4 _).mono ?_
  rintro e w' ⟨rfl, rfl⟩
  go_wp2_with fail
  refine (c5 _).mono ?_
  rintro e w' ⟨rfl, rfl⟩
  go_wp2_with fail
  refine (c6 _).mono ?_
  rintro e w4 ⟨rfl, hb4⟩
  have h4 := (hb4.block _ (lt_of_block h3)).trans h3
  have hbw4 := hbw3.trans (hb4.mono hbw3.size)
  clear hb4 h3 hbw3
  go_wp2_with (refine wpList_store_row rfl 54 _ _ rfl _ _ rfl rfl _ _ h4 (by kernel_rfl) (by simp) (by simp [Value.oneCell']) ?_)
  refine one_post w.heap.size 5 nn (k : Int) ((k : Int) + 10) ee ⟨#[]⟩ rfl rfl rfl rfl (setRow_heap _ _ _ _ _ _ h4) ⟨?_, below_setRow hbw4 (Nat.le_refl _) _⟩
  obtain ⟨e1, e2⟩ := HH.out
  refine ⟨5, nn, (k : Int), (k : Int) + 10, ⟨#[]⟩, by rw [e1], fun h => ?_⟩
  rw [e2 (by rw [← e1]; exact h)]
  exact ⟨rfl, rfl, rfl, rfl, rfl⟩
end Go.Proofs.YtkineofpclneaabDoor
