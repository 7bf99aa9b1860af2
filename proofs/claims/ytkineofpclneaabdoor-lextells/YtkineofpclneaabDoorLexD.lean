/- What lex.clock comes to. -/
import Derived.Test.YtkineofpclneaabDoorLexC
namespace Go.Proofs.YtkineofpclneaabDoor
open Go.RowKit Lx

set_option maxRecDepth 10000 in
set_option maxHeartbeats 400000 in
theorem clock_any (s : ByteArray) (l : List UInt8) (hs : s.data.toList = l) (hl : l.length ≤ 9223372036854775806) (hf : fitsL l timeF = true) (w : World) :
    Calls Tryd.prog 54 #[.string s] w fun e w' => e = .returned (tokv (timeT l)) ∧ Below w.heap.size w w' := by
  have hz : s.size = l.length := by rw [← hs, Lib.size_eq]
  obtain ⟨hlen, _⟩ := fitsL_at hf
  have hlen5 : 5 ≤ l.length := hlen
  have hi5 : (5 : Int) ≤ (l.length : Int) := by omega
  have hi2 : (2 : Int) ≤ (l.length : Int) := by omega
  have hi3 : (3 : Int) ≤ (l.length : Int) := by omega
  obtain ⟨n1, d1⟩ := dig_part hf 3 2 (by decide) (by decide)
  obtain ⟨n2, d2⟩ := dig_part hf 0 2 (by decide) (by decide)
  have c1 := fun w => value_any (s.extract 3 5) ((l.drop 3).take 2) (by rw [Lib.extract_data, hs]) (by omega) d1 w
  have c2 := fun w => value_any (s.extract 0 2) ((l.drop 0).take 2) (by rw [Lib.extract_data, hs]) (by omega) d2 w
  have b1 := valL_small _ d1 2 (by omega) (by omega)
  have b2 := valL_small _ d2 2 (by omega) (by omega)
  rw [List.take_of_length_le (by omega)] at b1 b2
  have HT : Hid (timeT l = if 59 < valL ((l.drop 3).take 2) ∨ 1440 < 60 * valL ((l.drop 0).take 2) + valL ((l.drop 3).take 2) then bad 3 else ⟨4, 60 * valL ((l.drop 0).take 2) + valL ((l.drop 3).take 2), [], 5, 0⟩) := rfl
  generalize valL ((l.drop 3).take 2) = m at *
  generalize valL ((l.drop 0).take 2) = h at *
  clear n1 d1 n2 d2 hlen hf
  have hb0 : Below w.heap.size w (w.alloc (.cells #[.int .i64 0, .int .i64 0, .int .i64 0, .string ⟨#[]⟩] 54)) := (Below.refl _ _).alloc (Nat.le_refl _) _
  have hbx : Below w.heap.size w (w.alloc (.cells #[.int .i64 4, .int .i64 (60 * h + m), .int .i64 0, .string ⟨#[]⟩] 54)) := (Below.refl _ _).alloc (Nat.le_refl _) _
  by_cases h59 : 59 < m
  · go_enter Tryd.func54, Tryd.ntmps54
    go_wp2_with (first
      | (go_at_call 67; have _t := c1; refine (c1 _).mono ?_; rintro e w' ⟨rfl, rfl⟩; clear _t c1)
      | (go_at_call 67; refine (c2 _).mono ?_; rintro e w' ⟨rfl, rfl⟩))
    exact tok_post (by rw [Tryd.results54, Tryd.results56]) w.heap.size (bad 3) rfl rfl rfl rfl (heap_alloc_new w _) ⟨by rw [HT.out, if_pos (.inl h59)], hb0⟩
  · by_cases h1440 : 1440 < 60 * h + m
    · go_enter Tryd.func54, Tryd.ntmps54
      go_wp2_with (first
        | (go_at_call 67; have _t := c1; refine (c1 _).mono ?_; rintro e w' ⟨rfl, rfl⟩; clear _t c1)
        | (go_at_call 67; refine (c2 _).mono ?_; rintro e w' ⟨rfl, rfl⟩))
      exact tok_post (by rw [Tryd.results54, Tryd.results56]) w.heap.size (bad 3) rfl rfl rfl rfl (heap_alloc_new w _) ⟨by rw [HT.out, if_pos (.inr h1440)], hb0⟩
    · go_enter Tryd.func54, Tryd.ntmps54
      go_wp2_with (first
        | (go_at_call 67; have _t := c1; refine (c1 _).mono ?_; rintro e w' ⟨rfl, rfl⟩; clear _t c1)
        | (go_at_call 67; refine (c2 _).mono ?_; rintro e w' ⟨rfl, rfl⟩))
      exact tok_post (by rw [Tryd.results54, Tryd.results56]) w.heap.size ⟨4, 60 * h + m, [], 5, 0⟩ rfl rfl rfl rfl (heap_alloc_new w _) ⟨by rw [HT.out, if_neg (by omega)], hbx⟩

end Go.Proofs.YtkineofpclneaabDoor
