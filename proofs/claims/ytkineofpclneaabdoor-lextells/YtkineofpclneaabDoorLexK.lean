/- What lex.word comes to. -/
import Derived.Test.YtkineofpclneaabDoorLexJ
import Derived.Deep.WholeRow
import Derived.Laws.CopyOwn
namespace Go.Proofs.YtkineofpclneaabDoor
open Go.RowKit Lx

theorem cells_eq {w : World} {g : Nat} {c c' : Array Value} {t : TypeId} (hg : w.heap[g]? = some (.cells c t (0, 0))) (e : c = c') : w.heap[g]? = some (.cells c' t (0, 0)) := by rw [hg, e]
set_option maxRecDepth 10000 in
set_option maxHeartbeats 400000 in
theorem word_any (s : ByteArray) (l : List UInt8) (hs : s.data.toList = l) (hl : l.length ≤ 9223372036854775806) (w : World) :
    Calls Tryd.prog 58 #[.string s] w fun e w' => e = .returned (tokv (wordT l)) ∧ Below w.heap.size w w' := by
  have hz : s.size = l.length := by rw [← hs, Lib.size_eq]
  have cl := fun w => wordLen_any s l hs hl w
  have hk := wordLen_le l
  have hb0 : Below w.heap.size w (w.alloc (.cells #[.int .i64 0, .int .i64 0, .int .i64 0, .string ⟨#[]⟩] 54)) := (Below.refl _ _).alloc (Nat.le_refl _) _
  have h0 : (w.alloc (.cells #[.int .i64 0, .int .i64 0, .int .i64 0, .string ⟨#[]⟩] 54)).heap[w.heap.size]? = some (.cells #[.int .i64 0, .int .i64 0, .int .i64 0, .string ⟨#[]⟩] 54 (0, 0)) := heap_alloc_new w _
  have hT : wordT l = if 20 < wordLen l then bad 7 else ⟨if isWordL (l.take (wordLen l)) then 2 else 1, 0, l.take (wordLen l), wordLen l, 0⟩ := rfl
  generalize wordLen l = k at *
  by_cases h20 : 20 < k
  · have HT : Hid (wordT l = bad 7) := by
      show wordT l = _
      rw [hT, if_pos h20]
    have i20 : (20 : Int) < (k : Int) := by omega
    clear hT h0
    go_enter Tryd.func58, Tryd.ntmps58
    go_wp2_with (go_at_call 44; refine (cl _).mono ?_; rintro e w' ⟨rfl, rfl⟩)
    exact tok_post (by rw [Tryd.results58, Tryd.results56]) w.heap.size (bad 7) rfl rfl rfl rfl (heap_alloc_new w _) ⟨by rw [HT.out], hb0⟩
  · rw [if_neg h20] at hT
    have i20 : ¬ (20 : Int) < (k : Int) := by omega
    have i0 : (0 : Int) ≤ (k : Int) := by omega
    have i1 : (k : Int) ≤ (l.length : Int) := by omega
    have hx : (s.extract 0 k).data.toList = l.take k := by rw [Lib.extract_data, hs]; simp
    have hxs : (s.extract 0 k).size ≤ 1000000 := by rw [Lib.size_eq, hx]; simp; omega
    have cc := fun w => clone_any (s.extract 0 k) w hxs
    have cw := fun w => isWord_any (s.extract 0 k) (l.take k) hx w
    have hba := ba_of hx
    cases hW : isWordL (l.take k) with
    | true =>
      rw [hW] at cw
      have HT : Hid (wordT l = ⟨2, 0, l.take k, k, 0⟩) := by
        show wordT l = _
        rw [hT, hW]; rfl
      have HX : Hid (s.extract 0 k = ⟨(l.take k).toArray⟩) := hba
      clear hT hW hba hx
      go_enter Tryd.func58, Tryd.ntmps58
      go_wp2_with (first
        | (go_at_call 44; refine (cl _).mono ?_; rintro e w' ⟨rfl, rfl⟩)
        | (go_at_call 68; refine (cc _).mono ?_; rintro e w1 ⟨rfl, hb1⟩; have h1 := (hb1.block _ (lt_of_block h0)).trans h0; have hbw1 := hb0.trans (hb1.mono hb0.size); clear hb1 h0 hb0)
        | (go_at_call 45; refine (cw _).mono ?_; rintro e w2 ⟨rfl, hb2⟩; have h2 := (hb2.block _ (lt_of_block h1)).trans h1; have hbw2 := hbw1.trans (hb2.mono hbw1.size); clear hb2 h1 hbw1)
        | (refine wpList_store_row rfl 54 _ _ rfl _ _ rfl rfl _ _ h2 (by kernel_rfl) (by simp) (by simp [Value.oneCell']) ?_))
      exact tok_post (by rw [Tryd.results58, Tryd.results56]) w.heap.size ⟨2, 0, l.take k, k, 0⟩ rfl rfl rfl rfl (cells_eq (setRow_heap _ _ _ _ _ _ h2) (by rw [HX.out])) ⟨by rw [HT.out], below_setRow hbw2 (Nat.le_refl _) _⟩
    | false =>
      rw [hW] at cw
      have HT : Hid (wordT l = ⟨1, 0, l.take k, k, 0⟩) := by
        show wordT l = _
        rw [hT, hW]; rfl
      have HX : Hid (s.extract 0 k = ⟨(l.take k).toArray⟩) := hba
      clear hT hW hba hx
      go_enter Tryd.func58, Tryd.ntmps58
      go_wp2_with (first
        | (go_at_call 44; refine (cl _).mono ?_; rintro e w' ⟨rfl, rfl⟩)
        | (go_at_call 68; refine (cc _).mono ?_; rintro e w1 ⟨rfl, hb1⟩; have h1 := (hb1.block _ (lt_of_block h0)).trans h0; have hbw1 := hb0.trans (hb1.mono hb0.size); clear hb1 h0 hb0)
        | (go_at_call 45; refine (cw _).mono ?_; rintro e w2 ⟨rfl, hb2⟩; have h2 := (hb2.block _ (lt_of_block h1)).trans h1; have hbw2 := hbw1.trans (hb2.mono hbw1.size); clear hb2 h1 hbw1)
        | (refine wpList_store_row rfl 54 _ _ rfl _ _ rfl rfl _ _ h2 (by kernel_rfl) (by simp) (by simp [Value.oneCell']) ?_))
      exact tok_post (by rw [Tryd.results58, Tryd.results56]) w.heap.size ⟨1, 0, l.take k, k, 0⟩ rfl rfl rfl rfl (cells_eq (setRow_heap _ _ _ _ _ _ h2) (by rw [HX.out])) ⟨by rw [HT.out], below_setRow hbw2 (Nat.le_refl _) _⟩
end Go.Proofs.YtkineofpclneaabDoor
