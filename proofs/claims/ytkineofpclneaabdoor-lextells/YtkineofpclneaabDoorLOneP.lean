/- What the document's answer tells of one token, in plain words: the forms of dates and times by digits and signs. -/
import Derived.Test.YtkineofpclneaabDoorLRefB
import Derived.Test.YtkineofpclneaabDoorCRef
namespace Go.Proofs.YtkineofpclneaabDoor
open Go.RowKit Lx

theorem dig_iff (l : List UInt8) (k n : Nat) : (digL l k n).2 = true ↔ (k + n ≤ l.length ∧ ∀ i, i < n → isD (l.getD (k + i) 0) = true) := by
  unfold digL
  split
  · rename_i h; simp only [true_iff]; exact h
  · rename_i h; simp only [Bool.false_eq_true, false_iff]; exact h
theorem dig_val {l : List UInt8} {k n : Nat} (h : (digL l k n).2 = true) : (digL l k n).1 = valL ((l.drop k).take n) := by
  have := (dig_iff l k n).1 h
  unfold digL
  rw [if_pos this]
theorem atB_iff (l : List UInt8) (k c : Nat) : atB l k c = true ↔ (k < l.length ∧ (l.getD k 0).toNat = c) := by
  unfold atB; simp
theorem getD_drop (l : List UInt8) (k i : Nat) : (l.drop k).getD i 0 = l.getD (k + i) 0 := by
  rw [List.getD_eq_getElem?_getD, List.getD_eq_getElem?_getD, List.getElem?_drop]
theorem date_bools (l : List UInt8) (k : Nat) : fitsL (l.drop k) dateF = ((digL l k 4).2 && ((digL l (k + 5) 2).2 && ((digL l (k + 8) 2).2 && (atB l (k + 4) 45 && atB l (k + 7) 45)))) := by
  rw [Bool.eq_iff_iff]
  simp only [Bool.and_eq_true, dig_iff, atB_iff]
  constructor
  · intro h
    obtain ⟨h1, h2⟩ := fitsL_at h
    have h10 : 10 ≤ l.length - k := by simpa [dateF] using h1
    have g : ∀ i, i < 10 → okB (dateF.getD i 0) (l.getD (k + i) 0) = true := fun i hi => by rw [← getD_drop]; exact h2 i hi
    have g0 := g 0 (by omega)
    have g1 := g 1 (by omega)
    have g2 := g 2 (by omega)
    have g3 := g 3 (by omega)
    have g4 := g 4 (by omega)
    have g5 := g 5 (by omega)
    have g6 := g 6 (by omega)
    have g7 := g 7 (by omega)
    have g8 := g 8 (by omega)
    have g9 := g 9 (by omega)
    simp [okB, dateF] at g0 g1 g2 g3 g4 g5 g6 g7 g8 g9
    refine ⟨⟨by omega, fun i hi => ?_⟩, ⟨by omega, fun i hi => ?_⟩, ⟨by omega, fun i hi => ?_⟩, ⟨by omega, ?_⟩, ⟨by omega, ?_⟩⟩
    · match i, hi with
      | 0, _ => simpa using g0
      | 1, _ => simpa using g1
      | 2, _ => simpa using g2
      | 3, _ => simpa using g3
    · match i, hi with
      | 0, _ => simpa using g5
      | 1, _ => simpa using g6
    · match i, hi with
      | 0, _ => simpa using g8
      | 1, _ => simpa using g9
    · simpa using g4.symm
    · simpa using g7.symm
  · rintro ⟨⟨a1, a2⟩, ⟨b1, b2⟩, ⟨c1, c2⟩, ⟨d1, d2⟩, ⟨e1, e2⟩⟩
    refine fitsL_yes (by simp [dateF]; omega) fun i hi => ?_
    rw [getD_drop]
    match i, hi with
    | 0, _ => simpa [okB, dateF] using a2 0 (by omega)
    | 1, _ => simpa [okB, dateF] using a2 1 (by omega)
    | 2, _ => simpa [okB, dateF] using a2 2 (by omega)
    | 3, _ => simpa [okB, dateF] using a2 3 (by omega)
    | 4, _ => simpa [okB, dateF] using d2.symm
    | 5, _ => simpa [okB, dateF] using b2 0 (by omega)
    | 6, _ => simpa [okB, dateF] using b2 1 (by omega)
    | 7, _ => simpa [okB, dateF] using e2.symm
    | 8, _ => simpa [okB, dateF] using c2 0 (by omega)
    | 9, _ => simpa [okB, dateF] using c2 1 (by omega)
theorem time_bools (l : List UInt8) (k : Nat) : fitsL (l.drop k) timeF = ((digL l k 2).2 && ((digL l (k + 3) 2).2 && atB l (k + 2) 58)) := by
  rw [Bool.eq_iff_iff]
  simp only [Bool.and_eq_true, dig_iff, atB_iff]
  constructor
  · intro h
    obtain ⟨h1, h2⟩ := fitsL_at h
    have h10 : 5 ≤ l.length - k := by simpa [timeF] using h1
    have g : ∀ i, i < 5 → okB (timeF.getD i 0) (l.getD (k + i) 0) = true := fun i hi => by rw [← getD_drop]; exact h2 i hi
    have g0 := g 0 (by omega)
    have g1 := g 1 (by omega)
    have g2 := g 2 (by omega)
    have g3 := g 3 (by omega)
    have g4 := g 4 (by omega)
    simp [okB, timeF] at g0 g1 g2 g3 g4
    refine ⟨⟨by omega, fun i hi => ?_⟩, ⟨by omega, fun i hi => ?_⟩, ⟨by omega, ?_⟩⟩
    · match i, hi with
      | 0, _ => simpa using g0
      | 1, _ => simpa using g1
    · match i, hi with
      | 0, _ => simpa using g3
      | 1, _ => simpa using g4
    · simpa using g2.symm
  · rintro ⟨⟨a1, a2⟩, ⟨b1, b2⟩, ⟨d1, d2⟩⟩
    refine fitsL_yes (by simp [timeF]; omega) fun i hi => ?_
    rw [getD_drop]
    match i, hi with
    | 0, _ => simpa [okB, timeF] using a2 0 (by omega)
    | 1, _ => simpa [okB, timeF] using a2 1 (by omega)
    | 2, _ => simpa [okB, timeF] using d2.symm
    | 3, _ => simpa [okB, timeF] using b2 0 (by omega)
    | 4, _ => simpa [okB, timeF] using b2 1 (by omega)
theorem rnum_any (y m d : Int) (w : World) :
    Calls Tryd.prog 62 #[.agg #[.int .i64 y, .int .i64 m, .int .i64 d]] w fun e w' => e = .returned (.tuple #[.int .i64 (numE y m d).1, .int .i64 (numE y m d).2]) ∧ Below w.heap.size w w' := by
  unfold numE
  by_cases h : 1 ≤ d ∧ d ≤ Cal.dim y m
  · rw [if_pos h]; exact rnumber_yes y m d w h.1 h.2
  · rw [if_neg h]; exact rnumber_no y m d w (by omega)
/-- What One hands back of a token that is told. -/
def OneTells (F : T1) (k : Nat) (e : Ending) : Prop := ∃ (a b c en : Int) (x : ByteArray), e = .returned (.tuple #[.agg #[.int .i64 a, .int .i64 b, .int .i64 c, .string x], .int .i64 en, .int .i64 F.err]) ∧ (F.err = 0 → a = F.kind ∧ b = F.n ∧ c = (k : Int) ∧ x = ⟨F.text.toArray⟩ ∧ en = ((k + F.len : Nat) : Int))
theorem one_post {R : Ending → World → Prop} {a : Act} {w : World} (g : Nat) (c0 c1 c2 en er : Int) (x : ByteArray) (hd : a.defers = []) (h4 : a.tmps.getD 4 undef = .pointer (some ⟨g, 0, none⟩))
    (h5 : a.tmps.getD 5 undef = .int .i64 en) (h6 : a.tmps.getD 6 undef = .int .i64 er) (hg : w.heap[g]? = some (.cells #[.int .i64 c0, .int .i64 c1, .int .i64 c2, .string x] 54 (0, 0)))
    (hR : R (.returned (.tuple #[.agg #[.int .i64 c0, .int .i64 c1, .int .i64 c2, .string x], .int .i64 en, .int .i64 er])) w) : bodyPost Tryd.prog Tryd.f43 R .ret a w := by
  refine bodyPost_ret (v := .tuple #[.agg #[.int .i64 c0, .int .i64 c1, .int .i64 c2, .string x], .int .i64 en, .int .i64 er]) ?_ hd hR
  have h4' : a.tmps[4]?.getD undef = .pointer (some ⟨g, 0, none⟩) := by simpa using h4
  have h5' : a.tmps[5]?.getD undef = .int .i64 en := by simpa using h5
  have h6' : a.tmps[6]?.getD undef = .int .i64 er := by simpa using h6
  have hv := run_loadVar_row (P := Tryd.prog) w g 54 54 _ _ _ hg tokType rfl (by kernel_rfl)
  simp [results, Tryd.results43, h4', h5', h6', asAddr, hv]
end Go.Proofs.YtkineofpclneaabDoor
