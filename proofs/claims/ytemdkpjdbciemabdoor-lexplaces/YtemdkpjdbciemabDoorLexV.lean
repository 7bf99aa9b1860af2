/- The law LexPlaces, walked out of the contracts. -/
import Derived.Test.YtemdkpjdbciemabDoorLexU
namespace Go.Proofs.YtemdkpjdbciemabDoor
open Go.RowKit Lx

/-- Tokens that stand where they say, one behind the other. -/
def placed (l : List UInt8) : Nat → List (T1 × Nat) → Prop
  | _, [] => True
  | e, p :: ts => e ≤ p.2 ∧ p.2 + p.1.text.length ≤ l.length ∧ p.1.text = (l.drop p.2).take p.1.text.length ∧ placed l (p.2 + max p.1.text.length 1) ts
def endT : Nat → List (T1 × Nat) → Nat
  | e, [] => e
  | _, p :: ts => endT (p.2 + max p.1.text.length 1) ts
theorem placed_snoc (l : List UInt8) (t : T1) (k : Nat) (h1 : k + t.text.length ≤ l.length) (h2 : t.text = (l.drop k).take t.text.length) : ∀ (ts : List (T1 × Nat)) (e : Nat), placed l e ts → endT e ts ≤ k → placed l e (ts ++ [(t, k)])
  | [], _, _, h => ⟨h, h1, h2, trivial⟩
  | _ :: ts, _, ⟨a1, a2, a3, a4⟩, h => ⟨a1, a2, a3, placed_snoc l t k h1 h2 ts _ a4 h⟩
theorem endT_snoc (t : T1) (k : Nat) : ∀ (ts : List (T1 × Nat)) (e : Nat), endT e (ts ++ [(t, k)]) = k + max t.text.length 1
  | [], _ => rfl
  | _ :: ts, _ => endT_snoc t k ts _
theorem lexed_placed {l : List UInt8} {ts : List (T1 × Nat)} {k : Nat} (h : Lexed l ts k) : placed l 0 ts ∧ endT 0 ts ≤ k := by
  obtain ⟨n, hn⟩ := h
  refine Lexed.ind (M := fun ts k => placed l 0 ts ∧ endT 0 ts ≤ k) ?_ ?_ n hn
  · exact ⟨trivial, by simp [endT]⟩
  · intro ts k _ hk he ih
    have f := first_fine _ (drop_pos hk) he
    have h1 := f.pos
    have h2 := f.le
    have h3 := f.tle
    simp only [List.length_drop] at h2
    refine ⟨placed_snoc l _ k (by omega) f.text ts 0 ih.1 ih.2, ?_⟩
    rw [endT_snoc]
    omega
theorem placed_at (l : List UInt8) : ∀ (ts : List (T1 × Nat)) (e j : Nat) (t : T1) (k : Nat), placed l e ts → ts[j]? = some (t, k) → endT e (ts.take j) ≤ k ∧ k + t.text.length ≤ l.length ∧ t.text = (l.drop k).take t.text.length ∧ endT e (ts.take (j + 1)) = k + max t.text.length 1
  | [], _, j, t, k, _, h => by simp at h
  | p :: ts, e, 0, t, k, ⟨a1, a2, a3, _⟩, h => by
    have : p = (t, k) := by simpa using h
    subst this
    exact ⟨by simpa [endT] using a1, a2, a3, by simp [endT]⟩
  | p :: ts, e, j + 1, t, k, ⟨_, _, _, a4⟩, h => by
    have := placed_at l ts _ j t k a4 (by simpa using h)
    simpa [endT] using this
theorem flatT_get : ∀ (ts : List (T1 × Nat)) (j : Nat) (t : T1) (k : Nat), ts[j]? = some (t, k) → (flatT ts)[j * 4]? = some (.int .i64 t.kind) ∧ (flatT ts)[j * 4 + 1]? = some (.int .i64 t.n) ∧ (flatT ts)[j * 4 + 2]? = some (.int .i64 (k : Int)) ∧ (flatT ts)[j * 4 + 3]? = some (.string ⟨t.text.toArray⟩)
  | [], j, t, k, h => by simp at h
  | p :: ts, 0, t, k, h => by
    have : p = (t, k) := by simpa using h
    subst this
    simp [flatT]
  | p :: ts, j + 1, t, k, h => by
    have := flatT_get ts j t k (by simpa using h)
    have e : (j + 1) * 4 = j * 4 + 1 + 1 + 1 + 1 := by omega
    rw [e]
    simpa [flatT] using this
theorem own_form {w : World} {base : Nat} {e : TypeId} {size : Nat} {v : Value} {n : Nat} {xs : List Value} (h : w.ownsRow base e size v n xs) : ∃ p c, v = .slice p n c := by
  obtain ⟨_, h2⟩ := h
  rcases h2 with ⟨h2, h3⟩ | ⟨g, cap, _, h2, _⟩
  · exact ⟨none, 0, by rw [h2, h3]⟩
  · exact ⟨_, cap, h2⟩

set_option maxRecDepth 10000 in
set_option maxHeartbeats 1000000 in
theorem places_walk (s : ByteArray) (hl : s.size ≤ 9223372036854775807) (w : World) (hT : CTab w) :
    Calls Tryd.prog 8 #[.string s] w fun e w' => e = .returned (.bool true) ∧ Below w.heap.size w w' := by
  obtain ⟨l, hs⟩ : ∃ l, s.data.toList = l := ⟨_, rfl⟩
  have hz : s.size = l.length := by rw [← hs, Lib.size_eq]
  rw [hz] at hl
  have cA := alive3_any w hT
  have cX := fun w hT => lex_any s l hs hl w hT
  have HT : Hid (CTab w) := hT
  clear hT
  go_enter Tryd.func8, Tryd.ntmps8
  go_wp2_with fail
  refine cA.mono ?_
  rintro e w1 ⟨rfl, hb1⟩
  go_wp2_with fail
  refine (cX _ (HT.out.later hb1)).mono ?_
  rintro e w2 ⟨⟨v, er, at_, rfl, hx⟩, hb2⟩
  have hbw2 := hb1.trans (hb2.mono hb1.size)
  clear hb1 hb2 cA cX
  rcases hx with ⟨h, rfl, rfl, rfl⟩ | ⟨ts, k, h6, hL, hk, he, rfl, rfl, rfl⟩ | ⟨ts, k, h6, hL, hk, ho, rfl, rfl⟩
  · go_wp2
    go_ret
    exact ⟨rfl, hbw2.alloc hbw2.size _⟩
  · have hne : ((firstT (l.drop k)).err != 0) = true := by simpa using he
    generalize (firstT (l.drop k)).err = er at *
    have i1 : (0 : Int) ≤ (k : Int) := by omega
    have i2 : (k : Int) ≤ (l.length : Int) := by omega
    clear he hL
    go_wp2
    go_ret
    exact ⟨rfl, hbw2.alloc hbw2.size _⟩
  · obtain ⟨p, c, rfl⟩ := own_form ho
    obtain ⟨hpl, _⟩ := lexed_placed hL
    have hle := hL.le
    have HP : Hid (placed l 0 ts) := hpl
    have HO : Hid (w2.ownsRow w1.heap.size 54 4 (.slice p ts.length c) ts.length (flatT ts)) := ho
    have htl : ts.length ≤ 6000 := by omega
    clear hpl ho hL hk
    go_wp2
    go_loopw [5, 35] (fun en i wr => ∃ j : Nat, j ≤ ts.length ∧ i = .int .i64 j ∧ en = .int .i64 (endT 0 (ts.take j) : Int) ∧ Below w2.heap.size w2 wr) (fun _ i _ => ts.length - (intOf i).toNat)
    case atStart => exact ⟨0, by omega, rfl, rfl, (Below.refl _ _).alloc (Nat.le_refl _) _⟩
    case round =>
      obtain ⟨j, hj, rfl, rfl, hbel⟩ := hrel
      by_cases hlt : j < ts.length
      · have hlt' : (j : Int) < (ts.length : Int) := by omega
        have hj0 : (0 : Int) ≤ (j : Int) := by omega
        obtain ⟨⟨t, k⟩, htk⟩ : ∃ q, ts[j]? = some q := ⟨ts[j], List.getElem?_eq_getElem hlt⟩
        obtain ⟨p1, p2, p3, p4⟩ := placed_at l ts 0 j t k HP.out htk
        obtain ⟨f0, f1, f2, f3⟩ := flatT_get ts j t k htk
        obtain ⟨g, cap, hv, hcell⟩ := own_slice HO.out (by omega)
        have ep : p = some ⟨g, 0, none⟩ := by injection hv
        subst ep
        have k0 := hcell _ _ f0
        have k1 := hcell _ _ f1
        have k2 := hcell _ _ f2
        have k3 := hcell _ _ f3
        have d0 := (hbel.cell (block_lt_of_cell k0)).trans k0
        have d1 := (hbel.cell (block_lt_of_cell k1)).trans k1
        have d2 := (hbel.cell (block_lt_of_cell k2)).trans k2
        have d3 := (hbel.cell (block_lt_of_cell k3)).trans k3
        have P4 : Hid (endT 0 (ts.take (j + 1)) = k + max t.text.length 1) := p4
        have hxs : (⟨t.text.toArray⟩ : ByteArray).size = t.text.length := by rw [Lib.size_eq]
        have hxe : ((s.extract k (k + t.text.length)).toList == (⟨t.text.toArray⟩ : ByteArray).toList) = true := by
          rw [Lib.toList_data, Lib.toList_data, Lib.extract_data, hs, show k + t.text.length - k = t.text.length by omega]
          show ((l.drop k).take t.text.length == t.text) = true
          rw [← p3]; exact beq_self_eq_true _
        have hxn : ((s.extract k (k + t.text.length)).toList != (⟨t.text.toArray⟩ : ByteArray).toList) = false := by simp only [bne, hxe]; rfl
        have hxt : ((s.extract k ((k : Int) + (t.text.length : Int)).toNat).toList == (⟨t.text.toArray⟩ : ByteArray).toList) = true := by
          rw [show ((k : Int) + (t.text.length : Int)).toNat = k + t.text.length by omega]; exact hxe
        generalize (⟨t.text.toArray⟩ : ByteArray) = x at *
        generalize t.text.length = n at *
        generalize endT 0 (ts.take j) = en at *
        have i1 : decide ((k : Int) < (en : Int)) = false := by simp; omega
        have i2 : decide ((l.length : Int) < (k : Int) + (n : Int)) = false := by simp; omega
        have i3 : (0 : Int) ≤ (k : Int) := by omega
        have i4 : (k : Int) ≤ (k : Int) + (n : Int) := by omega
        have i5 : (k : Int) + (n : Int) ≤ (l.length : Int) := by omega
        have q1 : IntKind.i64.wrap ((k : Int) + (n : Int)) = (k : Int) + (n : Int) := by rw [IntKind.wrap_i64]; omega
        have hbA := hbel.alloc hbel.size (.cells #[.int .i64 t.kind, .int .i64 t.n, .int .i64 (k : Int), .string x] 54)
        clear p3 p4 f0 f1 f2 f3 hv hcell k0 k1 k2 k3 htk HO HP hxe
        go_wp2
        go_quiet (fail)
        have HQ : Hid (k + n ≤ l.length) := p2
        have n1 : decide (k < en) = false := by simp; omega
        have n2 : decide (l.length < k + n) = false := by simp; omega
        have n3 : ¬ k < en := by omega
        have n4 : ¬ l.length < k + n := by omega
        go_wp2
        have hq2 := HQ.out
        go_roundw
        case rel =>
          refine ⟨j + 1, by omega, by go_num, ?_, below_drewN hbA _⟩
          rw [P4.out]
          refine i64_eq ?_
          omega
        case measure => simp [intOf]; omega
      · have hkl : j = ts.length := by omega
        subst hkl
        have hbw3 := hbw2.trans (hbel.mono hbw2.size)
        go_wp2
        go_ret
        exact ⟨rfl, hbw3⟩
end Go.Proofs.YtemdkpjdbciemabDoor
