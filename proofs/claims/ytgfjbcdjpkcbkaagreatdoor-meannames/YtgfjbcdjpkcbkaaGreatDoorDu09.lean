/- What kidsOf, inRange and wrongAlone come to. -/
import Derived.Test.YtgfjbcdjpkcbkaaGreatDoorDu07
import Derived.Test.YtgfjbcdjpkcbkaaGreatDoorDu08
import Derived.Deep.QuietTactic
import Derived.BigQuiet
namespace Go.Proofs.YtgfjbcdjpkcbkaaGreatDoor
open Go.RowKit Lx
theorem kidsOf_any (k : Int) (w : World) : Calls Tryz.prog 80 #[.int .i64 k] w fun e w' => e = .returned (.int .i64 (kidsP k : Int)) ∧ w' = w := by
  have walk : ∀ (b4 b5 b9 b6 b7 b8 : Bool), (k == 4) = b4 → (k == 5) = b5 → (k == 9) = b9 → (k == 6) = b6 → (k == 7) = b7 → (k == 8) = b8 →
      Calls Tryz.prog 80 #[.int .i64 k] w fun e w' => e = .returned (.int .i64 (if b4 || (b5 || b9) then 1 else if b6 || (b7 || b8) then 2 else 0)) ∧ w' = w := by
    intro b4 b5 b9 b6 b7 b8 h4 h5 h9 h6 h7 h8
    cases b4 <;> cases b5 <;> cases b9 <;> cases b6 <;> cases b7 <;> cases b8 <;> (go_enter Tryz.func80, Tryz.ntmps80; go_wp2; go_ret; exact ⟨rfl, rfl⟩)
  refine (walk _ _ _ _ _ _ rfl rfl rfl rfl rfl rfl).mono ?_
  rintro e w' ⟨rfl, rfl⟩
  refine ⟨?_, rfl⟩
  unfold kidsP
  simp only [Bool.or_eq_true, beq_iff_eq]
  by_cases c1 : k = 4 ∨ k = 5 ∨ k = 9
  · rw [if_pos c1, if_pos c1]; rfl
  · rw [if_neg c1, if_neg c1]
    by_cases c2 : k = 6 ∨ k = 7 ∨ k = 8
    · rw [if_pos c2, if_pos c2]; rfl
    · rw [if_neg c2, if_neg c2]; rfl
end Go.Proofs.YtgfjbcdjpkcbkaaGreatDoor

/- What inRange comes to. -/
namespace Go.Proofs.YtgfjbcdjpkcbkaaGreatDoor
open Go.RowKit Lx
set_option maxRecDepth 100000 in
theorem inRange_any (k a b : Int) (nm : ByteArray) (p : Option Addr) (n c : Nat) (w : World) : Calls Tryz.prog 81 #[.agg #[.int .i64 k, .int .i64 a, .int .i64 b, .string nm, .slice p n c]] w fun e w' => e = .returned (.bool (rangeP k a b)) ∧ Below w.heap.size w w' := by
  have hb : Below w.heap.size w (w.alloc (.cells #[.int .i64 k, .int .i64 a, .int .i64 b, .string nm, .slice p n c] 31)) := (Below.refl _ _).alloc (Nat.le_refl _) _
  unfold rangeP
  by_cases h3 : k = 3
  · subst h3
    rw [if_pos rfl]
    by_cases c1 : 0 ≤ a
    · by_cases c2 : a < b
      · by_cases c3 : b ≤ 1440
        · go_enter Tryz.func81, Tryz.ntmps81
          go_wp2
          go_ret
          exact ⟨by first | (simp; done) | (simp; omega), hb⟩
        · go_enter Tryz.func81, Tryz.ntmps81
          go_wp2
          go_ret
          exact ⟨by first | (simp; done) | (simp; omega), hb⟩
      · go_enter Tryz.func81, Tryz.ntmps81
        go_wp2
        go_ret
        exact ⟨by first | (simp; done) | (simp; omega), hb⟩
    · go_enter Tryz.func81, Tryz.ntmps81
      go_wp2
      go_ret
      exact ⟨by first | (simp; done) | (simp; omega), hb⟩
  rw [if_neg h3]
  have i3 : (k == 3) = false := beq_eq_false_iff_ne.2 h3
  by_cases h4 : k = 4
  · subst h4
    rw [if_pos rfl]
    by_cases c1 : 1 ≤ a
    · by_cases c2 : a < 128
      · go_enter Tryz.func81, Tryz.ntmps81
        go_wp2
        go_ret
        exact ⟨by first | (simp; done) | (simp; omega), hb⟩
      · go_enter Tryz.func81, Tryz.ntmps81
        go_wp2
        go_ret
        exact ⟨by first | (simp; done) | (simp; omega), hb⟩
    · go_enter Tryz.func81, Tryz.ntmps81
      go_wp2
      go_ret
      exact ⟨by first | (simp; done) | (simp; omega), hb⟩
  rw [if_neg h4]
  have i4 : (k == 4) = false := beq_eq_false_iff_ne.2 h4
  by_cases h5 : k = 5
  · subst h5
    rw [if_pos rfl]
    by_cases c1 : 0 ≤ a
    · by_cases c2 : a ≤ b
      · by_cases c3 : b < 146097
        · go_enter Tryz.func81, Tryz.ntmps81
          go_wp2
          go_ret
          exact ⟨by first | (simp; done) | (simp; omega), hb⟩
        · go_enter Tryz.func81, Tryz.ntmps81
          go_wp2
          go_ret
          exact ⟨by first | (simp; done) | (simp; omega), hb⟩
      · go_enter Tryz.func81, Tryz.ntmps81
        go_wp2
        go_ret
        exact ⟨by first | (simp; done) | (simp; omega), hb⟩
    · go_enter Tryz.func81, Tryz.ntmps81
      go_wp2
      go_ret
      exact ⟨by first | (simp; done) | (simp; omega), hb⟩
  rw [if_neg h5]
  have i5 : (k == 5) = false := beq_eq_false_iff_ne.2 h5
  by_cases h9 : k = 9
  · subst h9
    rw [if_pos rfl]
    by_cases c1 : a = 0
    · subst c1
      go_enter Tryz.func81, Tryz.ntmps81
      go_wp2
      go_ret
      exact ⟨by first | (simp; done) | (simp; omega), hb⟩
    · have n1 : (a != 0) = true := by simpa using c1
      by_cases c2 : -1440 < a
      · by_cases c3 : a < 1440
        · go_enter Tryz.func81, Tryz.ntmps81
          go_wp2
          go_ret
          exact ⟨by first | (simp; done) | (simp; omega), hb⟩
        · go_enter Tryz.func81, Tryz.ntmps81
          go_wp2
          go_ret
          exact ⟨by first | (simp; done) | (simp; omega), hb⟩
      · go_enter Tryz.func81, Tryz.ntmps81
        go_wp2
        go_ret
        exact ⟨by first | (simp; done) | (simp; omega), hb⟩
  rw [if_neg h9]
  have i9 : (k == 9) = false := beq_eq_false_iff_ne.2 h9
  go_enter Tryz.func81, Tryz.ntmps81
  go_wp2
  go_ret
  exact ⟨rfl, hb⟩
end Go.Proofs.YtgfjbcdjpkcbkaaGreatDoor

/- What can be a name, of whatever length: the program's. -/
namespace Go.Proofs.YtgfjbcdjpkcbkaaGreatDoor
open Go.RowKit Lx
set_option maxRecDepth 10000 in
theorem named_big (s : ByteArray) (l : List UInt8) (hs : s.data.toList = l) (hl : l.length ≤ 9223372036854775807) (w : World) :
    Calls Tryz.prog 42 #[.string s] w fun e w' => e = .returned (.bool (namedL l)) ∧ Below w.heap.size w w' := by
  by_cases h20 : l.length ≤ 20
  · exact named_any s l hs (by omega) w
  · have hz : s.size = l.length := by rw [← hs, Lib.size_eq]
    have hq : s.toList.isEmpty = false := by rw [Lib.toList_data, hs]; cases l <;> simp at h20 ⊢
    have i20 : ¬ (l.length : Int) ≤ 20 := by omega
    have HN : Hid (namedL l = false) := by show namedL l = false; simp [namedL, h20]
    clear h20
    go_enter Tryz.func42, Tryz.ntmps42
    go_wp2_with fail
    go_ret
    exact ⟨by rw [HN.out]; rfl, Below.refl _ _⟩
end Go.Proofs.YtgfjbcdjpkcbkaaGreatDoor

/- What wrongAlone comes to. -/
namespace Go.Proofs.YtgfjbcdjpkcbkaaGreatDoor
open Go.RowKit Lx
set_option maxRecDepth 100000 in
set_option maxHeartbeats 1000000 in
theorem alone_any (e : Ex) (p : Option Addr) (c : Nat) (hnm : e.name.length ≤ 9223372036854775807) (w : World) : Calls Tryz.prog 58 #[exV e (.slice p e.kids.length c)] w fun r w' => r = .returned (.int .i64 (aloneP e)) ∧ Below w.heap.size w w' := by
  have hb : Below w.heap.size w (w.alloc (.cells #[.int .i64 e.kind, .int .i64 e.a, .int .i64 e.b, .string ⟨e.name.toArray⟩, .slice p e.kids.length c] 31)) := (Below.refl _ _).alloc (Nat.le_refl _) _
  have hx := heap_alloc_new w (.cells #[.int .i64 e.kind, .int .i64 e.a, .int .i64 e.b, .string ⟨e.name.toArray⟩, .slice p e.kids.length c] 31)
  have cK := fun w => kidsOf_any e.kind w
  have cR := fun w => inRange_any e.kind e.a e.b ⟨e.name.toArray⟩ p e.kids.length c w
  have cN := fun w => named_big ⟨e.name.toArray⟩ e.name rfl hnm w
  unfold aloneP exV
  generalize kidsP e.kind = kp at *
  generalize rangeP e.kind e.a e.b = rp at *
  generalize namedL e.name = nb at *
  generalize e.kind = k at *
  generalize e.a = a at *
  generalize e.b = b at *
  generalize (⟨e.name.toArray⟩ : ByteArray) = nm at *
  generalize e.kids.length = n at *
  clear hnm
  generalize hA : (if k < 1 ∨ 10 < k then (1 : Int) else if n ≠ kp then 5 else if rp = false then 3 else if k = 10 ∧ nb = false then 7 else 0) = A
  have HA : Hid ((if k < 1 ∨ 10 < k then (1 : Int) else if n ≠ kp then 5 else if rp = false then 3 else if k = 10 ∧ nb = false then 7 else 0) = A) := hA
  clear hA
  by_cases c1 : k < 1
  · have HE : Hid (A = 1) := by show _ = _; rw [← HA.out, if_pos (.inl c1)]
    go_enter Tryz.func58, Tryz.ntmps58
    go_wp2_with fail
    go_ret
    exact ⟨by rw [HE.out]; rfl, hb⟩
  by_cases c2 : 10 < k
  · have HE : Hid (A = 1) := by show _ = _; rw [← HA.out, if_pos (.inr c2)]
    go_enter Tryz.func58, Tryz.ntmps58
    go_wp2_with fail
    go_ret
    exact ⟨by rw [HE.out]; rfl, hb⟩
  have hk : ¬ (k < 1 ∨ 10 < k) := by omega
  have HK : Hid (¬ (k < 1 ∨ 10 < k)) := hk
  clear hk
  have k0 := (cell_of_row _ _ 0 _ _ _ hx).trans rfl
  have k3 := (cell_of_row _ _ 3 _ _ _ hx).trans rfl
  have k4 := (cell_of_row _ _ 4 _ _ _ hx).trans rfl
  generalize hw1 : w.alloc (.cells #[.int .i64 k, .int .i64 a, .int .i64 b, .string nm, .slice p n c] 31) = w1 at *
  by_cases c3 : n = kp
  · have n3 : ((n : Int) != (kp : Int)) = false := by simp; omega
    have HN : Hid (¬ n ≠ kp) := fun h => h c3
    clear c3
    go_enter Tryz.func58, Tryz.ntmps58
    go_wp2_with fail
    go_quiet ((go_at_call 80; exact Calls.quiet_of_same (cK _)))
    have hx2 : (w1.drewN nq).heap[w.heap.size]? = some (.cells #[.int .i64 k, .int .i64 a, .int .i64 b, .string nm, .slice p n c] 31 (0, 0)) := hx
    have k02 : (w1.drewN nq).cell? ⟨w.heap.size, 0, none⟩ = some (.int .i64 k) := k0
    have k32 : (w1.drewN nq).cell? ⟨w.heap.size, 3, none⟩ = some (.string nm) := k3
    have hb2 := below_drewN hb nq
    clear hx k0 k3 k4 hw1 hb cK
    generalize w1.drewN nq = w2 at *
    cases rp with
    | false =>
      have HE : Hid (A = 3) := by show _ = _; rw [← HA.out, if_neg HK.out, if_neg HN.out, if_pos rfl]
      go_wp2_with (refine wpList_load_row rfl 31 _ rfl _ rfl _ _ _ _ hx2 exprType rfl (by kernel_rfl) ?_)
      refine (cR _).mono ?_
      rintro r w3 ⟨rfl, hb3⟩
      have hb3w := hb2.trans (hb3.mono hb2.size)
      go_wp2_with fail
      go_ret
      exact ⟨by rw [HE.out]; rfl, hb3w⟩
    | true =>
      go_wp2_with (refine wpList_load_row rfl 31 _ rfl _ rfl _ _ _ _ hx2 exprType rfl (by kernel_rfl) ?_)
      refine (cR _).mono ?_
      rintro r w3 ⟨rfl, hb3⟩
      have hb3w := hb2.trans (hb3.mono hb2.size)
      have q0 := (hb3.cell (block_lt_of_cell k02)).trans k02
      have q3 := (hb3.cell (block_lt_of_cell k32)).trans k32
      clear cR hx2 k02 k32 hb3
      by_cases c5 : k = 10
      · have i5 : (k == 10) = true := by simpa using c5
        cases nb with
        | false =>
          have HE : Hid (A = 7) := by show _ = _; rw [← HA.out, if_neg HK.out, if_neg HN.out, if_neg (by decide), if_pos ⟨c5, rfl⟩]
          go_wp2_with fail
          refine (cN _).mono ?_
          rintro r w4 ⟨rfl, hb4⟩
          have hb4w := hb3w.trans (hb4.mono hb3w.size)
          go_wp2_with fail
          go_ret
          exact ⟨by rw [HE.out]; rfl, hb4w⟩
        | true =>
          have HE : Hid (A = 0) := by show _ = _; rw [← HA.out, if_neg HK.out, if_neg HN.out, if_neg (by decide), if_neg (by simp)]
          go_wp2_with fail
          refine (cN _).mono ?_
          rintro r w4 ⟨rfl, hb4⟩
          have hb4w := hb3w.trans (hb4.mono hb3w.size)
          go_wp2_with fail
          go_ret
          exact ⟨by rw [HE.out]; rfl, hb4w⟩
      · have i5 : (k == 10) = false := by simpa using c5
        have HE : Hid (A = 0) := by show _ = _; rw [← HA.out, if_neg HK.out, if_neg HN.out, if_neg (by decide), if_neg (fun h => c5 h.1)]
        go_wp2_with fail
        go_ret
        exact ⟨by rw [HE.out]; rfl, hb3w⟩
  · have n3 : ((n : Int) != (kp : Int)) = true := by simp; omega
    have HE : Hid (A = 5) := by show _ = _; rw [← HA.out, if_neg HK.out, if_pos c3]
    go_enter Tryz.func58, Tryz.ntmps58
    go_wp2_with fail
    go_quiet ((go_at_call 80; exact Calls.quiet_of_same (cK _)))
    have hb2 := below_drewN hb nq
    go_wp2_with fail
    go_ret
    exact ⟨by rw [HE.out]; rfl, hb2⟩
end Go.Proofs.YtgfjbcdjpkcbkaaGreatDoor

/- What wrongExpr comes to: what is wrong with an expression, counted on. -/
namespace Go.Proofs.YtgfjbcdjpkcbkaaGreatDoor
open Go.RowKit Lx
variable {B : Nat → Prop} {gn : Nat}
def KidsB (B : Nat → Prop) : Nat → World → Value → List Ex → Prop
  | 0, _, sl, ks => ks = [] ∧ ∃ p c, sl = .slice p 0 c
  | d + 1, w, sl, ks => (ks = [] ∧ ∃ p c, sl = .slice p 0 c) ∨ ∃ g o c : Nat, B g ∧ sl = .slice (some ⟨g, o, none⟩) ks.length c ∧ ks.length < 9223372036854775808 ∧ ∀ (j : Nat) (k : Ex), ks[j]? = some k → k.name.length ≤ 9223372036854775807 ∧ ∃ sk : Value,
      w.cell? ⟨g, o + j * 5, none⟩ = some (.int .i64 k.kind) ∧ w.cell? ⟨g, o + j * 5 + 1, none⟩ = some (.int .i64 k.a) ∧ w.cell? ⟨g, o + j * 5 + 2, none⟩ = some (.int .i64 k.b) ∧
      w.cell? ⟨g, o + j * 5 + 3, none⟩ = some (.string ⟨k.name.toArray⟩) ∧ w.cell? ⟨g, o + j * 5 + 4, none⟩ = some sk ∧ KidsB B d w sk k.kids
theorem KidsB.kept {w w' : World} (hw : ∀ g, B g → g < w.heap.size → w'.heap[g]? = w.heap[g]?) : ∀ {d : Nat} {sl : Value} {ks : List Ex}, KidsB B d w sl ks → KidsB B d w' sl ks
  | 0, _, _, h => h
  | d + 1, sl, ks, h => by
    rcases h with h | ⟨g, o, c, hB, hs, hl, hk⟩
    · exact .inl h
    · refine .inr ⟨g, o, c, hB, hs, hl, fun j k hj => ?_⟩
      obtain ⟨hn, sk, c0, c1, c2, c3, c4, r⟩ := hk j k hj
      have e : w'.heap[g]? = w.heap[g]? := hw g hB (block_lt_of_cell c0)
      have ce : ∀ i, w'.cell? ⟨g, i, none⟩ = w.cell? ⟨g, i, none⟩ := fun i => World.cell?_of_block e
      exact ⟨hn, sk, (ce _).trans c0, (ce _).trans c1, (ce _).trans c2, (ce _).trans c3, (ce _).trans c4, KidsB.kept hw r⟩
theorem KidsB.mono {B' : Nat → Prop} (hB : ∀ g, B g → B' g) : ∀ {d : Nat} {w : World} {sl : Value} {ks : List Ex}, KidsB B d w sl ks → KidsB B' d w sl ks
  | 0, _, _, _, h => h
  | d + 1, w, sl, ks, h => by
    rcases h with h | ⟨g, o, c, hg, hs, hl, hk⟩
    · exact .inl h
    · refine .inr ⟨g, o, c, hB g hg, hs, hl, fun j k hj => ?_⟩
      obtain ⟨hn, sk, c0, c1, c2, c3, c4, r⟩ := hk j k hj
      exact ⟨hn, sk, c0, c1, c2, c3, c4, KidsB.mono hB r⟩
theorem KidsB.form {d : Nat} {w : World} {sl : Value} {ks : List Ex} (h : KidsB B d w sl ks) : ∃ p c, sl = .slice p ks.length c := by
  cases d with
  | zero =>
    obtain ⟨rfl, p, c, rfl⟩ := h
    exact ⟨p, c, rfl⟩
  | succ d =>
    rcases h with ⟨rfl, p, c, rfl⟩ | ⟨g, o, c, _, hs, _⟩
    · exact ⟨p, c, rfl⟩
    · exact ⟨_, c, hs⟩
def CntAt (w : World) (gn n : Nat) : Prop := w.heap[gn]? = some (.cells #[.int .i64 (n : Int)] 3 (0, 0))
def OutN (gn : Nat) (w : World) (x : Int × Nat) (r : Ending) (w' : World) : Prop := r = .returned (.int .i64 x.1) ∧ CntAt w' gn x.2 ∧ Kept gn w w'
def KidsC (f : FuncId) (gn : Nat) (w : World) (sl : Value) (ks : List Ex) : Prop :=
  ∃ g o c : Nat, sl = .slice (some ⟨g, o, none⟩) ks.length c ∧ g ≠ gn ∧ ks.length < 9223372036854775808 ∧ ∀ (j : Nat) (k : Ex), ks[j]? = some k → ∃ (p : Option Addr) (q : Nat),
    w.cell? ⟨g, o + j * 5, none⟩ = some (.int .i64 k.kind) ∧ w.cell? ⟨g, o + j * 5 + 1, none⟩ = some (.int .i64 k.a) ∧ w.cell? ⟨g, o + j * 5 + 2, none⟩ = some (.int .i64 k.b) ∧
    w.cell? ⟨g, o + j * 5 + 3, none⟩ = some (.string ⟨k.name.toArray⟩) ∧ w.cell? ⟨g, o + j * 5 + 4, none⟩ = some (.slice p k.kids.length q) ∧
    ∀ (W : World) (deep n : Nat), Kept gn w W → CntAt W gn n → n ≤ 600 → deep ≤ 41 → Calls Tryz.prog f #[.agg #[.int .i64 k.kind, .int .i64 k.a, .int .i64 k.b, .string ⟨k.name.toArray⟩, .slice p k.kids.length q], .int .i64 (deep : Int), .pointer (some ⟨gn, 0, none⟩)] W (OutN gn W (shapeP k deep n))
theorem shape_all (f : FuncId) (hB : ∀ k, B k → k ≠ gn)
    (step : ∀ (e : Ex) (p : Option Addr) (c : Nat) (w : World) (deep n : Nat), (e.kids = [] ∨ KidsC f gn w (.slice p e.kids.length c) e.kids) → e.name.length ≤ 9223372036854775807 → CntAt w gn n → n ≤ 600 → deep ≤ 41 → Calls Tryz.prog f #[.agg #[.int .i64 e.kind, .int .i64 e.a, .int .i64 e.b, .string ⟨e.name.toArray⟩, .slice p e.kids.length c], .int .i64 (deep : Int), .pointer (some ⟨gn, 0, none⟩)] w (OutN gn w (shapeP e deep n))) :
    ∀ (d : Nat) (e : Ex) (sl : Value) (w : World) (deep n : Nat), KidsB B d w sl e.kids → e.name.length ≤ 9223372036854775807 → CntAt w gn n → n ≤ 600 → deep ≤ 41 → Calls Tryz.prog f #[exV e sl, .int .i64 (deep : Int), .pointer (some ⟨gn, 0, none⟩)] w (OutN gn w (shapeP e deep n)) := by
  intro d
  induction d with
  | zero =>
    intro e sl w deep n hk hn hc h6 hd
    obtain ⟨p, c, rfl⟩ := hk.form
    exact step e p c w deep n (.inl hk.1) hn hc h6 hd
  | succ d ih =>
    intro e sl w deep n hk hn hc h6 hd
    obtain ⟨p, c, hsl⟩ := hk.form
    subst hsl
    refine step e p c w deep n ?_ hn hc h6 hd
    rcases hk with ⟨h, _⟩ | ⟨g, o, c', hg, hs, hl, hkid⟩
    · exact .inl h
    · refine .inr ⟨g, o, c', hs, hB g hg, hl, fun j k hj => ?_⟩
      obtain ⟨hn', sk, c0, c1, c2, c3, c4, r⟩ := hkid j k hj
      obtain ⟨p', q', rfl⟩ := r.form
      exact ⟨p', q', c0, c1, c2, c3, c4, fun W deep n hK hC h6 hd => ih k _ W deep n (r.kept fun g' hg' hl' => hK.block g' hl' (fun e => hB g' hg' (Option.some.inj e))) hn' hC h6 hd⟩
set_option maxRecDepth 100000 in
set_option maxHeartbeats 2000000 in
theorem wexpr_step (e : Ex) (p : Option Addr) (c : Nat) (w : World) (deep n : Nat) (hk : e.kids = [] ∨ KidsC 43 gn w (.slice p e.kids.length c) e.kids) (hn : e.name.length ≤ 9223372036854775807) (hc : CntAt w gn n) (h6 : n ≤ 600) (hd : deep ≤ 41) :
    Calls Tryz.prog 43 #[.agg #[.int .i64 e.kind, .int .i64 e.a, .int .i64 e.b, .string ⟨e.name.toArray⟩, .slice p e.kids.length c], .int .i64 (deep : Int), .pointer (some ⟨gn, 0, none⟩)] w (OutN gn w (shapeP e deep n)) := by
  have hgl := lt_of_block hc
  have hbA := (Below.refl w.heap.size w).alloc (Nat.le_refl _) (.cells #[.int .i64 e.kind, .int .i64 e.a, .int .i64 e.b, .string ⟨e.name.toArray⟩, .slice p e.kids.length c] 31)
  have hxA := heap_alloc_new w (.cells #[.int .i64 e.kind, .int .i64 e.a, .int .i64 e.b, .string ⟨e.name.toArray⟩, .slice p e.kids.length c] 31)
  have hcA := (hbA.block _ hgl).trans hc
  generalize hwA : w.alloc (.cells #[.int .i64 e.kind, .int .i64 e.a, .int .i64 e.b, .string ⟨e.name.toArray⟩, .slice p e.kids.length c] 31) = wA at *
  have z0 := (cell_of_row _ _ 0 _ _ _ hcA).trans rfl
  have y0 := frozen_of_row _ _ 0 _ _ hcA
  have hc1 : (wA.setCell ⟨gn, 0, none⟩ (.int .i64 ((n + 1 : Nat) : Int))).heap[gn]? = some (.cells #[.int .i64 ((n + 1 : Nat) : Int)] 3 (0, 0)) := heap_setCell_same _ _ 0 _ _ _ hcA
  have hx1 := (heap_setCell_other wA ⟨gn, 0, none⟩ w.heap.size (.int .i64 ((n + 1 : Nat) : Int)) (by show w.heap.size ≠ gn; omega)).trans hxA
  have hk1 := (Kept.of_below (g := gn) hbA).trans (Kept.set wA gn 0 (.int .i64 ((n + 1 : Nat) : Int)))
  have ei : (n : Int) + 1 = ((n + 1 : Nat) : Int) := by omega
  have hn6 : (n : Int) ≤ 600 := by omega
  have q1 := (cell_of_row _ _ 0 _ _ _ hc1).trans rfl
  have q4 := (cell_of_row _ _ 4 _ _ _ hx1).trans rfl
  have cA := fun w => alone_any e p c hn w
  unfold exV at cA
  generalize hX : shapeP e deep n = X
  rw [shapeP_eq] at hX
  have HX : Hid ((if 600 < n + 1 ∨ 40 < deep then (4, n + 1) else if aloneP e ≠ 0 then (aloneP e, n + 1) else shapeL e.kids (deep + 1) (0, n + 1)) = X) := hX
  have HC : Hid (CntAt (wA.setCell ⟨gn, 0, none⟩ (.int .i64 ((n + 1 : Nat) : Int))) gn (n + 1)) := hc1
  clear hX hc hcA hbA hxA
  by_cases c1 : 600 < n + 1
  · have HE : Hid (X = (4, n + 1)) := by show _ = _; rw [← HX.out, if_pos (.inl c1)]
    have c1' : (600 : Int) < ((n + 1 : Nat) : Int) := by omega
    clear HX c1 hc1
    generalize ((n + 1 : Nat) : Int) = vv at *
    go_enter Tryz.func43, Tryz.ntmps43
    go_wp2_with fail
    go_ret
    rw [HE.out]
    exact ⟨rfl, HC.out, hk1⟩
  have c1' : ¬ (600 : Int) < ((n + 1 : Nat) : Int) := by omega
  by_cases c2 : 40 < deep
  · have HE : Hid (X = (4, n + 1)) := by show _ = _; rw [← HX.out, if_pos (.inr c2)]
    have c2' : (40 : Int) < (deep : Int) := by omega
    clear HX c1 c2 hc1
    generalize ((n + 1 : Nat) : Int) = vv at *
    go_enter Tryz.func43, Tryz.ntmps43
    go_wp2_with fail
    go_ret
    rw [HE.out]
    exact ⟨rfl, HC.out, hk1⟩
  have c2' : ¬ (40 : Int) < (deep : Int) := by omega
  by_cases c3 : aloneP e = 0
  · have hX3 := HX.out
    rw [if_neg (by omega), if_neg (by simpa using c3)] at hX3
    have HS : Hid (shapeL (e.kids.drop 0) (deep + 1) (0, n + 1) = X) := hX3
    rw [c3] at cA
    have hm6 : n + 1 ≤ 600 := by omega
    clear HX c1 hX3 c3 hc1
    generalize hvv : ((n + 1 : Nat) : Int) = vv at *
    generalize hw1 : wA.setCell ⟨gn, 0, none⟩ (.int .i64 vv) = w1 at *
    go_enter Tryz.func43, Tryz.ntmps43
    go_wp2_with (refine wpList_load_row rfl 31 _ rfl _ rfl _ _ _ _ hx1 exprType rfl (by kernel_rfl) ?_)
    refine (cA _).mono ?_
    rintro r w2 ⟨rfl, hb2⟩
    have hk2 := hk1.trans (Kept.of_below hb2)
    have hc2 : CntAt w2 gn (n + 1) := (hb2.block _ (lt_of_block HC.out)).trans HC.out
    have q42 := (hb2.cell (block_lt_of_cell q4)).trans q4
    have HC2 : Hid (CntAt w2 gn (n + 1)) := hc2
    clear cA hw1 HC hc2 hk1 hx1 q4 q1 z0 y0 hwA hb2
    go_wp2_with fail
    go_loopw [32] (fun t wr => ∃ j m : Nat, t = .int .i64 (j : Int) ∧ j ≤ e.kids.length ∧ shapeL (e.kids.drop j) (deep + 1) (0, m) = X ∧ m ≤ 600 ∧ CntAt wr gn m ∧ Kept gn w wr) (fun t _ => e.kids.length - (intOf t).toNat)
    case atStart => exact ⟨0, n + 1, rfl, by omega, HS.out, hm6, HC2.out, hk2⟩
    case round =>
      obtain ⟨j, m, rfl, hj, hXr, hm, hcr, hkr⟩ := hrel
      clear HS HC2 hk2 q42
      have hj0 : (0 : Int) ≤ (j : Int) := by omega
      by_cases hlt : j < e.kids.length
      · have hlt' : (j : Int) < (e.kids.length : Int) := by omega
        obtain ⟨k, hjk⟩ : ∃ k, e.kids[j]? = some k := ⟨e.kids[j], List.getElem?_eq_getElem hlt⟩
        rw [shapeL_step hjk] at hXr
        have hks : e.kids ≠ [] := fun h => by rw [h] at hlt; simp at hlt
        obtain ⟨g, o, c', hsl, hgn, hlen, hkid⟩ := hk.resolve_left hks
        obtain ⟨pk, ck, d0, d1, d2, d3, d4, ihk⟩ := hkid j k hjk
        have eb : wr.heap[g]? = w.heap[g]? := hkr.block g (block_lt_of_cell d0) (fun e => hgn (Option.some.inj e))
        have ce : ∀ i, wr.cell? ⟨g, i, none⟩ = w.cell? ⟨g, i, none⟩ := fun i => World.cell?_of_block eb
        have f0 := (ce _).trans d0
        have f1 := (ce _).trans d1
        have f2 := (ce _).trans d2
        have f3 := (ce _).trans d3
        have f4 := (ce _).trans d4
        have hbB : Below wr.heap.size wr (wr.alloc (.cells #[.int .i64 k.kind, .int .i64 k.a, .int .i64 k.b, .string ⟨k.name.toArray⟩, .slice pk k.kids.length ck] 31)) := (Below.refl _ _).alloc (Nat.le_refl _) _
        have hxB := heap_alloc_new wr (.cells #[.int .i64 k.kind, .int .i64 k.a, .int .i64 k.b, .string ⟨k.name.toArray⟩, .slice pk k.kids.length ck] 31)
        have hkB := hkr.trans (Kept.of_below hbB)
        have hcB : CntAt (wr.alloc (.cells #[.int .i64 k.kind, .int .i64 k.a, .int .i64 k.b, .string ⟨k.name.toArray⟩, .slice pk k.kids.length ck] 31)) gn m := (hbB.block _ (lt_of_block hcr)).trans hcr
        have cR := ihk _ (deep + 1) m hkB hcB hm (by omega)
        have hdd : (deep : Int) + 1 = ((deep + 1 : Nat) : Int) := by omega
        have hd40 : (deep : Int) ≤ 40 := by omega
        have hle := fun h => shapeP_le (e := k) (deep := deep + 1) (n := m) h
        injection hsl with e1 e2 e3
        subst e1
        subst e3
        clear ce d0 d1 d2 d3 d4 ihk hkid eb hcr hks hjk hcB hbB
        have HXr : Hid (shapeL (e.kids.drop (j + 1)) (deep + 1) (shapeP k (deep + 1) m) = X) := hXr
        clear hXr
        generalize shapeP k (deep + 1) m = Y at *
        generalize ((deep + 1 : Nat) : Int) = dv at *
        generalize hwB : wr.alloc (.cells #[.int .i64 k.kind, .int .i64 k.a, .int .i64 k.b, .string ⟨k.name.toArray⟩, .slice pk k.kids.length ck] 31) = wB at *
        obtain ⟨y1, y2⟩ := Y
        go_wp2_with (refine wpList_load_row rfl 31 _ rfl _ rfl _ _ _ _ hxB exprType rfl (by kernel_rfl) ?_)
        refine cR.mono ?_
        rintro r w3 ⟨rfl, hc3, hk3⟩
        have hkw3 := hkB.trans hk3
        dsimp only at hc3 hle ⊢
        clear cR hk3 hkB hxB hwB f0 f1 f2 f3 f4
        by_cases hy : y1 = 0
        · subst hy
          have hy2 := hle rfl
          go_wp2_with fail
          go_roundw
          case rel => exact ⟨j + 1, y2, by go_num, by omega, HXr.out, hy2, hc3, hkw3⟩
          case measure => simp [intOf]; omega
        · have hyb : (y1 != 0) = true := by simpa using hy
          have HE : Hid (X = (y1, y2)) := by show _ = _; rw [← HXr.out, shapeL_bad hy]
          clear HXr hle
          go_wp2_with fail
          go_ret
          rw [HE.out]
          exact ⟨rfl, hc3, hkw3⟩
      · have hlt' : ¬ (j : Int) < (e.kids.length : Int) := by omega
        have HE : Hid (X = (0, m)) := by show _ = _; rw [← hXr, List.drop_eq_nil_of_le (by omega)]; rfl
        clear hXr
        go_wp2_with fail
        go_ret
        rw [HE.out]
        exact ⟨rfl, hcr, hkr⟩
  · have hX3 := HX.out
    rw [if_neg (by omega), if_pos c3] at hX3
    have HE : Hid (X = (aloneP e, n + 1)) := hX3.symm
    have n3 : (aloneP e != 0) = true := by simpa using c3
    clear HX hX3 c3 c1 hc1
    generalize aloneP e = al at *
    generalize hvv : ((n + 1 : Nat) : Int) = vv at *
    generalize hw1 : wA.setCell ⟨gn, 0, none⟩ (.int .i64 vv) = w1 at *
    go_enter Tryz.func43, Tryz.ntmps43
    go_wp2_with (refine wpList_load_row rfl 31 _ rfl _ rfl _ _ _ _ hx1 exprType rfl (by kernel_rfl) ?_)
    refine (cA _).mono ?_
    rintro r w2 ⟨rfl, hb2⟩
    have hk2 := hk1.trans (Kept.of_below hb2)
    have HC2 : Hid (CntAt w2 gn (n + 1)) := (hb2.block _ (lt_of_block HC.out)).trans HC.out
    clear cA hw1 HC hk1 hx1 q4 q1 z0 y0 hwA hb2
    go_wp2_with fail
    go_ret
    rw [HE.out]
    exact ⟨rfl, HC2.out, hk2⟩
theorem wexpr_any (hB : ∀ k, B k → k ≠ gn) (d : Nat) (e : Ex) (sl : Value) (w : World) (deep n : Nat) (hk : KidsB B d w sl e.kids) (hn : e.name.length ≤ 9223372036854775807) (hc : CntAt w gn n) (h6 : n ≤ 600) (hd : deep ≤ 41) :
    Calls Tryz.prog 43 #[exV e sl, .int .i64 (deep : Int), .pointer (some ⟨gn, 0, none⟩)] w (OutN gn w (shapeP e deep n)) := shape_all _ hB (fun e p c w deep n => wexpr_step e p c w deep n) d e sl w deep n hk hn hc h6 hd
end Go.Proofs.YtgfjbcdjpkcbkaaGreatDoor

/- What dates and weekly come to. -/
namespace Go.Proofs.YtgfjbcdjpkcbkaaGreatDoor
open Go.RowKit Lx
variable {all : List Tk} {E g : Nat} {v : Value} {w : World} {i n : Nat}
def datesR (E d : Nat) (r : List Tk) (n : Nat) : Res :=
  if kindP r ≠ 5 then failP E 2 r
  else if isT wTo r.tail then
    if kindP r.tail.tail ≠ 5 then failP E 2 r.tail.tail
    else if numP r.tail.tail < numP r then failP E 3 r.tail.tail
    else rd E 8 d ⟨5, numP r, numP r.tail.tail, [], []⟩ r.tail.tail.tail n
  else rd E 8 d ⟨5, numP r, numP r, [], []⟩ r.tail n
set_option maxRecDepth 100000 in
set_option maxHeartbeats 1000000 in
theorem dates_any (h0 : PS0 all E g v) (h : PSt all E g v w i n) (hn6 : n ≤ 600) (d : Nat) (hd : d ≤ 40) (hF : ∀ j, i < j → RC all E g v 98 4 j) :
    Calls Tryz.prog 105 #[.pointer (some ⟨g, 0, none⟩), .int .i64 (d : Int)] w (OutE all E g v w (fun k => w.heap.size ≤ k) (datesR E d (all.drop i) n)) := by
  have hgl := lt_of_block h.blk
  have hb0 : Below w.heap.size w (w.alloc (.cells #[.int .i64 0, .int .i64 0, .int .i64 0, .string ⟨#[]⟩, .slice none 0 0] 31)) := (Below.refl _ _).alloc (Nat.le_refl _) _
  have hz := zero_new w
  have hA := h.below hb0 h0
  have hkA := Kept.of_below (g := g) hb0
  unfold datesR failP
  simp only [tail_drop]
  generalize hwA : w.alloc (.cells #[.int .i64 0, .int .i64 0, .int .i64 0, .string ⟨#[]⟩, .slice none 0 0] 31) = wA at *
  by_cases h5 : kindP (all.drop i) = 5
  · have c1 := take_yes h0 hA 5 (by decide) h5
    rw [if_neg (by simp [h5])]
    unfold tokV at c1
    generalize numP (all.drop i) = N at *
    generalize kindP (all.drop i) = t0 at *
    clear h5
    by_cases hm : isT wTo (all.drop (i + 1)) = true
    · rw [if_pos hm]
      have c2 := fun (w1 : World) (h1 : PSt all E g v w1 (i + 1) n) => skip_yes h0 h1 wTo (by decide) hm
      clear hm
      by_cases h5 : kindP (all.drop (i + 1 + 1)) = 5
      · rw [if_neg (by simp [h5])]
        by_cases hlt : numP (all.drop (i + 1 + 1)) < N
        · rw [if_pos hlt]
          have c3 := fun (w1 : World) (h1 : PSt all E g v w1 (i + 1 + 1) n) => takeFrom_range h0 h1 5 N h5 hlt
          clear h5 hlt
          go_enter Tryz.func105, Tryz.ntmps105
          go_wp2_with fail
          refine c1.mono ?_
          rintro e w1 ⟨rfl, h1, hk1⟩
          go_wp2_with fail
          refine (c2 _ h1).mono ?_
          rintro e w2 ⟨rfl, h2, hk2⟩
          go_wp2_with fail
          refine (c3 _ h2).mono ?_
          rintro e w3 ⟨rfl, hk3⟩
          exact ⟨rfl, rfl, ((hkA.trans hk1).trans hk2).trans hk3⟩
        · rw [if_neg hlt]
          have c3 := fun (w1 : World) (h1 : PSt all E g v w1 (i + 1 + 1) n) => takeFrom_yes h0 h1 5 N (by decide) h5 hlt
          unfold tokV at c3
          generalize numP (all.drop (i + 1 + 1)) = M at *
          clear h5 hlt
          generalize hX : rd E 8 d ⟨5, N, M, [], []⟩ (all.drop (i + 1 + 1 + 1)) n = X
          have HX : Hid (rd E 8 d ⟨5, N, M, [], []⟩ (all.drop (i + 1 + 1 + 1)) n = X) := hX
          clear hX
          go_enter Tryz.func105, Tryz.ntmps105
          go_wp2_with fail
          refine c1.mono ?_
          rintro e w1 ⟨rfl, h1, hk1⟩
          go_wp2_with fail
          refine (c2 _ h1).mono ?_
          rintro e w2 ⟨rfl, h2, hk2⟩
          go_wp2_with fail
          refine (c3 _ h2).mono ?_
          rintro e w3 ⟨rfl, h3, hk3'⟩
          have hk3 := ((hkA.trans hk1).trans hk2).trans hk3'
          have hz3 := ((hk1.trans hk2).trans hk3').at hz (by omega)
          clear c1 c2 c3 h1 h2 hk1 hk2 hk3' hz hwA hA hkA hb0
          have hXX := HX.out
          rw [rd8_colon] at hXX
          go_wp2_with fail
          refine (colon_any h0 h3 hn6 d hd (hF (i + 1 + 1 + 1 + 1) (by omega))).mono ?_
          intro e w5 ho
          cases hx : colonR E d (all.drop (i + 1 + 1 + 1)) n with
          | error q =>
            obtain ⟨er, at_⟩ := q
            rw [hx] at ho
            obtain ⟨rfl, hk5⟩ := ho
            rw [hx] at hXX
            refine ⟨rfl, ?_⟩
            rw [← hXX]
            exact ⟨rfl, hk3.trans hk5⟩
          | ok q =>
            obtain ⟨kx, rr, nn⟩ := q
            rw [hx] at ho
            obtain ⟨i', bk, dd, hr', rfl, hkd, h5, hn5, hk5⟩ := ho
            subst hr'
            have hs3 := hk3.size
            have hz5 := hk5.at hz3 (by omega)
            have hl3 := lt_of_block hz3
            have c5 := ended_any h0 h5 hn5 (fun k => w.heap.size + 1 ≤ k) (fun k hk => by omega) ⟨5, N, M, [], [kx]⟩ (.slice (some ⟨bk, 0, none⟩) 1 1) dd (hkd.mono fun k hk => by omega)
            unfold exV at c5
            have hk35 := hk3.trans hk5
            rw [hx] at hXX
            rw [show endedP E ⟨5, N, M, [], [kx]⟩ (all.drop i') nn = X from hXX] at c5
            clear hkd hk5 hx h3 hz3 hk3 hXX
            go_wp2_with fail
            refine c5.mono ?_
            intro e w6 ho
            rcases out_split h h0 hk35 hz5 ho with ⟨ch, rfl, hO⟩ | ⟨a', b', c', x', p', q', r', rfl, hz6, hO⟩
            · exact ⟨rfl, hO⟩
            · clear c5 ho h5 hk35 hz5
              go_wp2_with (refine wpList_store_row rfl 31 _ _ rfl _ _ rfl rfl _ _ hz6 (by kernel_rfl) (by rfl) (by simp [Value.oneCell']) ?_)
              exact ex_ret 4 (by kernel_rfl) w.heap.size _ _ _ _ _ rfl rfl (setRow_heap _ _ _ _ _ _ hz6) (hO _)
      · rw [if_pos h5]
        have c3 := fun (w1 : World) (h1 : PSt all E g v w1 (i + 1 + 1) n) => takeFrom_kind h0 h1 5 N h5
        clear h5
        go_enter Tryz.func105, Tryz.ntmps105
        go_wp2_with fail
        refine c1.mono ?_
        rintro e w1 ⟨rfl, h1, hk1⟩
        go_wp2_with fail
        refine (c2 _ h1).mono ?_
        rintro e w2 ⟨rfl, h2, hk2⟩
        go_wp2_with fail
        refine (c3 _ h2).mono ?_
        rintro e w3 ⟨rfl, hk3⟩
        exact ⟨rfl, rfl, ((hkA.trans hk1).trans hk2).trans hk3⟩
    · have hm' : isT wTo (all.drop (i + 1)) = false := by simpa using hm
      rw [if_neg hm]
      have c2 := fun (w1 : World) (h1 : PSt all E g v w1 (i + 1) n) => skip_no h0 h1 wTo hm'
      clear hm hm'
      generalize hX : rd E 8 d ⟨5, N, N, [], []⟩ (all.drop (i + 1)) n = X
      have HX : Hid (rd E 8 d ⟨5, N, N, [], []⟩ (all.drop (i + 1)) n = X) := hX
      clear hX
      go_enter Tryz.func105, Tryz.ntmps105
      go_wp2_with fail
      refine c1.mono ?_
      rintro e w1 ⟨rfl, h1, hk1⟩
      go_wp2_with fail
      refine (c2 _ h1).mono ?_
      rintro e w3 ⟨rfl, h3, hk2⟩
      have hk3 := (hkA.trans hk1).trans hk2
      have hz3 := (hk1.trans hk2).at hz (by omega)
      clear c1 c2 h1 hk1 hk2 hz hwA hA hkA hb0
      have hXX := HX.out
      rw [rd8_colon] at hXX
      go_wp2_with fail
      refine (colon_any h0 h3 hn6 d hd (hF (i + 1 + 1) (by omega))).mono ?_
      intro e w5 ho
      cases hx : colonR E d (all.drop (i + 1)) n with
      | error q =>
        obtain ⟨er, at_⟩ := q
        rw [hx] at ho
        obtain ⟨rfl, hk5⟩ := ho
        rw [hx] at hXX
        refine ⟨rfl, ?_⟩
        rw [← hXX]
        exact ⟨rfl, hk3.trans hk5⟩
      | ok q =>
        obtain ⟨kx, rr, nn⟩ := q
        rw [hx] at ho
        obtain ⟨i', bk, dd, hr', rfl, hkd, h5, hn5, hk5⟩ := ho
        subst hr'
        have hs3 := hk3.size
        have hz5 := hk5.at hz3 (by omega)
        have hl3 := lt_of_block hz3
        have c5 := ended_any h0 h5 hn5 (fun k => w.heap.size + 1 ≤ k) (fun k hk => by omega) ⟨5, N, N, [], [kx]⟩ (.slice (some ⟨bk, 0, none⟩) 1 1) dd (hkd.mono fun k hk => by omega)
        unfold exV at c5
        have hk35 := hk3.trans hk5
        rw [hx] at hXX
        rw [show endedP E ⟨5, N, N, [], [kx]⟩ (all.drop i') nn = X from hXX] at c5
        clear hkd hk5 hx h3 hz3 hk3 hXX
        go_wp2_with fail
        refine c5.mono ?_
        intro e w6 ho
        rcases out_split h h0 hk35 hz5 ho with ⟨ch, rfl, hO⟩ | ⟨a', b', c', x', p', q', r', rfl, hz6, hO⟩
        · exact ⟨rfl, hO⟩
        · clear c5 ho h5 hk35 hz5
          go_wp2_with (refine wpList_store_row rfl 31 _ _ rfl _ _ rfl rfl _ _ hz6 (by kernel_rfl) (by rfl) (by simp [Value.oneCell']) ?_)
          exact ex_ret 4 (by kernel_rfl) w.heap.size _ _ _ _ _ rfl rfl (setRow_heap _ _ _ _ _ _ hz6) (hO _)
  · have c1 := take_no h0 hA 5 h5
    rw [if_pos h5]
    go_enter Tryz.func105, Tryz.ntmps105
    go_wp2_with fail
    refine c1.mono ?_
    rintro e w1 ⟨rfl, hk1⟩
    exact ⟨rfl, rfl, hkA.trans hk1⟩
def weekOn (E d : Nat) (a : Nat) (r : List Tk) (n : Nat) : Res := if isT wComma r then rd E 7 d ⟨0, (a : Int), 0, [], []⟩ r.tail n else rd E 8 d ⟨4, (a : Int), 0, [], []⟩ r n
theorem rd7_no (E d : Nat) (e : Ex) (r : List Tk) (n : Nat) (h : dayBit (textP r) = 0) : rd E 7 d e r n = failP E 2 r := by rw [rd_7, if_pos h]
theorem rd7_yes (E d : Nat) (e : Ex) (r : List Tk) (n : Nat) (h : dayBit (textP r) ≠ 0) : rd E 7 d e r n = weekOn E d (e.a.toNat ||| dayBit (textP r)) r.tail n := by rw [rd_7, if_neg h]; rfl
theorem day_lt (x : List UInt8) : dayBit x < 128 := by
  unfold dayBit
  repeat (split; · omega)
  omega
theorem or128 : ∀ a : Fin 128, ∀ b : Fin 128, bits BinOp.or IntKind.i64 ((a.val : Nat) : Int) ((b.val : Nat) : Int) = ((a.val ||| b.val : Nat) : Int) := by decide +kernel
theorem or_eq {a b : Nat} (ha : a < 128) (hb : b < 128) : bits BinOp.or IntKind.i64 (a : Int) (b : Int) = ((a ||| b : Nat) : Int) := or128 ⟨a, ha⟩ ⟨b, hb⟩
theorem or_lt {a b : Nat} (ha : a < 128) (hb : b < 128) : a ||| b < 128 := Nat.or_lt_two_pow (n := 7) ha hb
set_option maxRecDepth 100000 in
set_option maxHeartbeats 1000000 in
theorem weekly_any (h0 : PS0 all E g v) (h : PSt all E g v w i n) (hn6 : n ≤ 600) (d : Nat) (hd : d ≤ 40) (hF : ∀ j, i < j → RC all E g v 98 4 j) :
    Calls Tryz.prog 104 #[.pointer (some ⟨g, 0, none⟩), .int .i64 (d : Int)] w (OutE all E g v w (fun k => w.heap.size ≤ k) (rd E 7 d ex0 (all.drop i) n)) := by
  have hgl := lt_of_block h.blk
  have hb0 : Below w.heap.size w (w.alloc (.cells #[.int .i64 0, .int .i64 0, .int .i64 0, .string ⟨#[]⟩, .slice none 0 0] 31)) := (Below.refl _ _).alloc (Nat.le_refl _) _
  have hz := zero_new w
  have hA := h.below hb0 h0
  have hkA := Kept.of_below (g := g) hb0
  have hlen := h0.len
  generalize hwA : w.alloc (.cells #[.int .i64 0, .int .i64 0, .int .i64 0, .string ⟨#[]⟩, .slice none 0 0] 31) = wA at *
  have c1 := day_any h0 hA
  unfold dayX at c1
  by_cases hd0 : dayBit (textP (all.drop i)) = 0
  · rw [if_pos hd0] at c1
    rw [rd7_no _ _ _ _ _ hd0]
    go_enter Tryz.func104, Tryz.ntmps104
    go_wp2_with fail
    refine c1.mono ?_
    rintro e w1 ⟨rfl, hk1⟩
    exact ⟨rfl, rfl, hkA.trans hk1⟩
  · rw [if_neg hd0] at c1
    rw [rd7_yes _ _ _ _ _ hd0, tail_drop]
    have ha := day_lt (textP (all.drop i))
    have ez : (ex0.a.toNat ||| dayBit (textP (all.drop i))) = dayBit (textP (all.drop i)) := by show (0 ||| _) = _; exact Nat.zero_or _
    rw [ez]
    clear ez hd0
    generalize dayBit (textP (all.drop i)) = a0 at *
    generalize hX : weekOn E d a0 (all.drop (i + 1)) n = X
    go_enter Tryz.func104, Tryz.ntmps104
    go_wp2_with fail
    refine c1.mono ?_
    rintro e w1 ⟨rfl, h1, hk1⟩
    have hk1' := hkA.trans hk1
    have hz1 := hk1.at hz (by omega)
    clear c1 hk1 hkA hz hwA hA hb0
    go_wp2_with fail
    go_loopw [5] (fun q wr => ∃ (a j : Nat), q = .int .i64 (a : Int) ∧ a < 128 ∧ i < j ∧ PSt all E g v wr j n ∧ Kept g w wr ∧ wr.heap[w.heap.size]? = some (.cells ex0C 31 (0, 0)) ∧ weekOn E d a (all.drop j) n = X ∧ wr.heap[g]? = some (.cells #[v, .int .i64 (j : Int), .int .i64 (E : Int), .int .i64 (n : Int)] 87 (0, 0))) (fun _ wr => all.length - (match wr.heap[g]? with | some (.cells cs _ _) => (intOf (cs.getD 1 undef)).toNat | _ => 0))
    case atStart => exact ⟨a0, i + 1, rfl, ha, by omega, h1, hk1', hz1, hX, h1.blk⟩
    case round =>
      obtain ⟨a, j, rfl, ha, hij, hst, hkp, hzr, hXr, hblk⟩ := hrel
      clear h1 hk1' hz1 hX
      by_cases hc : isT wComma (all.drop j) = true
      · have hj1 := isT_len (by decide) hc
        have c2 := skip_yes h0 hst wComma (by decide) hc
        unfold weekOn at hXr
        rw [if_pos hc, tail_drop] at hXr
        have cd := fun (w1 : World) (h1 : PSt all E g v w1 (j + 1) n) => day_any h0 h1
        unfold dayX at cd
        clear hc
        by_cases hd0 : dayBit (textP (all.drop (j + 1))) = 0
        · rw [rd7_no _ _ _ _ _ hd0] at hXr
          have cd' := cd
          simp only [if_pos hd0] at cd'
          have HX : Hid (X = failP E 2 (all.drop (j + 1))) := hXr.symm
          clear cd hXr hblk
          go_wp2_with fail
          refine c2.mono ?_
          rintro e w2 ⟨rfl, h2, hk2⟩
          go_wp2_with fail
          refine (cd' _ h2).mono ?_
          rintro e w3 ⟨rfl, hk3⟩
          refine ⟨rfl, ?_⟩
          rw [HX.out]
          exact ⟨rfl, (hkp.trans hk2).trans hk3⟩
        · rw [rd7_yes _ _ _ _ _ hd0, tail_drop] at hXr
          have cd' := cd
          simp only [if_neg hd0] at cd'
          have hb := day_lt (textP (all.drop (j + 1)))
          have hor := or_lt ha hb
          have hj2 : j + 1 + 1 ≤ all.length := by
            have := dayBit_cons hd0
            simp at this; omega
          have hta : ((a : Int)).toNat = a := by omega
          dsimp only at hXr
          rw [hta] at hXr
          have HX : Hid (weekOn E d (a ||| dayBit (textP (all.drop (j + 1)))) (all.drop (j + 1 + 1)) n = X) := hXr
          generalize dayBit (textP (all.drop (j + 1))) = b at *
          clear cd hXr hd0 hta
          go_wp2_with fail
          refine c2.mono ?_
          rintro e w2 ⟨rfl, h2, hk2⟩
          go_wp2_with fail
          refine (cd' _ h2).mono ?_
          rintro e w3 ⟨rfl, h3, hk3⟩
          have hz3 := (hk2.trans hk3).at hzr (by omega)
          have hk' := (hkp.trans hk2).trans hk3
          go_wp2_with fail
          go_roundw
          case rel => exact ⟨a ||| b, j + 1 + 1, by rw [or_eq ha hb], hor, by omega, h3, hk', hz3, HX.out, h3.blk⟩
          case measure =>
            rw [h3.blk, hblk]
            simp [intOf]; omega
      · have hc' : isT wComma (all.drop j) = false := by simpa using hc
        have c2 := skip_no h0 hst wComma hc'
        unfold weekOn at hXr
        rw [if_neg hc] at hXr
        have HX : Hid (rd E 8 d ⟨4, (a : Int), 0, [], []⟩ (all.drop j) n = X) := hXr
        clear hc hc' hXr hblk
        go_wp2_with fail
        refine c2.mono ?_
        rintro e w3 ⟨rfl, h3, hk2⟩
        have hk3 := hkp.trans hk2
        have hz3 := hk2.at hzr (by omega)
        clear c2 hst hkp hzr hk2
        have hXX := HX.out
        rw [rd8_colon] at hXX
        go_wp2_with fail
        refine (colon_any h0 h3 hn6 d hd (hF (j + 1) (by omega))).mono ?_
        intro e w5 ho
        cases hx : colonR E d (all.drop (j)) n with
        | error q =>
          obtain ⟨er, at_⟩ := q
          rw [hx] at ho
          obtain ⟨rfl, hk5⟩ := ho
          rw [hx] at hXX
          refine ⟨rfl, ?_⟩
          rw [← hXX]
          exact ⟨rfl, hk3.trans hk5⟩
        | ok q =>
          obtain ⟨kx, rr, nn⟩ := q
          rw [hx] at ho
          obtain ⟨i', bk, dd, hr', rfl, hkd, h5, hn5, hk5⟩ := ho
          subst hr'
          have hs3 := hk3.size
          have hz5 := hk5.at hz3 (by omega)
          have hl3 := lt_of_block hz3
          have c5 := ended_any h0 h5 hn5 (fun k => w.heap.size + 1 ≤ k) (fun k hk => by omega) ⟨4, (a : Int), 0, [], [kx]⟩ (.slice (some ⟨bk, 0, none⟩) 1 1) dd (hkd.mono fun k hk => by omega)
          unfold exV at c5
          have hk35 := hk3.trans hk5
          rw [hx] at hXX
          rw [show endedP E ⟨4, (a : Int), 0, [], [kx]⟩ (all.drop i') nn = X from hXX] at c5
          clear hkd hk5 hx h3 hz3 hk3 hXX
          go_wp2_with fail
          refine c5.mono ?_
          intro e w6 ho
          rcases out_split h h0 hk35 hz5 ho with ⟨ch, rfl, hO⟩ | ⟨a', b', c', x', p', q', r', rfl, hz6, hO⟩
          · exact ⟨rfl, hO⟩
          · clear c5 ho h5 hk35 hz5
            go_wp2_with (refine wpList_store_row rfl 31 _ _ rfl _ _ rfl rfl _ _ hz6 (by kernel_rfl) (by rfl) (by simp [Value.oneCell']) ?_)
            exact ex_ret 4 (by kernel_rfl) w.heap.size _ _ _ _ _ rfl rfl (setRow_heap _ _ _ _ _ _ hz6) (hO _)
end Go.Proofs.YtgfjbcdjpkcbkaaGreatDoor
