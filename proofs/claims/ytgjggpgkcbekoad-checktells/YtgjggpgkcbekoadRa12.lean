/- What span, behindColon and dates come to. -/
import Derived.Test.YtgjggpgkcbekoadRa11
import Derived.Test.YtgjggpgkcbekoadRa07
import Derived.Test.YtgjggpgkcbekoadRa08
import Derived.Deep.QuietTactic
import Derived.BigQuiet
namespace Go.Proofs.Ytgjggpgkcbekoad
open Go.RowKit Lx
variable {all : List Tk} {E g : Nat} {v : Value} {w : World} {i n : Nat}

/-- The cells of an empty expression. -/
def ex0C : Array Value := #[.int .i64 0, .int .i64 0, .int .i64 0, .string ⟨#[]⟩, .slice none 0 0]
theorem Kept.at {w' : World} {k : Nat} {o : Obj} (h : Kept g w w') (hk : w.heap[k]? = some o) (hne : k ≠ g) : w'.heap[k]? = some o := (h.block k (lt_of_block hk) (fun e => hne (Option.some.inj e))).trans hk
theorem tail_drop (i : Nat) : (all.drop i).tail = all.drop (i + 1) := by rw [List.tail_drop]
/-- What stands behind 'ex0C'. -/
theorem zero_new (w : World) : (w.alloc (.cells #[.int .i64 0, .int .i64 0, .int .i64 0, .string ⟨#[]⟩, .slice none 0 0] 41)).heap[w.heap.size]? = some (.cells ex0C 41 (0, 0)) := heap_alloc_new w _

/-- A span of times. -/
def spanR (E : Nat) (r : List Tk) (n : Nat) : Res :=
  if kindP r ≠ 4 then failP E 2 r
  else if isT wMinus r.tail then
    if kindP r.tail.tail ≠ 4 then failP E 2 r.tail.tail
    else if numP r.tail.tail < numP r + 1 then failP E 3 r.tail.tail
    else endedP E ⟨3, numP r, numP r.tail.tail, [], []⟩ r.tail.tail.tail n
  else failP E 2 r.tail

def colonR (E d : Nat) (r : List Tk) (n : Nat) : Res := if isT wColon r then rd E 4 (d + 1) ex0 r.tail n else failP E 2 r
/-- What behindColon's callers do with it. -/
theorem rd8_colon (E d : Nat) (e : Ex) (r : List Tk) (n : Nat) : rd E 8 d e r n = andThen (colonR E d r n) fun k r n => endedP E ⟨e.kind, e.a, e.b, [], [k]⟩ r n := by
  rw [rd_8]
  unfold colonR
  split
  · rfl
  · rfl
end Go.Proofs.Ytgjggpgkcbekoad

/- What kidsOf, inRange and wrongAlone come to. -/
namespace Go.Proofs.Ytgjggpgkcbekoad
open Go.RowKit Lx

theorem kidsOf_any (k : Int) (w : World) : Calls Try.prog 77 #[.int .i64 k] w fun e w' => e = .returned (.int .i64 (kidsP k : Int)) ∧ w' = w := by
  have walk : ∀ (b4 b5 b9 b6 b7 b8 : Bool), (k == 4) = b4 → (k == 5) = b5 → (k == 9) = b9 → (k == 6) = b6 → (k == 7) = b7 → (k == 8) = b8 →
      Calls Try.prog 77 #[.int .i64 k] w fun e w' => e = .returned (.int .i64 (if b4 || (b5 || b9) then 1 else if b6 || (b7 || b8) then 2 else 0)) ∧ w' = w := by
    intro b4 b5 b9 b6 b7 b8 h4 h5 h9 h6 h7 h8
    cases b4 <;> cases b5 <;> cases b9 <;> cases b6 <;> cases b7 <;> cases b8 <;> (go_enter Try.func77, Try.ntmps77; go_wp2; go_ret; exact ⟨rfl, rfl⟩)
  refine (walk _ _ _ _ _ _ rfl rfl rfl rfl rfl rfl).mono ?_
  rintro e w' ⟨rfl, rfl⟩
  refine ⟨?_, rfl⟩
  unfold kidsP
  simp only [Bool.or_eq_true, beq_iff_eq]
  by_cases c1 : k = 4 ∨ k = 5 ∨ k = 9
  · rw [if_pos c1, if_pos c1]; rfl
  · rw [if_neg c1, if_neg c1]
    by_cases c2 : k = 6 ∨ k = 7 ∨ k = 8
    · rw [if_pos c2, if_pos c2]; rfl
    · rw [if_neg c2, if_neg c2]; rfl
end Go.Proofs.Ytgjggpgkcbekoad

/- What inRange comes to. -/
namespace Go.Proofs.Ytgjggpgkcbekoad
open Go.RowKit Lx

set_option maxRecDepth 100000 in
theorem inRange_any (k a b : Int) (nm : ByteArray) (p : Option Addr) (n c : Nat) (w : World) : Calls Try.prog 78 #[.agg #[.int .i64 k, .int .i64 a, .int .i64 b, .string nm, .slice p n c]] w fun e w' => e = .returned (.bool (rangeP k a b)) ∧ Below w.heap.size w w' := by
  have hb : Below w.heap.size w (w.alloc (.cells #[.int .i64 k, .int .i64 a, .int .i64 b, .string nm, .slice p n c] 41)) := (Below.refl _ _).alloc (Nat.le_refl _) _
  unfold rangeP
  by_cases h3 : k = 3
  · subst h3
    rw [if_pos rfl]
    by_cases c1 : 0 ≤ a
    · by_cases c2 : a < b
      · by_cases c3 : b ≤ 1440
        · go_enter Try.func78, Try.ntmps78
          go_wp2
          go_ret
          exact ⟨by first | (simp; done) | (simp; omega), hb⟩
        · go_enter Try.func78, Try.ntmps78
          go_wp2
          go_ret
          exact ⟨by first | (simp; done) | (simp; omega), hb⟩
      · go_enter Try.func78, Try.ntmps78
        go_wp2
        go_ret
        exact ⟨by first | (simp; done) | (simp; omega), hb⟩
    · go_enter Try.func78, Try.ntmps78
      go_wp2
      go_ret
      exact ⟨by first | (simp; done) | (simp; omega), hb⟩
  rw [if_neg h3]
  have i3 : (k == 3) = false := beq_eq_false_iff_ne.2 h3
  by_cases h4 : k = 4
  · subst h4
    rw [if_pos rfl]
    by_cases c1 : 1 ≤ a
    · by_cases c2 : a < 128
      · go_enter Try.func78, Try.ntmps78
        go_wp2
        go_ret
        exact ⟨by first | (simp; done) | (simp; omega), hb⟩
      · go_enter Try.func78, Try.ntmps78
        go_wp2
        go_ret
        exact ⟨by first | (simp; done) | (simp; omega), hb⟩
    · go_enter Try.func78, Try.ntmps78
      go_wp2
      go_ret
      exact ⟨by first | (simp; done) | (simp; omega), hb⟩
  rw [if_neg h4]
  have i4 : (k == 4) = false := beq_eq_false_iff_ne.2 h4
  by_cases h5 : k = 5
  · subst h5
    rw [if_pos rfl]
    by_cases c1 : 0 ≤ a
    · by_cases c2 : a ≤ b
      · by_cases c3 : b < 146097
        · go_enter Try.func78, Try.ntmps78
          go_wp2
          go_ret
          exact ⟨by first | (simp; done) | (simp; omega), hb⟩
        · go_enter Try.func78, Try.ntmps78
          go_wp2
          go_ret
          exact ⟨by first | (simp; done) | (simp; omega), hb⟩
      · go_enter Try.func78, Try.ntmps78
        go_wp2
        go_ret
        exact ⟨by first | (simp; done) | (simp; omega), hb⟩
    · go_enter Try.func78, Try.ntmps78
      go_wp2
      go_ret
      exact ⟨by first | (simp; done) | (simp; omega), hb⟩
  rw [if_neg h5]
  have i5 : (k == 5) = false := beq_eq_false_iff_ne.2 h5
  by_cases h9 : k = 9
  · subst h9
    rw [if_pos rfl]
    by_cases c1 : a = 0
    · subst c1
      go_enter Try.func78, Try.ntmps78
      go_wp2
      go_ret
      exact ⟨by first | (simp; done) | (simp; omega), hb⟩
    · have n1 : (a != 0) = true := by simpa using c1
      by_cases c2 : -1440 < a
      · by_cases c3 : a < 1440
        · go_enter Try.func78, Try.ntmps78
          go_wp2
          go_ret
          exact ⟨by first | (simp; done) | (simp; omega), hb⟩
        · go_enter Try.func78, Try.ntmps78
          go_wp2
          go_ret
          exact ⟨by first | (simp; done) | (simp; omega), hb⟩
      · go_enter Try.func78, Try.ntmps78
        go_wp2
        go_ret
        exact ⟨by first | (simp; done) | (simp; omega), hb⟩
  rw [if_neg h9]
  have i9 : (k == 9) = false := beq_eq_false_iff_ne.2 h9
  go_enter Try.func78, Try.ntmps78
  go_wp2
  go_ret
  exact ⟨rfl, hb⟩
end Go.Proofs.Ytgjggpgkcbekoad

/- What can be a name, of whatever length: the program's. -/
namespace Go.Proofs.Ytgjggpgkcbekoad
open Go.RowKit Lx

set_option maxRecDepth 10000 in
theorem named_big (s : ByteArray) (l : List UInt8) (hs : s.data.toList = l) (hl : l.length ≤ 9223372036854775807) (w : World) :
    Calls Try.prog 44 #[.string s] w fun e w' => e = .returned (.bool (namedL l)) ∧ Below w.heap.size w w' := by
  by_cases h20 : l.length ≤ 20
  · exact named_any s l hs (by omega) w
  · have hz : s.size = l.length := by rw [← hs, Lib.size_eq]
    have hq : s.toList.isEmpty = false := by rw [Lib.toList_data, hs]; cases l <;> simp at h20 ⊢
    have i20 : ¬ (l.length : Int) ≤ 20 := by omega
    have HN : Hid (namedL l = false) := by show namedL l = false; simp [namedL, h20]
    clear h20
    go_enter Try.func44, Try.ntmps44
    go_wp2_with fail
    go_ret
    exact ⟨by rw [HN.out]; rfl, Below.refl _ _⟩
end Go.Proofs.Ytgjggpgkcbekoad

/- What wrongAlone comes to. -/
namespace Go.Proofs.Ytgjggpgkcbekoad
open Go.RowKit Lx

set_option maxRecDepth 100000 in
set_option maxHeartbeats 1000000 in
theorem alone_any (e : Ex) (p : Option Addr) (c : Nat) (hnm : e.name.length ≤ 9223372036854775807) (w : World) : Calls Try.prog 63 #[exV e (.slice p e.kids.length c)] w fun r w' => r = .returned (.int .i64 (aloneP e)) ∧ Below w.heap.size w w' := by
  have hb : Below w.heap.size w (w.alloc (.cells #[.int .i64 e.kind, .int .i64 e.a, .int .i64 e.b, .string ⟨e.name.toArray⟩, .slice p e.kids.length c] 41)) := (Below.refl _ _).alloc (Nat.le_refl _) _
  have hx := heap_alloc_new w (.cells #[.int .i64 e.kind, .int .i64 e.a, .int .i64 e.b, .string ⟨e.name.toArray⟩, .slice p e.kids.length c] 41)
  have cK := fun w => kidsOf_any e.kind w
  have cR := fun w => inRange_any e.kind e.a e.b ⟨e.name.toArray⟩ p e.kids.length c w
  have cN := fun w => named_big ⟨e.name.toArray⟩ e.name rfl hnm w
  unfold aloneP exV
  generalize kidsP e.kind = kp at *
  generalize rangeP e.kind e.a e.b = rp at *
  generalize namedL e.name = nb at *
  generalize e.kind = k at *
  generalize e.a = a at *
  generalize e.b = b at *
  generalize (⟨e.name.toArray⟩ : ByteArray) = nm at *
  generalize e.kids.length = n at *
  clear hnm
  generalize hA : (if k < 1 ∨ 10 < k then (1 : Int) else if n ≠ kp then 5 else if rp = false then 3 else if k = 10 ∧ nb = false then 7 else 0) = A
  have HA : Hid ((if k < 1 ∨ 10 < k then (1 : Int) else if n ≠ kp then 5 else if rp = false then 3 else if k = 10 ∧ nb = false then 7 else 0) = A) := hA
  clear hA
  by_cases c1 : k < 1
  · have HE : Hid (A = 1) := by show _ = _; rw [← HA.out, if_pos (.inl c1)]
    go_enter Try.func63, Try.ntmps63
    go_wp2_with fail
    go_ret
    exact ⟨by rw [HE.out]; rfl, hb⟩
  by_cases c2 : 10 < k
  · have HE : Hid (A = 1) := by show _ = _; rw [← HA.out, if_pos (.inr c2)]
    go_enter Try.func63, Try.ntmps63
    go_wp2_with fail
    go_ret
    exact ⟨by rw [HE.out]; rfl, hb⟩
  have hk : ¬ (k < 1 ∨ 10 < k) := by omega
  have HK : Hid (¬ (k < 1 ∨ 10 < k)) := hk
  clear hk
  have k0 := (cell_of_row _ _ 0 _ _ _ hx).trans rfl
  have k3 := (cell_of_row _ _ 3 _ _ _ hx).trans rfl
  have k4 := (cell_of_row _ _ 4 _ _ _ hx).trans rfl
  generalize hw1 : w.alloc (.cells #[.int .i64 k, .int .i64 a, .int .i64 b, .string nm, .slice p n c] 41) = w1 at *
  by_cases c3 : n = kp
  · have n3 : ((n : Int) != (kp : Int)) = false := by simp; omega
    have HN : Hid (¬ n ≠ kp) := fun h => h c3
    clear c3
    go_enter Try.func63, Try.ntmps63
    go_wp2_with fail
    go_quiet ((go_at_call 77; exact Calls.quiet_of_same (cK _)))
    have hx2 : (w1.drewN nq).heap[w.heap.size]? = some (.cells #[.int .i64 k, .int .i64 a, .int .i64 b, .string nm, .slice p n c] 41 (0, 0)) := hx
    have k02 : (w1.drewN nq).cell? ⟨w.heap.size, 0, none⟩ = some (.int .i64 k) := k0
    have k32 : (w1.drewN nq).cell? ⟨w.heap.size, 3, none⟩ = some (.string nm) := k3
    have hb2 := below_drewN hb nq
    clear hx k0 k3 k4 hw1 hb cK
    generalize w1.drewN nq = w2 at *
    cases rp with
    | false =>
      have HE : Hid (A = 3) := by show _ = _; rw [← HA.out, if_neg HK.out, if_neg HN.out, if_pos rfl]
      go_wp2_with (refine wpList_load_row rfl 41 _ rfl _ rfl _ _ _ _ hx2 exprType rfl (by kernel_rfl) ?_)
      refine (cR _).mono ?_
      rintro r w3 ⟨rfl, hb3⟩
      have hb3w := hb2.trans (hb3.mono hb2.size)
      go_wp2_with fail
      go_ret
      exact ⟨by rw [HE.out]; rfl, hb3w⟩
    | true =>
      go_wp2_with (refine wpList_load_row rfl 41 _ rfl _ rfl _ _ _ _ hx2 exprType rfl (by kernel_rfl) ?_)
      refine (cR _).mono ?_
      rintro r w3 ⟨rfl, hb3⟩
      have hb3w := hb2.trans (hb3.mono hb2.size)
      have q0 := (hb3.cell (block_lt_of_cell k02)).trans k02
      have q3 := (hb3.cell (block_lt_of_cell k32)).trans k32
      clear cR hx2 k02 k32 hb3
      by_cases c5 : k = 10
      · have i5 : (k == 10) = true := by simpa using c5
        cases nb with
        | false =>
          have HE : Hid (A = 7) := by show _ = _; rw [← HA.out, if_neg HK.out, if_neg HN.out, if_neg (by decide), if_pos ⟨c5, rfl⟩]
          go_wp2_with fail
          refine (cN _).mono ?_
          rintro r w4 ⟨rfl, hb4⟩
          have hb4w := hb3w.trans (hb4.mono hb3w.size)
          go_wp2_with fail
          go_ret
          exact ⟨by rw [HE.out]; rfl, hb4w⟩
        | true =>
          have HE : Hid (A = 0) := by show _ = _; rw [← HA.out, if_neg HK.out, if_neg HN.out, if_neg (by decide), if_neg (by simp)]
          go_wp2_with fail
          refine (cN _).mono ?_
          rintro r w4 ⟨rfl, hb4⟩
          have hb4w := hb3w.trans (hb4.mono hb3w.size)
          go_wp2_with fail
          go_ret
          exact ⟨by rw [HE.out]; rfl, hb4w⟩
      · have i5 : (k == 10) = false := by simpa using c5
        have HE : Hid (A = 0) := by show _ = _; rw [← HA.out, if_neg HK.out, if_neg HN.out, if_neg (by decide), if_neg (fun h => c5 h.1)]
        go_wp2_with fail
        go_ret
        exact ⟨by rw [HE.out]; rfl, hb3w⟩
  · have n3 : ((n : Int) != (kp : Int)) = true := by simp; omega
    have HE : Hid (A = 5) := by show _ = _; rw [← HA.out, if_neg HK.out, if_pos c3]
    go_enter Try.func63, Try.ntmps63
    go_wp2_with fail
    go_quiet ((go_at_call 77; exact Calls.quiet_of_same (cK _)))
    have hb2 := below_drewN hb nq
    go_wp2_with fail
    go_ret
    exact ⟨by rw [HE.out]; rfl, hb2⟩
end Go.Proofs.Ytgjggpgkcbekoad
