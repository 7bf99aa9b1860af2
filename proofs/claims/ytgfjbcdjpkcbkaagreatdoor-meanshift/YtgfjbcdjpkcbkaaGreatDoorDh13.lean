/- What wrongAlone comes to. -/
import Derived.Test.YtgfjbcdjpkcbkaaGreatDoorDh12
import Derived.Test.YtgfjbcdjpkcbkaaGreatDoorDh11
import Derived.Test.YtgfjbcdjpkcbkaaGreatDoorDh10
import Derived.Test.YtgfjbcdjpkcbkaaGreatDoorDh03
import Derived.MapKept
import Derived.Carry
namespace Go.Proofs.YtgfjbcdjpkcbkaaGreatDoor
open Go.RowKit Lx
set_option maxRecDepth 100000 in
set_option maxHeartbeats 1000000 in
theorem alone_any (e : Ex) (p : Option Addr) (c : Nat) (hnm : e.name.length ≤ 9223372036854775807) (w : World) : Calls Tryz.prog 58 #[exV e (.slice p e.kids.length c)] w fun r w' => r = .returned (.int .i64 (aloneP e)) ∧ Below w.heap.size w w' := by
  have hb : Below w.heap.size w (w.alloc (.cells #[.int .i64 e.kind, .int .i64 e.a, .int .i64 e.b, .string ⟨e.name.toArray⟩, .slice p e.kids.length c] 31)) := (Below.refl _ _).alloc (Nat.le_refl _) _
  have hx := heap_alloc_new w (.cells #[.int .i64 e.kind, .int .i64 e.a, .int .i64 e.b, .string ⟨e.name.toArray⟩, .slice p e.kids.length c] 31)
  have cK := fun w => kidsOf_any e.kind w
  have cR := fun w => inRange_any e.kind e.a e.b ⟨e.name.toArray⟩ p e.kids.length c w
  have cN := fun w => named_big ⟨e.name.toArray⟩ e.name rfl hnm w
  unfold aloneP exV
  generalize kidsP e.kind = kp at *
  generalize rangeP e.kind e.a e.b = rp at *
  generalize namedL e.name = nb at *
  generalize e.kind = k at *
  generalize e.a = a at *
  generalize e.b = b at *
  generalize (⟨e.name.toArray⟩ : ByteArray) = nm at *
  generalize e.kids.length = n at *
  clear hnm
  generalize hA : (if k < 1 ∨ 10 < k then (1 : Int) else if n ≠ kp then 5 else if rp = false then 3 else if k = 10 ∧ nb = false then 7 else 0) = A
  have HA : Hid ((if k < 1 ∨ 10 < k then (1 : Int) else if n ≠ kp then 5 else if rp = false then 3 else if k = 10 ∧ nb = false then 7 else 0) = A) := hA
  clear hA
  by_cases c1 : k < 1
  · have HE : Hid (A = 1) := by show _ = _; rw [← HA.out, if_pos (.inl c1)]
    go_enter Tryz.func58, Tryz.ntmps58
    go_wp2_with fail
    go_ret
    exact ⟨by rw [HE.out]; rfl, hb⟩
  by_cases c2 : 10 < k
  · have HE : Hid (A = 1) := by show _ = _; rw [← HA.out, if_pos (.inr c2)]
    go_enter Tryz.func58, Tryz.ntmps58
    go_wp2_with fail
    go_ret
    exact ⟨by rw [HE.out]; rfl, hb⟩
  have hk : ¬ (k < 1 ∨ 10 < k) := by omega
  have HK : Hid (¬ (k < 1 ∨ 10 < k)) := hk
  clear hk
  have k0 := (cell_of_row _ _ 0 _ _ _ hx).trans rfl
  have k3 := (cell_of_row _ _ 3 _ _ _ hx).trans rfl
  have k4 := (cell_of_row _ _ 4 _ _ _ hx).trans rfl
  generalize hw1 : w.alloc (.cells #[.int .i64 k, .int .i64 a, .int .i64 b, .string nm, .slice p n c] 31) = w1 at *
  by_cases c3 : n = kp
  · have n3 : ((n : Int) != (kp : Int)) = false := by simp; omega
    have HN : Hid (¬ n ≠ kp) := fun h => h c3
    clear c3
    go_enter Tryz.func58, Tryz.ntmps58
    go_wp2_with fail
    go_quiet ((go_at_call 80; exact Calls.quiet_of_same (cK _)))
    have hx2 : (w1.drewN nq).heap[w.heap.size]? = some (.cells #[.int .i64 k, .int .i64 a, .int .i64 b, .string nm, .slice p n c] 31 (0, 0)) := hx
    have k02 : (w1.drewN nq).cell? ⟨w.heap.size, 0, none⟩ = some (.int .i64 k) := k0
    have k32 : (w1.drewN nq).cell? ⟨w.heap.size, 3, none⟩ = some (.string nm) := k3
    have hb2 := below_drewN hb nq
    clear hx k0 k3 k4 hw1 hb cK
    generalize w1.drewN nq = w2 at *
    cases rp with
    | false =>
      have HE : Hid (A = 3) := by show _ = _; rw [← HA.out, if_neg HK.out, if_neg HN.out, if_pos rfl]
      go_wp2_with (refine wpList_load_row rfl 31 _ rfl _ rfl _ _ _ _ hx2 exprType rfl (by kernel_rfl) ?_)
      refine (cR _).mono ?_
      rintro r w3 ⟨rfl, hb3⟩
      have hb3w := hb2.trans (hb3.mono hb2.size)
      go_wp2_with fail
      go_ret
      exact ⟨by rw [HE.out]; rfl, hb3w⟩
    | true =>
      go_wp2_with (refine wpList_load_row rfl 31 _ rfl _ rfl _ _ _ _ hx2 exprType rfl (by kernel_rfl) ?_)
      refine (cR _).mono ?_
      rintro r w3 ⟨rfl, hb3⟩
      have hb3w := hb2.trans (hb3.mono hb2.size)
      have q0 := (hb3.cell (block_lt_of_cell k02)).trans k02
      have q3 := (hb3.cell (block_lt_of_cell k32)).trans k32
      clear cR hx2 k02 k32 hb3
      by_cases c5 : k = 10
      · have i5 : (k == 10) = true := by simpa using c5
        cases nb with
        | false =>
          have HE : Hid (A = 7) := by show _ = _; rw [← HA.out, if_neg HK.out, if_neg HN.out, if_neg (by decide), if_pos ⟨c5, rfl⟩]
          go_wp2_with fail
          refine (cN _).mono ?_
          rintro r w4 ⟨rfl, hb4⟩
          have hb4w := hb3w.trans (hb4.mono hb3w.size)
          go_wp2_with fail
          go_ret
          exact ⟨by rw [HE.out]; rfl, hb4w⟩
        | true =>
          have HE : Hid (A = 0) := by show _ = _; rw [← HA.out, if_neg HK.out, if_neg HN.out, if_neg (by decide), if_neg (by simp)]
          go_wp2_with fail
          refine (cN _).mono ?_
          rintro r w4 ⟨rfl, hb4⟩
          have hb4w := hb3w.trans (hb4.mono hb3w.size)
          go_wp2_with fail
          go_ret
          exact ⟨by rw [HE.out]; rfl, hb4w⟩
      · have i5 : (k == 10) = false := by simpa using c5
        have HE : Hid (A = 0) := by show _ = _; rw [← HA.out, if_neg HK.out, if_neg HN.out, if_neg (by decide), if_neg (fun h => c5 h.1)]
        go_wp2_with fail
        go_ret
        exact ⟨by rw [HE.out]; rfl, hb3w⟩
  · have n3 : ((n : Int) != (kp : Int)) = true := by simp; omega
    have HE : Hid (A = 5) := by show _ = _; rw [← HA.out, if_neg HK.out, if_pos c3]
    go_enter Tryz.func58, Tryz.ntmps58
    go_wp2_with fail
    go_quiet ((go_at_call 80; exact Calls.quiet_of_same (cK _)))
    have hb2 := below_drewN hb nq
    go_wp2_with fail
    go_ret
    exact ⟨by rw [HE.out]; rfl, hb2⟩
end Go.Proofs.YtgfjbcdjpkcbkaaGreatDoor

/- What wrongExpr comes to: what is wrong with an expression, counted on. -/
namespace Go.Proofs.YtgfjbcdjpkcbkaaGreatDoor
open Go.RowKit Lx
variable {B : Nat → Prop} {gn : Nat}
def KidsB (B : Nat → Prop) : Nat → World → Value → List Ex → Prop
  | 0, _, sl, ks => ks = [] ∧ ∃ p c, sl = .slice p 0 c
  | d + 1, w, sl, ks => (ks = [] ∧ ∃ p c, sl = .slice p 0 c) ∨ ∃ g o c : Nat, B g ∧ sl = .slice (some ⟨g, o, none⟩) ks.length c ∧ ks.length < 9223372036854775808 ∧ ∀ (j : Nat) (k : Ex), ks[j]? = some k → k.name.length ≤ 9223372036854775807 ∧ ∃ sk : Value,
      w.cell? ⟨g, o + j * 5, none⟩ = some (.int .i64 k.kind) ∧ w.cell? ⟨g, o + j * 5 + 1, none⟩ = some (.int .i64 k.a) ∧ w.cell? ⟨g, o + j * 5 + 2, none⟩ = some (.int .i64 k.b) ∧
      w.cell? ⟨g, o + j * 5 + 3, none⟩ = some (.string ⟨k.name.toArray⟩) ∧ w.cell? ⟨g, o + j * 5 + 4, none⟩ = some sk ∧ KidsB B d w sk k.kids
theorem KidsB.kept {w w' : World} (hw : ∀ g, B g → g < w.heap.size → w'.heap[g]? = w.heap[g]?) : ∀ {d : Nat} {sl : Value} {ks : List Ex}, KidsB B d w sl ks → KidsB B d w' sl ks
  | 0, _, _, h => h
  | d + 1, sl, ks, h => by
    rcases h with h | ⟨g, o, c, hB, hs, hl, hk⟩
    · exact .inl h
    · refine .inr ⟨g, o, c, hB, hs, hl, fun j k hj => ?_⟩
      obtain ⟨hn, sk, c0, c1, c2, c3, c4, r⟩ := hk j k hj
      have e : w'.heap[g]? = w.heap[g]? := hw g hB (block_lt_of_cell c0)
      have ce : ∀ i, w'.cell? ⟨g, i, none⟩ = w.cell? ⟨g, i, none⟩ := fun i => World.cell?_of_block e
      exact ⟨hn, sk, (ce _).trans c0, (ce _).trans c1, (ce _).trans c2, (ce _).trans c3, (ce _).trans c4, KidsB.kept hw r⟩
theorem KidsB.mono {B' : Nat → Prop} (hB : ∀ g, B g → B' g) : ∀ {d : Nat} {w : World} {sl : Value} {ks : List Ex}, KidsB B d w sl ks → KidsB B' d w sl ks
  | 0, _, _, _, h => h
  | d + 1, w, sl, ks, h => by
    rcases h with h | ⟨g, o, c, hg, hs, hl, hk⟩
    · exact .inl h
    · refine .inr ⟨g, o, c, hB g hg, hs, hl, fun j k hj => ?_⟩
      obtain ⟨hn, sk, c0, c1, c2, c3, c4, r⟩ := hk j k hj
      exact ⟨hn, sk, c0, c1, c2, c3, c4, KidsB.mono hB r⟩
theorem KidsB.form {d : Nat} {w : World} {sl : Value} {ks : List Ex} (h : KidsB B d w sl ks) : ∃ p c, sl = .slice p ks.length c := by
  cases d with
  | zero =>
    obtain ⟨rfl, p, c, rfl⟩ := h
    exact ⟨p, c, rfl⟩
  | succ d =>
    rcases h with ⟨rfl, p, c, rfl⟩ | ⟨g, o, c, _, hs, _⟩
    · exact ⟨p, c, rfl⟩
    · exact ⟨_, c, hs⟩
def CntAt (w : World) (gn n : Nat) : Prop := w.heap[gn]? = some (.cells #[.int .i64 (n : Int)] 3 (0, 0))
def OutN (gn : Nat) (w : World) (x : Int × Nat) (r : Ending) (w' : World) : Prop := r = .returned (.int .i64 x.1) ∧ CntAt w' gn x.2 ∧ Kept gn w w'
def KidsC (f : FuncId) (gn : Nat) (w : World) (sl : Value) (ks : List Ex) : Prop :=
  ∃ g o c : Nat, sl = .slice (some ⟨g, o, none⟩) ks.length c ∧ g ≠ gn ∧ ks.length < 9223372036854775808 ∧ ∀ (j : Nat) (k : Ex), ks[j]? = some k → ∃ (p : Option Addr) (q : Nat),
    w.cell? ⟨g, o + j * 5, none⟩ = some (.int .i64 k.kind) ∧ w.cell? ⟨g, o + j * 5 + 1, none⟩ = some (.int .i64 k.a) ∧ w.cell? ⟨g, o + j * 5 + 2, none⟩ = some (.int .i64 k.b) ∧
    w.cell? ⟨g, o + j * 5 + 3, none⟩ = some (.string ⟨k.name.toArray⟩) ∧ w.cell? ⟨g, o + j * 5 + 4, none⟩ = some (.slice p k.kids.length q) ∧
    ∀ (W : World) (deep n : Nat), Kept gn w W → CntAt W gn n → n ≤ 600 → deep ≤ 41 → Calls Tryz.prog f #[.agg #[.int .i64 k.kind, .int .i64 k.a, .int .i64 k.b, .string ⟨k.name.toArray⟩, .slice p k.kids.length q], .int .i64 (deep : Int), .pointer (some ⟨gn, 0, none⟩)] W (OutN gn W (shapeP k deep n))
theorem shape_all (f : FuncId) (hB : ∀ k, B k → k ≠ gn)
    (step : ∀ (e : Ex) (p : Option Addr) (c : Nat) (w : World) (deep n : Nat), (e.kids = [] ∨ KidsC f gn w (.slice p e.kids.length c) e.kids) → e.name.length ≤ 9223372036854775807 → CntAt w gn n → n ≤ 600 → deep ≤ 41 → Calls Tryz.prog f #[.agg #[.int .i64 e.kind, .int .i64 e.a, .int .i64 e.b, .string ⟨e.name.toArray⟩, .slice p e.kids.length c], .int .i64 (deep : Int), .pointer (some ⟨gn, 0, none⟩)] w (OutN gn w (shapeP e deep n))) :
    ∀ (d : Nat) (e : Ex) (sl : Value) (w : World) (deep n : Nat), KidsB B d w sl e.kids → e.name.length ≤ 9223372036854775807 → CntAt w gn n → n ≤ 600 → deep ≤ 41 → Calls Tryz.prog f #[exV e sl, .int .i64 (deep : Int), .pointer (some ⟨gn, 0, none⟩)] w (OutN gn w (shapeP e deep n)) := by
  intro d
  induction d with
  | zero =>
    intro e sl w deep n hk hn hc h6 hd
    obtain ⟨p, c, rfl⟩ := hk.form
    exact step e p c w deep n (.inl hk.1) hn hc h6 hd
  | succ d ih =>
    intro e sl w deep n hk hn hc h6 hd
    obtain ⟨p, c, hsl⟩ := hk.form
    subst hsl
    refine step e p c w deep n ?_ hn hc h6 hd
    rcases hk with ⟨h, _⟩ | ⟨g, o, c', hg, hs, hl, hkid⟩
    · exact .inl h
    · refine .inr ⟨g, o, c', hs, hB g hg, hl, fun j k hj => ?_⟩
      obtain ⟨hn', sk, c0, c1, c2, c3, c4, r⟩ := hkid j k hj
      obtain ⟨p', q', rfl⟩ := r.form
      exact ⟨p', q', c0, c1, c2, c3, c4, fun W deep n hK hC h6 hd => ih k _ W deep n (r.kept fun g' hg' hl' => hK.block g' hl' (fun e => hB g' hg' (Option.some.inj e))) hn' hC h6 hd⟩
set_option maxRecDepth 100000 in
set_option maxHeartbeats 2000000 in
theorem wexpr_step (e : Ex) (p : Option Addr) (c : Nat) (w : World) (deep n : Nat) (hk : e.kids = [] ∨ KidsC 43 gn w (.slice p e.kids.length c) e.kids) (hn : e.name.length ≤ 9223372036854775807) (hc : CntAt w gn n) (h6 : n ≤ 600) (hd : deep ≤ 41) :
    Calls Tryz.prog 43 #[.agg #[.int .i64 e.kind, .int .i64 e.a, .int .i64 e.b, .string ⟨e.name.toArray⟩, .slice p e.kids.length c], .int .i64 (deep : Int), .pointer (some ⟨gn, 0, none⟩)] w (OutN gn w (shapeP e deep n)) := by
  have hgl := lt_of_block hc
  have hbA := (Below.refl w.heap.size w).alloc (Nat.le_refl _) (.cells #[.int .i64 e.kind, .int .i64 e.a, .int .i64 e.b, .string ⟨e.name.toArray⟩, .slice p e.kids.length c] 31)
  have hxA := heap_alloc_new w (.cells #[.int .i64 e.kind, .int .i64 e.a, .int .i64 e.b, .string ⟨e.name.toArray⟩, .slice p e.kids.length c] 31)
  have hcA := (hbA.block _ hgl).trans hc
  generalize hwA : w.alloc (.cells #[.int .i64 e.kind, .int .i64 e.a, .int .i64 e.b, .string ⟨e.name.toArray⟩, .slice p e.kids.length c] 31) = wA at *
  have z0 := (cell_of_row _ _ 0 _ _ _ hcA).trans rfl
  have y0 := frozen_of_row _ _ 0 _ _ hcA
  have hc1 : (wA.setCell ⟨gn, 0, none⟩ (.int .i64 ((n + 1 : Nat) : Int))).heap[gn]? = some (.cells #[.int .i64 ((n + 1 : Nat) : Int)] 3 (0, 0)) := heap_setCell_same _ _ 0 _ _ _ hcA
  have hx1 := (heap_setCell_other wA ⟨gn, 0, none⟩ w.heap.size (.int .i64 ((n + 1 : Nat) : Int)) (by show w.heap.size ≠ gn; omega)).trans hxA
  have hk1 := (Kept.of_below (g := gn) hbA).trans (Kept.set wA gn 0 (.int .i64 ((n + 1 : Nat) : Int)))
  have ei : (n : Int) + 1 = ((n + 1 : Nat) : Int) := by omega
  have hn6 : (n : Int) ≤ 600 := by omega
  have q1 := (cell_of_row _ _ 0 _ _ _ hc1).trans rfl
  have q4 := (cell_of_row _ _ 4 _ _ _ hx1).trans rfl
  have cA := fun w => alone_any e p c hn w
  unfold exV at cA
  generalize hX : shapeP e deep n = X
  rw [shapeP_eq] at hX
  have HX : Hid ((if 600 < n + 1 ∨ 40 < deep then (4, n + 1) else if aloneP e ≠ 0 then (aloneP e, n + 1) else shapeL e.kids (deep + 1) (0, n + 1)) = X) := hX
  have HC : Hid (CntAt (wA.setCell ⟨gn, 0, none⟩ (.int .i64 ((n + 1 : Nat) : Int))) gn (n + 1)) := hc1
  clear hX hc hcA hbA hxA
  by_cases c1 : 600 < n + 1
  · have HE : Hid (X = (4, n + 1)) := by show _ = _; rw [← HX.out, if_pos (.inl c1)]
    have c1' : (600 : Int) < ((n + 1 : Nat) : Int) := by omega
    clear HX c1 hc1
    generalize ((n + 1 : Nat) : Int) = vv at *
    go_enter Tryz.func43, Tryz.ntmps43
    go_wp2_with fail
    go_ret
    rw [HE.out]
    exact ⟨rfl, HC.out, hk1⟩
  have c1' : ¬ (600 : Int) < ((n + 1 : Nat) : Int) := by omega
  by_cases c2 : 40 < deep
  · have HE : Hid (X = (4, n + 1)) := by show _ = _; rw [← HX.out, if_pos (.inr c2)]
    have c2' : (40 : Int) < (deep : Int) := by omega
    clear HX c1 c2 hc1
    generalize ((n + 1 : Nat) : Int) = vv at *
    go_enter Tryz.func43, Tryz.ntmps43
    go_wp2_with fail
    go_ret
    rw [HE.out]
    exact ⟨rfl, HC.out, hk1⟩
  have c2' : ¬ (40 : Int) < (deep : Int) := by omega
  by_cases c3 : aloneP e = 0
  · have hX3 := HX.out
    rw [if_neg (by omega), if_neg (by simpa using c3)] at hX3
    have HS : Hid (shapeL (e.kids.drop 0) (deep + 1) (0, n + 1) = X) := hX3
    rw [c3] at cA
    have hm6 : n + 1 ≤ 600 := by omega
    clear HX c1 hX3 c3 hc1
    generalize hvv : ((n + 1 : Nat) : Int) = vv at *
    generalize hw1 : wA.setCell ⟨gn, 0, none⟩ (.int .i64 vv) = w1 at *
    go_enter Tryz.func43, Tryz.ntmps43
    go_wp2_with (refine wpList_load_row rfl 31 _ rfl _ rfl _ _ _ _ hx1 exprType rfl (by kernel_rfl) ?_)
    refine (cA _).mono ?_
    rintro r w2 ⟨rfl, hb2⟩
    have hk2 := hk1.trans (Kept.of_below hb2)
    have hc2 : CntAt w2 gn (n + 1) := (hb2.block _ (lt_of_block HC.out)).trans HC.out
    have q42 := (hb2.cell (block_lt_of_cell q4)).trans q4
    have HC2 : Hid (CntAt w2 gn (n + 1)) := hc2
    clear cA hw1 HC hc2 hk1 hx1 q4 q1 z0 y0 hwA hb2
    go_wp2_with fail
    go_loopw [32] (fun t wr => ∃ j m : Nat, t = .int .i64 (j : Int) ∧ j ≤ e.kids.length ∧ shapeL (e.kids.drop j) (deep + 1) (0, m) = X ∧ m ≤ 600 ∧ CntAt wr gn m ∧ Kept gn w wr) (fun t _ => e.kids.length - (intOf t).toNat)
    case atStart => exact ⟨0, n + 1, rfl, by omega, HS.out, hm6, HC2.out, hk2⟩
    case round =>
      obtain ⟨j, m, rfl, hj, hXr, hm, hcr, hkr⟩ := hrel
      clear HS HC2 hk2 q42
      have hj0 : (0 : Int) ≤ (j : Int) := by omega
      by_cases hlt : j < e.kids.length
      · have hlt' : (j : Int) < (e.kids.length : Int) := by omega
        obtain ⟨k, hjk⟩ : ∃ k, e.kids[j]? = some k := ⟨e.kids[j], List.getElem?_eq_getElem hlt⟩
        rw [shapeL_step hjk] at hXr
        have hks : e.kids ≠ [] := fun h => by rw [h] at hlt; simp at hlt
        obtain ⟨g, o, c', hsl, hgn, hlen, hkid⟩ := hk.resolve_left hks
        obtain ⟨pk, ck, d0, d1, d2, d3, d4, ihk⟩ := hkid j k hjk
        have eb : wr.heap[g]? = w.heap[g]? := hkr.block g (block_lt_of_cell d0) (fun e => hgn (Option.some.inj e))
        have ce : ∀ i, wr.cell? ⟨g, i, none⟩ = w.cell? ⟨g, i, none⟩ := fun i => World.cell?_of_block eb
        have f0 := (ce _).trans d0
        have f1 := (ce _).trans d1
        have f2 := (ce _).trans d2
        have f3 := (ce _).trans d3
        have f4 := (ce _).trans d4
        have hbB : Below wr.heap.size wr (wr.alloc (.cells #[.int .i64 k.kind, .int .i64 k.a, .int .i64 k.b, .string ⟨k.name.toArray⟩, .slice pk k.kids.length ck] 31)) := (Below.refl _ _).alloc (Nat.le_refl _) _
        have hxB := heap_alloc_new wr (.cells #[.int .i64 k.kind, .int .i64 k.a, .int .i64 k.b, .string ⟨k.name.toArray⟩, .slice pk k.kids.length ck] 31)
        have hkB := hkr.trans (Kept.of_below hbB)
        have hcB : CntAt (wr.alloc (.cells #[.int .i64 k.kind, .int .i64 k.a, .int .i64 k.b, .string ⟨k.name.toArray⟩, .slice pk k.kids.length ck] 31)) gn m := (hbB.block _ (lt_of_block hcr)).trans hcr
        have cR := ihk _ (deep + 1) m hkB hcB hm (by omega)
        have hdd : (deep : Int) + 1 = ((deep + 1 : Nat) : Int) := by omega
        have hd40 : (deep : Int) ≤ 40 := by omega
        have hle := fun h => shapeP_le (e := k) (deep := deep + 1) (n := m) h
        injection hsl with e1 e2 e3
        subst e1
        subst e3
        clear ce d0 d1 d2 d3 d4 ihk hkid eb hcr hks hjk hcB hbB
        have HXr : Hid (shapeL (e.kids.drop (j + 1)) (deep + 1) (shapeP k (deep + 1) m) = X) := hXr
        clear hXr
        generalize shapeP k (deep + 1) m = Y at *
        generalize ((deep + 1 : Nat) : Int) = dv at *
        generalize hwB : wr.alloc (.cells #[.int .i64 k.kind, .int .i64 k.a, .int .i64 k.b, .string ⟨k.name.toArray⟩, .slice pk k.kids.length ck] 31) = wB at *
        obtain ⟨y1, y2⟩ := Y
        go_wp2_with (refine wpList_load_row rfl 31 _ rfl _ rfl _ _ _ _ hxB exprType rfl (by kernel_rfl) ?_)
        refine cR.mono ?_
        rintro r w3 ⟨rfl, hc3, hk3⟩
        have hkw3 := hkB.trans hk3
        dsimp only at hc3 hle ⊢
        clear cR hk3 hkB hxB hwB f0 f1 f2 f3 f4
        by_cases hy : y1 = 0
        · subst hy
          have hy2 := hle rfl
          go_wp2_with fail
          go_roundw
          case rel => exact ⟨j + 1, y2, by go_num, by omega, HXr.out, hy2, hc3, hkw3⟩
          case measure => simp [intOf]; omega
        · have hyb : (y1 != 0) = true := by simpa using hy
          have HE : Hid (X = (y1, y2)) := by show _ = _; rw [← HXr.out, shapeL_bad hy]
          clear HXr hle
          go_wp2_with fail
          go_ret
          rw [HE.out]
          exact ⟨rfl, hc3, hkw3⟩
      · have hlt' : ¬ (j : Int) < (e.kids.length : Int) := by omega
        have HE : Hid (X = (0, m)) := by show _ = _; rw [← hXr, List.drop_eq_nil_of_le (by omega)]; rfl
        clear hXr
        go_wp2_with fail
        go_ret
        rw [HE.out]
        exact ⟨rfl, hcr, hkr⟩
  · have hX3 := HX.out
    rw [if_neg (by omega), if_pos c3] at hX3
    have HE : Hid (X = (aloneP e, n + 1)) := hX3.symm
    have n3 : (aloneP e != 0) = true := by simpa using c3
    clear HX hX3 c3 c1 hc1
    generalize aloneP e = al at *
    generalize hvv : ((n + 1 : Nat) : Int) = vv at *
    generalize hw1 : wA.setCell ⟨gn, 0, none⟩ (.int .i64 vv) = w1 at *
    go_enter Tryz.func43, Tryz.ntmps43
    go_wp2_with (refine wpList_load_row rfl 31 _ rfl _ rfl _ _ _ _ hx1 exprType rfl (by kernel_rfl) ?_)
    refine (cA _).mono ?_
    rintro r w2 ⟨rfl, hb2⟩
    have hk2 := hk1.trans (Kept.of_below hb2)
    have HC2 : Hid (CntAt w2 gn (n + 1)) := (hb2.block _ (lt_of_block HC.out)).trans HC.out
    clear cA hw1 HC hk1 hx1 q4 q1 z0 y0 hwA hb2
    go_wp2_with fail
    go_ret
    rw [HE.out]
    exact ⟨rfl, HC2.out, hk2⟩
theorem wexpr_any (hB : ∀ k, B k → k ≠ gn) (d : Nat) (e : Ex) (sl : Value) (w : World) (deep n : Nat) (hk : KidsB B d w sl e.kids) (hn : e.name.length ≤ 9223372036854775807) (hc : CntAt w gn n) (h6 : n ≤ 600) (hd : deep ≤ 41) :
    Calls Tryz.prog 43 #[exV e sl, .int .i64 (deep : Int), .pointer (some ⟨gn, 0, none⟩)] w (OutN gn w (shapeP e deep n)) := shape_all _ hB (fun e p c w deep n => wexpr_step e p c w deep n) d e sl w deep n hk hn hc h6 hd
end Go.Proofs.YtgfjbcdjpkcbkaaGreatDoor

/- What the document's Equal comes to, of one expression that lies in memory twice. -/
namespace Go.Proofs.YtgfjbcdjpkcbkaaGreatDoor
open Go.RowKit Lx
end Go.Proofs.YtgfjbcdjpkcbkaaGreatDoor

/- What the document's Same comes to, of rules that lie in memory twice. -/
namespace Go.Proofs.YtgfjbcdjpkcbkaaGreatDoor
open Go.RowKit Lx
theorem flatR_at : ∀ (us : List (Ru × Value)) (j : Nat) (p : Ru × Value), us[j]? = some p → (flatR us)[j * 6]? = some (.string ⟨p.1.1.toArray⟩) ∧ (flatR us)[j * 6 + 1]? = some (.int .i64 p.1.2.kind) ∧ (flatR us)[j * 6 + 2]? = some (.int .i64 p.1.2.a) ∧ (flatR us)[j * 6 + 3]? = some (.int .i64 p.1.2.b) ∧ (flatR us)[j * 6 + 4]? = some (.string ⟨p.1.2.name.toArray⟩) ∧ (flatR us)[j * 6 + 5]? = some p.2
  | [], j, p, h => by simp at h
  | q :: us, 0, p, h => by
    have : q = p := by simpa using h
    subst this
    simp [flatR]
  | q :: us, j + 1, p, h => by
    have := flatR_at us j p (by simpa using h)
    have e : (j + 1) * 6 = j * 6 + 1 + 1 + 1 + 1 + 1 + 1 := by omega
    rw [e]
    simpa [flatR] using this
def RRow (w : World) (v : Value) (us : List (Ru × Value)) : Prop :=
  (us = [] ∧ ∃ p c, v = .slice p 0 c) ∨ ∃ g o c : Nat, v = .slice (some ⟨g, o, none⟩) us.length c ∧ us.length < 9223372036854775808 ∧ ∀ (j : Nat) (p : Ru × Value), us[j]? = some p →
    w.cell? ⟨g, o + j * 6, none⟩ = some (.string ⟨p.1.1.toArray⟩) ∧ w.cell? ⟨g, o + j * 6 + 1, none⟩ = some (.int .i64 p.1.2.kind) ∧ w.cell? ⟨g, o + j * 6 + 2, none⟩ = some (.int .i64 p.1.2.a) ∧ w.cell? ⟨g, o + j * 6 + 3, none⟩ = some (.int .i64 p.1.2.b) ∧
    w.cell? ⟨g, o + j * 6 + 4, none⟩ = some (.string ⟨p.1.2.name.toArray⟩) ∧ w.cell? ⟨g, o + j * 6 + 5, none⟩ = some p.2
theorem RRow.below {w w' : World} {v : Value} {us : List (Ru × Value)} (h : RRow w v us) (hb : Below w.heap.size w w') : RRow w' v us := by
  rcases h with h | ⟨g, o, c, hv, hl, hc⟩
  · exact .inl h
  · refine .inr ⟨g, o, c, hv, hl, fun j p hj => ?_⟩
    obtain ⟨c0, c1, c2, c3, c4, c5⟩ := hc j p hj
    exact ⟨(hb.cell (block_lt_of_cell c0)).trans c0, (hb.cell (block_lt_of_cell c1)).trans c1, (hb.cell (block_lt_of_cell c2)).trans c2, (hb.cell (block_lt_of_cell c3)).trans c3, (hb.cell (block_lt_of_cell c4)).trans c4, (hb.cell (block_lt_of_cell c5)).trans c5⟩
theorem rrow_of_owns {w : World} {base : Nat} {v : Value} {us : List (Ru × Value)} (h : w.ownsRow base 33 6 v us.length (flatR us)) (hl : us.length < 9223372036854775808) : RRow w v us := by
  by_cases h0 : us.length = 0
  · obtain ⟨p, c, rfl⟩ := row_form h
    exact .inl ⟨List.length_eq_zero_iff.1 h0, p, c, by rw [h0]⟩
  · obtain ⟨g, cap, hv, hc⟩ := own_slice h (by omega)
    refine .inr ⟨g, 0, cap, hv, hl, fun j p hj => ?_⟩
    obtain ⟨f0, f1, f2, f3, f4, f5⟩ := flatR_at us j p hj
    rw [Nat.zero_add]
    exact ⟨hc _ _ f0, hc _ _ f1, hc _ _ f2, hc _ _ f3, hc _ _ f4, hc _ _ f5⟩
end Go.Proofs.YtgfjbcdjpkcbkaaGreatDoor

/- What wrongRule and parse.Wrong come to. -/
namespace Lx
def ruleP (u : Ru) : Int := if Go.Proofs.YtgfjbcdjpkcbkaaGreatDoor.namedL u.1 = false then 7 else (shapeP u.2 1 0).1
def wrongL : List Ru → Nat → Int × Nat
  | [], _ => (0, 0)
  | u :: l, i => if ruleP u ≠ 0 then (ruleP u, i) else wrongL l (i + 1)
def wrongR (l : List Ru) : Int × Nat := if 40 < l.length then (5, 0) else wrongL l 0
theorem wrongL_step {l : List Ru} {j : Nat} {u : Ru} (h : l[j]? = some u) : wrongL (l.drop j) j = if ruleP u ≠ 0 then (ruleP u, j) else wrongL (l.drop (j + 1)) (j + 1) := by
  obtain ⟨h1, h2⟩ := List.getElem?_eq_some_iff.1 h
  rw [List.drop_eq_getElem_cons h1, h2]; rfl
end Lx
namespace Go.Proofs.YtgfjbcdjpkcbkaaGreatDoor
open Go.RowKit Lx
def RuleIn (w : World) (p : Ru × Value) : Prop := p.1.1.length ≤ 9223372036854775807 ∧ p.1.2.name.length ≤ 9223372036854775807 ∧ ∃ d, KidsB (fun k => k < w.heap.size) d w p.2 p.1.2.kids
theorem RuleIn.below {w w' : World} {p : Ru × Value} (h : RuleIn w p) (hb : Below w.heap.size w w') : RuleIn w' p := by
  obtain ⟨h1, h2, d, h3⟩ := h
  exact ⟨h1, h2, d, (h3.kept fun g _ hl => hb.block g hl).mono fun g hg => Nat.lt_of_lt_of_le hg hb.size⟩
structure InR (w : World) (v : Value) (us : List (Ru × Value)) : Prop where
  row : RRow w v us
  len : us.length < 9223372036854775808
  all : ∀ p ∈ us, RuleIn w p
theorem InR.below {w w' : World} {v : Value} {us : List (Ru × Value)} (h : InR w v us) (hb : Below w.heap.size w w') : InR w' v us := ⟨h.row.below hb, h.len, fun p hp => (h.all p hp).below hb⟩
theorem flt_ret {fn : Func} (s : Nat) (h : fn.results = #[ResultVar.cell s 26]) {R : Ending → World → Prop} {a : Act} {w : World} (g : Nat) (er at_ : Int) (hd : a.defers = []) (h2 : a.tmps.getD s undef = .pointer (some ⟨g, 0, none⟩))
    (hg : w.heap[g]? = some (.cells #[.int .i64 er, .int .i64 at_] 26 (0, 0))) (hR : R (.returned (.agg #[.int .i64 er, .int .i64 at_])) w) : bodyPost Tryz.prog fn R .ret a w := by
  refine bodyPost_ret (v := .agg #[.int .i64 er, .int .i64 at_]) ?_ hd hR
  have h2' : a.tmps[s]?.getD undef = .pointer (some ⟨g, 0, none⟩) := by simpa using h2
  have hv := run_loadVar_row (P := Tryz.prog) w g 26 26 _ _ _ hg faultType rfl (by kernel_rfl)
  simp [results, h, h2', asAddr, hv]
set_option maxRecDepth 100000 in
set_option maxHeartbeats 1000000 in
theorem wrule_any (u : Ru) (p : Option Addr) (c : Nat) (w : World) (h : RuleIn w (u, .slice p u.2.kids.length c)) :
    Calls Tryz.prog 30 #[.agg #[.string ⟨u.1.toArray⟩, .int .i64 u.2.kind, .int .i64 u.2.a, .int .i64 u.2.b, .string ⟨u.2.name.toArray⟩, .slice p u.2.kids.length c]] w fun r w' => r = .returned (.int .i64 (ruleP u)) ∧ Below w.heap.size w w' := by
  obtain ⟨h1, h2, d, h3⟩ := h
  dsimp only at h1 h2 h3
  have hbA := (Below.refl w.heap.size w).alloc (Nat.le_refl _) (.cells #[.string ⟨u.1.toArray⟩, .int .i64 u.2.kind, .int .i64 u.2.a, .int .i64 u.2.b, .string ⟨u.2.name.toArray⟩, .slice p u.2.kids.length c] 33)
  have hxA := heap_alloc_new w (.cells #[.string ⟨u.1.toArray⟩, .int .i64 u.2.kind, .int .i64 u.2.a, .int .i64 u.2.b, .string ⟨u.2.name.toArray⟩, .slice p u.2.kids.length c] 33)
  generalize hwA : w.alloc (.cells #[.string ⟨u.1.toArray⟩, .int .i64 u.2.kind, .int .i64 u.2.a, .int .i64 u.2.b, .string ⟨u.2.name.toArray⟩, .slice p u.2.kids.length c] 33) = wA at *
  have z0 := (cell_of_row _ _ 0 _ _ _ hxA).trans rfl
  have cN := named_big ⟨u.1.toArray⟩ u.1 rfl h1 wA
  have HP : Hid (ruleP u = if namedL u.1 = false then 7 else (shapeP u.2 1 0).1) := rfl
  cases hnb : namedL u.1 with
  | false =>
    have HE : Hid (ruleP u = 7) := by show _ = _; rw [HP.out, if_pos hnb]
    rw [hnb] at cN
    clear HP h3 hxA
    go_enter Tryz.func30, Tryz.ntmps30
    go_wp2_with fail
    refine cN.mono ?_
    rintro r w1 ⟨rfl, hb1⟩
    have hbw := hbA.trans (hb1.mono hbA.size)
    clear cN hb1 hbA hwA z0
    go_wp2_with fail
    go_ret
    rw [HE.out]
    exact ⟨rfl, hbw⟩
  | true =>
    have HE : Hid (ruleP u = (shapeP u.2 1 0).1) := by show _ = _; rw [HP.out, if_neg (by simp [hnb])]
    rw [hnb] at cN
    have hszA : w.heap.size < wA.heap.size := lt_of_block hxA
    clear HP
    go_enter Tryz.func30, Tryz.ntmps30
    go_wp2_with fail
    refine cN.mono ?_
    rintro r w1 ⟨rfl, hb1⟩
    have hb1w := hbA.trans (hb1.mono hbA.size)
    have hsz1 := hb1.size
    have hx1 := (hb1.block _ (lt_of_block hxA)).trans hxA
    have hbC : Below w1.heap.size w1 (w1.alloc (.cells #[.int .i64 0] 3)) := (Below.refl _ _).alloc (Nat.le_refl _) _
    have hn2 := heap_alloc_new w1 (.cells #[.int .i64 0] 3)
    have hxC := (hbC.block _ (lt_of_block hx1)).trans hx1
    have hlx := lt_of_block hx1
    have hbCw := hb1w.trans (hbC.mono hb1w.size)
    generalize hwC : w1.alloc (.cells #[.int .i64 0] 3) = wC at *
    have z2 := (cell_of_row _ _ 0 _ _ _ hn2).trans rfl
    have y2 := frozen_of_row _ _ 0 _ _ hn2
    have hc2 : CntAt (wC.setCell ⟨w1.heap.size, 0, none⟩ (.int .i64 0)) w1.heap.size 0 := heap_setCell_same _ _ 0 _ _ _ hn2
    have hx2 := (heap_setCell_other wC ⟨w1.heap.size, 0, none⟩ w.heap.size (.int .i64 0) (by show w.heap.size ≠ w1.heap.size; omega)).trans hxC
    have hb2w : Below w.heap.size w (wC.setCell ⟨w1.heap.size, 0, none⟩ (.int .i64 0)) := hbCw.setCell (p := ⟨w1.heap.size, 0, none⟩) (by show w.heap.size ≤ w1.heap.size; omega) _
    have cE := wexpr_any (B := fun k => k < w.heap.size) (gn := w1.heap.size) (fun k hk => by omega) d u.2 (.slice p u.2.kids.length c) (wC.setCell ⟨w1.heap.size, 0, none⟩ (.int .i64 0)) 1 0 (h3.kept fun g hg _ => hb2w.block g hg) h2 hc2 (by omega) (by omega)
    unfold exV at cE
    clear cN h3 hc2 hx1 hb1 hbA hxA z0 hwA hbC hn2 hxC hbCw
    generalize hw2 : wC.setCell ⟨w1.heap.size, 0, none⟩ (.int .i64 0) = w2 at *
    have e1 := (cell_of_row _ _ 1 _ _ _ hx2).trans rfl
    have e2 := (cell_of_row _ _ 2 _ _ _ hx2).trans rfl
    have e3 := (cell_of_row _ _ 3 _ _ _ hx2).trans rfl
    have e4 := (cell_of_row _ _ 4 _ _ _ hx2).trans rfl
    have e5 := (cell_of_row _ _ 5 _ _ _ hx2).trans rfl
    go_wp2_with fail
    refine cE.mono ?_
    rintro r w3 ⟨rfl, -, hk3⟩
    have hb3w : Below w.heap.size w w3 := ⟨hk3.os.trans hb2w.os, hk3.tape.trans hb2w.tape, hk3.output.trans hb2w.output, Nat.le_trans hb2w.size hk3.size, fun k hk => (hk3.block k (by have := hb2w.size; omega) (fun e => by have := Option.some.inj e; omega)).trans (hb2w.block k hk)⟩
    clear cE hk3 hb2w hw2 e1 e2 e3 e4 e5 hx2
    go_wp2_with fail
    go_ret
    rw [HE.out]
    exact ⟨rfl, hb3w⟩
set_option maxRecDepth 100000 in
set_option maxHeartbeats 2000000 in
theorem wrong_any (us : List (Ru × Value)) (v : Value) (w : World) (h : InR w v us) :
    Calls Tryz.prog 16 #[v] w fun r w' => r = .returned (.agg #[.int .i64 (wrongR (us.map (fun p => p.1))).1, .int .i64 ((wrongR (us.map (fun p => p.1))).2 : Int)]) ∧ Below w.heap.size w w' := by
  have hlen := h.len
  have hform : ∃ p c, v = .slice p us.length c := by
    rcases h.row with ⟨rfl, p, c, hv⟩ | ⟨g, o, c, hv, _⟩
    · exact ⟨p, c, hv⟩
    · exact ⟨_, c, hv⟩
  obtain ⟨p, c, rfl⟩ := hform
  have hb0 := (Below.refl w.heap.size w).alloc (Nat.le_refl _) (.cells #[.int .i64 0, .int .i64 0] 26)
  have hr0 := heap_alloc_new w (.cells #[.int .i64 0, .int .i64 0] 26)
  generalize hX : wrongR (us.map (fun p => p.1)) = X
  have hX' := hX
  unfold wrongR at hX'
  rw [List.length_map] at hX'
  have HIN : Hid (InR w (.slice p us.length c) us) := h
  clear hX
  generalize hwA : w.alloc (.cells #[.int .i64 0, .int .i64 0] 26) = wA at *
  by_cases hm : 40 < us.length
  · have hm' : (40 : Int) < (us.length : Int) := by omega
    rw [if_pos hm] at hX'
    subst hX'
    clear HIN h
    go_enter Tryz.func16, Tryz.ntmps16
    go_wp2_with (refine wpList_store_row rfl 26 _ _ rfl _ _ rfl rfl _ _ hr0 (by kernel_rfl) (by simp) (by simp [Value.oneCell']) ?_)
    exact flt_ret 2 (by kernel_rfl) w.heap.size 5 0 rfl rfl (setRow_heap _ _ _ _ _ _ hr0) ⟨rfl, below_setRow hb0 (Nat.le_refl _) _⟩
  · have hm' : ¬ (40 : Int) < (us.length : Int) := by omega
    rw [if_neg hm] at hX'
    have HS : Hid (wrongL ((us.map (fun p => p.1)).drop 0) 0 = X) := hX'
    clear hX' h
    go_enter Tryz.func16, Tryz.ntmps16
    go_wp2_with fail
    clear hwA
    go_loopw [12] (fun t wr => ∃ j : Nat, t = .int .i64 (j : Int) ∧ j ≤ us.length ∧ wrongL ((us.map (fun p => p.1)).drop j) j = X ∧ wr.heap[w.heap.size]? = some (.cells #[.int .i64 0, .int .i64 0] 26 (0, 0)) ∧ Below w.heap.size w wr) (fun t _ => us.length - (intOf t).toNat)
    case atStart => exact ⟨0, rfl, by omega, HS.out, hr0, hb0⟩
    case round =>
      obtain ⟨j, rfl, hj, hXr, hrr, hbr⟩ := hrel
      clear HS hr0 hb0
      have hj0 : (0 : Int) ≤ (j : Int) := by omega
      have hj4 : (j : Int) ≤ 40 := by omega
      by_cases hlt : j < us.length
      · have hlt' : (j : Int) < (us.length : Int) := by omega
        obtain ⟨⟨u, sk⟩, hjk⟩ : ∃ k, us[j]? = some k := ⟨us[j], List.getElem?_eq_getElem hlt⟩
        have hju : (us.map (fun p => p.1))[j]? = some u := by rw [List.getElem?_map, hjk]; rfl
        rw [wrongL_step hju] at hXr
        have hin := HIN.out.all _ (List.mem_of_getElem? hjk)
        obtain ⟨pk, ck, hsk⟩ : ∃ p c, sk = .slice p u.2.kids.length c := by
          obtain ⟨_, _, d, hd⟩ := hin
          exact hd.form
        subst hsk
        rcases HIN.out.row with ⟨h, _⟩ | ⟨g, o, c', hsl, _, hcells⟩
        · rw [h] at hlt; simp at hlt
        injection hsl with e1 e2 e3
        subst e1
        subst e3
        obtain ⟨d0, d1, d2, d3, d4, d5⟩ := hcells j _ hjk
        dsimp only at d0 d1 d2 d3 d4 d5
        have f0 := (hbr.cell (block_lt_of_cell d0)).trans d0
        have f1 := (hbr.cell (block_lt_of_cell d1)).trans d1
        have f2 := (hbr.cell (block_lt_of_cell d2)).trans d2
        have f3 := (hbr.cell (block_lt_of_cell d3)).trans d3
        have f4 := (hbr.cell (block_lt_of_cell d4)).trans d4
        have f5 := (hbr.cell (block_lt_of_cell d5)).trans d5
        have hbB : Below wr.heap.size wr (wr.alloc (.cells #[.string ⟨u.1.toArray⟩, .int .i64 u.2.kind, .int .i64 u.2.a, .int .i64 u.2.b, .string ⟨u.2.name.toArray⟩, .slice pk u.2.kids.length ck] 33)) := (Below.refl _ _).alloc (Nat.le_refl _) _
        have hxB := heap_alloc_new wr (.cells #[.string ⟨u.1.toArray⟩, .int .i64 u.2.kind, .int .i64 u.2.a, .int .i64 u.2.b, .string ⟨u.2.name.toArray⟩, .slice pk u.2.kids.length ck] 33)
        have hbBw := hbr.trans (hbB.mono hbr.size)
        have hrB := (hbB.block _ (lt_of_block hrr)).trans hrr
        have cR := wrule_any u pk ck _ (hin.below hbBw)
        clear d0 d1 d2 d3 d4 d5 hcells hin hjk hju hbB hrr hbr
        have HXr : Hid ((if ruleP u ≠ 0 then (ruleP u, j) else wrongL ((us.map (fun p => p.1)).drop (j + 1)) (j + 1)) = X) := hXr
        clear hXr
        generalize ruleP u = R at *
        generalize hwB : wr.alloc (.cells #[.string ⟨u.1.toArray⟩, .int .i64 u.2.kind, .int .i64 u.2.a, .int .i64 u.2.b, .string ⟨u.2.name.toArray⟩, .slice pk u.2.kids.length ck] 33) = wB at *
        go_wp2_with (refine wpList_load_row rfl 33 _ rfl _ rfl _ _ _ _ hxB ruleType rfl (by kernel_rfl) ?_)
        refine cR.mono ?_
        rintro r w3 ⟨rfl, hb3⟩
        have hb3w := hbBw.trans (hb3.mono hbBw.size)
        have hr3 := (hb3.block _ (lt_of_block hrB)).trans hrB
        clear cR hb3 hbBw hrB hxB hwB f0 f1 f2 f3 f4 f5
        by_cases hy : R = 0
        · subst hy
          have hXX := HXr.out
          rw [if_neg (by simp)] at hXX
          have HN : Hid (wrongL ((us.map (fun p => p.1)).drop (j + 1)) (j + 1) = X) := hXX
          clear hXX HXr
          go_wp2_with fail
          go_roundw
          case rel => exact ⟨j + 1, by go_num, by omega, HN.out, hr3, hb3w⟩
          case measure => simp [intOf]; omega
        · have hyb : (R != 0) = true := by simpa using hy
          have hXX := HXr.out
          rw [if_pos hy] at hXX
          subst hXX
          clear HXr
          go_wp2_with (refine wpList_store_row rfl 26 _ _ rfl _ _ rfl rfl _ _ hr3 (by kernel_rfl) (by simp) (by simp [Value.oneCell']) ?_)
          exact flt_ret 2 (by kernel_rfl) w.heap.size R (j : Int) rfl rfl (setRow_heap _ _ _ _ _ _ hr3) ⟨rfl, below_setRow hb3w (Nat.le_refl _) _⟩
      · have hlt' : ¬ (j : Int) < (us.length : Int) := by omega
        rw [List.drop_eq_nil_of_le (by simp; omega)] at hXr
        have hXX : (0, 0) = X := hXr
        subst hXX
        clear hXr
        go_wp2_with (refine wpList_store_row rfl 26 _ _ rfl _ _ rfl rfl _ _ hrr (by kernel_rfl) (by simp) (by simp [Value.oneCell']) ?_)
        exact flt_ret 2 (by kernel_rfl) w.heap.size 0 0 rfl rfl (setRow_heap _ _ _ _ _ _ hrr) ⟨rfl, below_setRow hbr (Nat.le_refl _) _⟩
end Go.Proofs.YtgfjbcdjpkcbkaaGreatDoor

/- What the document's At, Speaks and Unknown come to. -/
namespace Go.Proofs.YtgfjbcdjpkcbkaaGreatDoor
open Go.RowKit Lx
theorem hid5 {p : Prop} (h : p) : Hid p := h
theorem InR.cells {w : World} {us : List (Ru × Value)} {pv : Option Addr} {cv : Nat} (h : InR w (.slice pv us.length cv) us) : ∀ (j : Nat) (p : Ru × Value), us[j]? = some p → ∃ g o : Nat, pv = some ⟨g, o, none⟩ ∧
      w.cell? ⟨g, o + j * 6, none⟩ = some (.string ⟨p.1.1.toArray⟩) ∧ w.cell? ⟨g, o + j * 6 + 1, none⟩ = some (.int .i64 p.1.2.kind) ∧ w.cell? ⟨g, o + j * 6 + 2, none⟩ = some (.int .i64 p.1.2.a) ∧ w.cell? ⟨g, o + j * 6 + 3, none⟩ = some (.int .i64 p.1.2.b) ∧
      w.cell? ⟨g, o + j * 6 + 4, none⟩ = some (.string ⟨p.1.2.name.toArray⟩) ∧ w.cell? ⟨g, o + j * 6 + 5, none⟩ = some p.2 := fun j p hj => by
  rcases h.row with ⟨h0, _⟩ | ⟨g, o, c, hv', hl, hc⟩
  · rw [h0] at hj; simp at hj
  · injection hv' with e1
    exact ⟨g, o, e1, hc j p hj⟩
theorem InR.form {w : World} {v : Value} {us : List (Ru × Value)} (h : InR w v us) : ∃ p c, v = .slice p us.length c := by
  rcases h.row with ⟨rfl, p, c, hv⟩ | ⟨g, o, c, hv, _⟩
  · exact ⟨p, c, hv⟩
  · exact ⟨_, c, hv⟩
end Go.Proofs.YtgfjbcdjpkcbkaaGreatDoor

/- A map from names to numbers: what Numbers makes; and whether a row of numbers holds one. -/
namespace Go.Proofs.YtgfjbcdjpkcbkaaGreatDoor
open Go.RowKit Lx
theorem mapT5 : Tryz.prog.underlying 53 = some (.map 9 3) := by kernel_rfl
theorem strT5 : Tryz.prog.underlying 9 = some .string := by kernel_rfl
theorem find_push (k : Value) (e : MapEntry) : ∀ (es : List MapEntry) (i : Nat), Instr.findNow .string k (es ++ [e]) i = match Instr.findNow .string k es i with
    | some (some r) => some (some r)
    | some none => (match Instr.sameNow .string k e.key with | some true => some (some (i + es.length, e.val)) | some false => some none | none => none)
    | none => none
  | [], i => by
    simp only [List.nil_append, Instr.findNow, List.length_nil, Nat.add_zero]
    cases Instr.sameNow .string k e.key with
    | none => rfl
    | some b => cases b <;> rfl
  | x :: es, i => by
    simp only [List.cons_append, Instr.findNow]
    cases Instr.sameNow .string k x.key with
    | none => rfl
    | some b =>
      cases b with
      | true => rfl
      | false =>
        have := find_push k e es (i + 1)
        rw [this]
        simp only [List.length_cons]
        rw [show i + 1 + es.length = i + (es.length + 1) by omega]
def EsN (es : List MapEntry) (l : List Ru) : Prop := ∀ x : List UInt8, (0 ≤ atP5 l x ∧ ∃ i, Instr.findNow .string (.string ⟨x.toArray⟩) es 0 = some (some (i, .int .i64 (atP5 l x)))) ∨ (atP5 l x = -1 ∧ Instr.findNow .string (.string ⟨x.toArray⟩) es 0 = some none)
def MapN (w : World) (b : Nat) (l : List Ru) : Prop := ∃ es c, w.heap[b]? = some (.map es c) ∧ EsN es.toList l
theorem MapN.later {w w' : World} {b : Nat} {l : List Ru} (h : MapN w b l) (hk : w'.heap[b]? = w.heap[b]?) : MapN w' b l := by
  obtain ⟨es, c, h1, h2⟩ := h
  exact ⟨es, c, hk.trans h1, h2⟩
theorem lt_of_map {w : World} {b : Nat} {l : List Ru} (h : MapN w b l) : b < w.heap.size := by
  obtain ⟨es, c, h1, _⟩ := h
  exact (Array.getElem?_eq_some_iff.1 h1).1
theorem atF_snoc : ∀ (l : List Ru) (i : Nat) (u : Ru) (x : List UInt8), atF (l ++ [u]) i x = if 0 ≤ atF l i x then atF l i x else if u.1 = x then ((i + l.length : Nat) : Int) else -1
  | [], i, u, x => by simp [atF]
  | v :: l, i, u, x => by
    have := atF_snoc l (i + 1) u x
    have e1 : atF (v :: l ++ [u]) i x = if v.1 = x then (i : Int) else atF (l ++ [u]) (i + 1) x := rfl
    have e2 : atF (v :: l) i x = if v.1 = x then (i : Int) else atF l (i + 1) x := rfl
    by_cases h : v.1 = x
    · rw [if_pos h] at e1 e2
      rw [e1, e2, if_pos (by omega)]
    · rw [if_neg h] at e1 e2
      rw [e1, e2, this, List.length_cons, show i + 1 + l.length = i + (l.length + 1) by omega]
theorem same_str (x y : List UInt8) : Instr.sameNow .string (.string ⟨x.toArray⟩) (.string ⟨y.toArray⟩) = some (decide (x = y)) := by
  have e : ((⟨x.toArray⟩ : ByteArray) == ⟨y.toArray⟩) = decide (x = y) := by
    show (x.toArray == y.toArray) = _
    by_cases h : x = y
    · subst h; simp
    · simp [h]
  simp [Instr.sameNow, e]
theorem EsN.taken {es : List MapEntry} {l : List Ru} {u : Ru} (h : EsN es l) (ht : 0 ≤ atP5 l u.1) : EsN es (l ++ [u]) := fun x => by
  have e : atP5 (l ++ [u]) x = atP5 l x := by
    unfold atP5 at *
    rw [atF_snoc]
    split
    · rfl
    · rename_i hx
      have hne : u.1 ≠ x := fun e => by subst e; exact hx ht
      rw [if_neg hne]
      have := atF_bd l 0 x
      omega
  rw [e]
  exact h x
theorem EsN.push {es : List MapEntry} {l : List Ru} {u : Ru} {c : Nat} (h : EsN es l) : EsN (es ++ [⟨.string ⟨u.1.toArray⟩, .int .i64 (l.length : Int), c⟩]) (l ++ [u]) := fun x => by
  rw [find_push]
  have e : atP5 (l ++ [u]) x = if 0 ≤ atP5 l x then atP5 l x else if u.1 = x then (l.length : Int) else -1 := by
    unfold atP5
    rw [atF_snoc, Nat.zero_add]
  rcases h x with ⟨h1, i, h2⟩ | ⟨h1, h2⟩
  · rw [if_pos h1] at e
    rw [h2, e]
    exact .inl ⟨h1, i, rfl⟩
  · rw [if_neg (by omega)] at e
    rw [h2]
    dsimp only
    rw [same_str]
    by_cases hx : x = u.1
    · subst hx
      rw [if_pos rfl] at e
      rw [e, decide_eq_true rfl]
      exact .inl ⟨by omega, _, rfl⟩
    · rw [if_neg (fun e => hx e.symm)] at e
      rw [e, decide_eq_false hx]
      exact .inr ⟨rfl, rfl⟩
theorem EsN.nil : EsN [] [] := fun _ => .inr ⟨rfl, rfl⟩
theorem look5 {w : World} {b : Nat} {l : List Ru} (h : MapN w b l) (x : List UInt8) : (Instr.lookup 53 (.map (some b)) (.string ⟨x.toArray⟩) true).run Tryz.prog w = .ok (.tuple #[.int .i64 (if 0 ≤ atP5 l x then atP5 l x else 0), .bool (decide (0 ≤ atP5 l x))]) w := by
  obtain ⟨es, c, hb, hE⟩ := h
  have hc : ∀ z, (Instr.checkKey z 10000 9 (.string ⟨x.toArray⟩)).run Tryz.prog w = .ok () w := fun z => MapKept.run_checkKey (k := .string _) strT5 (by simp [MapKept.IsKey]) z 9999
  have hz : (zeroValue 3).run Tryz.prog w = .ok (.int .i64 0) w := by kernel_rfl
  rcases hE x with ⟨h1, i, h2⟩ | ⟨h1, h2⟩
  · simp [Instr.lookup, run_underlying mapT5, MapKept.run_getObj_map hb, hc, MapKept.run_findKey strT5 h2, Result.andThen, h1]
  · simp [Instr.lookup, run_underlying mapT5, MapKept.run_getObj_map hb, hc, MapKept.run_findKey strT5 h2, hz, Result.andThen, h1]
theorem look6 {w : World} {b : Nat} {l : List Ru} (h : MapN w b l) (x : List UInt8) (hx : 0 ≤ atP5 l x) : (Instr.lookup 53 (.map (some b)) (.string ⟨x.toArray⟩) false).run Tryz.prog w = .ok (.int .i64 (atP5 l x)) w := by
  obtain ⟨es, c, hb, hE⟩ := h
  have hc : ∀ z, (Instr.checkKey z 10000 9 (.string ⟨x.toArray⟩)).run Tryz.prog w = .ok () w := fun z => MapKept.run_checkKey (k := .string _) strT5 (by simp [MapKept.IsKey]) z 9999
  rcases hE x with ⟨h1, i, h2⟩ | ⟨h1, h2⟩
  · simp [Instr.lookup, run_underlying mapT5, MapKept.run_getObj_map hb, hc, MapKept.run_findKey strT5 h2, Result.andThen]
  · omega
theorem ins5 {w : World} {b : Nat} {l : List Ru} {u : Ru} (h : MapN w b l) (ht : atP5 l u.1 = -1) : ∃ o, (Instr.mapUpdate 53 (.map (some b)) (.string ⟨u.1.toArray⟩) (.int .i64 (l.length : Int))).run Tryz.prog w = .ok () (putB5 w b o) ∧ MapN (putB5 w b o) b (l ++ [u]) := by
  obtain ⟨es, c, hb, hE⟩ := h
  have hc : (Instr.checkKey false 10000 9 (.string ⟨u.1.toArray⟩)).run Tryz.prog w = .ok () w := MapKept.run_checkKey (k := .string _) strT5 (by simp [MapKept.IsKey]) false 9999
  have hn : Instr.findNow .string (.string ⟨u.1.toArray⟩) es.toList 0 = some none := by
    rcases hE u.1 with ⟨h1, _⟩ | ⟨_, h2⟩
    · omega
    · exact h2
  refine ⟨.map (es.push ⟨.string ⟨u.1.toArray⟩, .int .i64 (l.length : Int), c⟩) (c + 1), ?_, es.push ⟨.string ⟨u.1.toArray⟩, .int .i64 (l.length : Int), c⟩, c + 1, (MapKept.heap_set hb).1, ?_⟩
  · simp [Instr.mapUpdate, run_underlying mapT5, MapKept.run_getObj_map hb, hc, MapKept.run_findKey strT5 hn, MapKept.run_setObj_map _ hb, Result.andThen, putB5]
  · rw [Array.toList_push]
    exact hE.push
theorem make_hint (n : Nat) (_ : n < 9223372036854775808) (w : World) : (Instr.makeMap 53 (some (.int .i64 (n : Int)))).run Tryz.prog w = .ok (.map (some w.heap.size)) (w.alloc (.map #[] 0)) := by
  unfold Instr.makeMap
  simp [go_sem]
def OutNu (us : List (Ru × Value)) (w : World) (r : Ending) (w' : World) : Prop := ∃ b, r = .returned (.map (some b)) ∧ w.heap.size ≤ b ∧ MapN w' b (us.map (fun p => p.1)) ∧ Below w.heap.size w w'
def NRel (us : List (Ru × Value)) (w : World) (t : Value) (wr : World) : Prop := ∃ j : Nat, t = .int .i64 (j : Int) ∧ j ≤ us.length ∧ MapN wr w.heap.size ((us.map (fun p => p.1)).take j) ∧ Below w.heap.size w wr
set_option maxRecDepth 100000 in
set_option maxHeartbeats 1000000 in
theorem numbers_any (us : List (Ru × Value)) (v : Value) (w : World) (h : InR w v us) : Calls Tryz.prog 17 #[v] w (OutNu us w) := by
  obtain ⟨pv, cv, rfl⟩ := h.form
  have HK := hid5 h.cells
  have hlen := h.len
  have HA : Hid (∀ p ∈ us, ∃ q n c, p.2 = .slice q n c) := fun p hp => by
    obtain ⟨_, _, d, hd⟩ := h.all p hp
    obtain ⟨q, c, e⟩ := hd.form
    exact ⟨q, _, c, e⟩
  clear h
  have hb0 := (Below.refl w.heap.size w).alloc (Nat.le_refl _) (.map #[] 0)
  have hm0 : MapN (w.alloc (.map #[] 0)) w.heap.size [] := ⟨#[], 0, (MapKept.heap_alloc w _).1, EsN.nil⟩
  have hmk := fun W => make_hint us.length hlen W
  go_enter Tryz.func17, Tryz.ntmps17
  go_wp2_with fail
  go_loopw [4, 5, 6, 7, 13] (fun _ _ _ _ t wr => NRel us w t wr) (fun _ _ _ _ t _ => us.length - (intOf t).toNat)
  case atStart => exact ⟨0, rfl, by omega, hm0, hb0⟩
  case round =>
    obtain ⟨j, rfl, hj, hM, hbr⟩ := hrel
    clear hb0 hm0
    have hj0 : (0 : Int) ≤ (j : Int) := by omega
    by_cases hlt : j < us.length
    · have hlt' : (j : Int) < (us.length : Int) := by omega
      obtain ⟨⟨u, sk⟩, hjk⟩ : ∃ p, us[j]? = some p := ⟨us[j], List.getElem?_eq_getElem hlt⟩
      have htk : (us.map (fun p => p.1)).take (j + 1) = (us.map (fun p => p.1)).take j ++ [u] := by
        have hum : (us.map (fun p => p.1))[j]? = some u := by rw [List.getElem?_map, hjk]; rfl
        rw [List.take_add_one, hum]; rfl
      have htl : ((us.map (fun p => p.1)).take j).length = j := by simp; omega
      obtain ⟨g, o, hpe, c0, c1, c2, c3, c4, c5⟩ := HK.out j _ hjk
      obtain ⟨qs, ns, cs, hsk⟩ := HA.out _ (List.mem_of_getElem? hjk)
      dsimp only at c0 c1 c2 c3 c4 c5 hsk
      subst hsk hpe
      have d0 := (hbr.cell (block_lt_of_cell c0)).trans c0
      have d1 := (hbr.cell (block_lt_of_cell c1)).trans c1
      have d2 := (hbr.cell (block_lt_of_cell c2)).trans c2
      have d3 := (hbr.cell (block_lt_of_cell c3)).trans c3
      have d4 := (hbr.cell (block_lt_of_cell c4)).trans c4
      have d5 := (hbr.cell (block_lt_of_cell c5)).trans c5
      have hbA := hbr.alloc hbr.size (.cells #[.string ⟨u.1.toArray⟩, .int .i64 u.2.kind, .int .i64 u.2.a, .int .i64 u.2.b, .string ⟨u.2.name.toArray⟩, .slice qs ns cs] 33)
      have hxB := heap_alloc_new wr (.cells #[.string ⟨u.1.toArray⟩, .int .i64 u.2.kind, .int .i64 u.2.a, .int .i64 u.2.b, .string ⟨u.2.name.toArray⟩, .slice qs ns cs] 33)
      have hMA : MapN (wr.alloc (.cells #[.string ⟨u.1.toArray⟩, .int .i64 u.2.kind, .int .i64 u.2.a, .int .i64 u.2.b, .string ⟨u.2.name.toArray⟩, .slice qs ns cs] 33)) w.heap.size ((us.map (fun p => p.1)).take j) := hM.later (Below.heap_alloc _ _ _ (lt_of_map hM))
      have hlk := look5 hMA u.1
      clear hjk c0 c1 c2 c3 c4 c5 hM
      generalize hwB : wr.alloc (.cells #[.string ⟨u.1.toArray⟩, .int .i64 u.2.kind, .int .i64 u.2.a, .int .i64 u.2.b, .string ⟨u.2.name.toArray⟩, .slice qs ns cs] 33) = wB at *
      have z0 := (cell_of_row _ _ 0 _ _ _ hxB).trans rfl
      by_cases ht : 0 ≤ atP5 ((us.map (fun p => p.1)).take j) u.1
      · rw [if_pos ht, decide_eq_true ht] at hlk
        have hMN : MapN wB w.heap.size ((us.map (fun p => p.1)).take (j + 1)) := by
          obtain ⟨es, c, h1, h2⟩ := hMA
          rw [htk]
          exact ⟨es, c, h1, h2.taken ht⟩
        generalize atP5 ((us.map (fun p => p.1)).take j) u.1 = n at *
        have HM := hid5 hMN
        clear hMA htk htl hMN ht
        go_wp2_with fail
        go_roundw
        case rel => exact ⟨j + 1, by go_num, by omega, HM.out, hbA⟩
        case measure => simp [intOf]; omega
      · rw [if_neg ht, decide_eq_false ht] at hlk
        have hm1 : atP5 ((us.map (fun p => p.1)).take j) u.1 = -1 := by
          have := (atP5_bd ((us.map (fun p => p.1)).take j) u.1).1
          omega
        obtain ⟨ob, hup, hMN⟩ := ins5 hMA hm1
        rw [htl] at hup
        rw [← htk] at hMN
        have hbN := putB5_below hbA (Nat.le_refl _) ob
        have HM := hid5 hMN
        clear hMA htk htl hMN ht hm1
        go_wp2_with fail
        go_roundw
        case rel => exact ⟨j + 1, by go_num, by omega, HM.out, hbN⟩
        case measure => simp [intOf]; omega
    · have ej : j = us.length := by omega
      have hlt' : ¬ (j : Int) < (us.length : Int) := by omega
      have HO : Hid (OutNu us w (.returned (.map (some w.heap.size))) wr) := by
        refine ⟨w.heap.size, rfl, Nat.le_refl _, ?_, hbr⟩
        rw [ej, List.take_of_length_le (by simp)] at hM
        exact hM
      clear hM HK HA ej
      go_wp2_with fail
      go_ret
      exact HO.out
end Go.Proofs.YtgfjbcdjpkcbkaaGreatDoor

/- What slices.Index and slices.Contains of numbers come to. -/
namespace Go.Proofs.YtgfjbcdjpkcbkaaGreatDoor
end Go.Proofs.YtgfjbcdjpkcbkaaGreatDoor
