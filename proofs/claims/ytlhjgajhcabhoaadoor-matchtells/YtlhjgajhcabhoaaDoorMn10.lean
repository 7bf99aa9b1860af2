/- The law MatchDays, walked. Written by genmam.py. -/
import Derived.Test.YtlhjgajhcabhoaaDoorMn09
import Derived.Test.YtlhjgajhcabhoaaDoorMn01
import Derived.Lib.SmallJoins
import Derived.OpenShut
import Derived.Test.YtlhjgajhcabhoaaDoorMn06
import Derived.SizedLaws
import Derived.Test.YtlhjgajhcabhoaaDoorMn02
import Derived.Test.YtlhjgajhcabhoaaDoorCards
import Derived.Test.YtlhjgajhcabhoaaDoorTie
import Derived.ProofKit
import Derived.LaidMore
import Derived.Stop.Joined
import Derived.SevenTiedAt
import Derived.Lib.LaidTab
import Derived.Carry
import Derived.Test.YtlhjgajhcabhoaaDoorRows
namespace Go.Proofs.YtlhjgajhcabhoaaDoor
open Go.RowKit Msk Mx Lx

theorem in_addM (g o n : Nat) : (⟨g, o, none⟩ : Addr).add n = ⟨g, o + n, none⟩ := by
  by_cases h : n = 0
  · subst h; simp [Addr.add]
  · simp [Addr.add, h]
/-- Days from one on. -/
theorem RowDs.drop {w : World} {p : Option Addr} {c : Nat} {ds : List (List (Nat → Bool))} (h : RowDs w (.slice p ds.length c) ds) (j : Nat) (hj : j ≤ ds.length) (hc : ds.length ≤ c) : RowDs w (.slice (if c = j then p else Option.map (fun x => x.add j) p) (ds.length - j) (c - j)) (ds.drop j) := by
  obtain ⟨p', c', e, h2, h3⟩ := h
  cases e
  refine ⟨_, _, by rw [List.length_drop], by rw [List.length_drop]; omega, fun i fs hi => ?_⟩
  rw [List.getElem?_drop] at hi
  obtain ⟨g, o, sv, hp, hc, hr⟩ := h3 (j + i) fs hi
  have hil := (List.getElem?_eq_some_iff.1 hi).1
  subst hp
  refine ⟨g, o + j, sv, ?_, by rw [Nat.add_assoc]; exact hc, hr⟩
  rw [if_neg (by omega)]
  show some ((⟨g, o, none⟩ : Addr).add j) = _
  rw [in_addM]
theorem daysE_sub {s : Sv} : ∀ {l : List (List (Nat → Bool))} (n : Nat), daysE s l = 0 → daysE s (l.drop n) = 0
  | _, 0, h => h
  | [], n + 1, _ => rfl
  | d :: l, n + 1, h => by
    have hd := daysE_ok h d List.mem_cons_self
    rw [daysE, if_neg (by simpa using hd)] at h
    exact daysE_sub n h
theorem daysF_at {s : Sv} : ∀ {l : List (List (Nat → Bool))} {k n : Nat} {fs : List (Nat → Bool)} {m : Int} {who : List Int}, l[k]? = some fs → firstP s.len s.bef s.aft s.roles fs = some (m, who) → (∀ (j : Nat) (gs : List (Nat → Bool)), j < k → l[j]? = some gs → firstP s.len s.bef s.aft s.roles gs = none) → daysF s l n = some (n + k, m, who)
  | [], k, _, _, _, _, h, _, _ => by simp at h
  | d :: l, 0, n, fs, m, who, h, hp, _ => by
    cases Option.some.inj h
    rw [daysF, hp]
    rfl
  | d :: l, k + 1, n, fs, m, who, h, hp, hno => by
    rw [daysF, hno 0 d (by omega) rfl]
    have := daysF_at (s := s) (l := l) (k := k) (n := n + 1) (by simpa using h) hp (fun j gs hj hg => hno (j + 1) gs (by omega) (by simpa using hg))
    rw [show n + (k + 1) = n + 1 + k by omega]
    exact this
theorem daysF_no {s : Sv} : ∀ {l : List (List (Nat → Bool))} {n : Nat}, (∀ fs ∈ l, firstP s.len s.bef s.aft s.roles fs = none) → daysF s l n = none
  | [], _, _ => rfl
  | d :: l, n, h => by
    rw [daysF, h d List.mem_cons_self]
    exact daysF_no (fun fs hf => h fs (List.mem_cons_of_mem _ hf))
theorem find_later {s : Sv} {ds : List (List (Nat → Bool))} {sd sm : Int} {who : List Int} (h : findP s ds = ⟨0, sd, sm, who⟩) {fn : Nat} (hf : (fn : Int) ≤ sd) : findP s (ds.drop fn) = ⟨0, sd - fn, sm, who⟩ := by
  have hz := find_zero (s := s) (ds := ds) (by rw [h])
  rw [h] at hz
  obtain ⟨h1, h2, d, fs, e1, e2, e3, e4⟩ := hz
  dsimp only at e1 e3
  have hd : (ds.drop fn)[d - fn]? = some fs := by rw [List.getElem?_drop, show fn + (d - fn) = d by omega]; exact e2
  have hF := daysF_at (s := s) (l := ds.drop fn) (k := d - fn) (n := 0) hd e3 (fun j gs hj hg => by
    rw [List.getElem?_drop] at hg
    exact e4 (fn + j) gs (by omega) hg)
  unfold findP
  rw [if_neg (by rw [List.length_drop]; omega), if_neg (by rw [daysE_sub fn h2]; simp), hF]
  show Sl.mk 0 _ _ _ = _
  congr 1
  omega
theorem find_none {s : Sv} {ds : List (List (Nat → Bool))} (h : (findP s ds).err = 11) (fn : Nat) : (findP s (ds.drop fn)).err = 11 := by
  obtain ⟨h1, h2, h3⟩ := find_slot h
  unfold findP
  rw [if_neg (by rw [List.length_drop]; omega), if_neg (by rw [daysE_sub fn h2]; simp), daysF_no (fun fs hf => h3 fs (List.mem_of_mem_drop hf))]
/-- What is said while the second search is laid. -/
structure DJ (w0 : World) (ds2 : List (List (Nat → Bool))) (d2 m2 er2 : Int) (wh2 : List Int) (v : Value) (g : Nat) (L : Nat → Bool) (φ : Nat → Value) (W : World) : Prop where
  bel : Below w0.heap.size w0 W
  sl : L 3 = true → L 4 = false → RowDs W (φ 31) ds2
  t32 : L 4 = true → φ 32 = .tuple #[.agg #[.int .i64 d2, .int .i64 m2, v], .int .i64 er2] ∧ W.ownsRow w0.heap.size 3 1 v wh2.length (intsV wh2)
  t27 : L 5 = true → φ 27 = .tuple #[.agg #[.int .i64 d2, .int .i64 m2, v], .int .i64 er2]
  t33 : L 6 = true → φ 33 = .agg #[.int .i64 d2, .int .i64 m2, v]
  p9 : L 8 = true → φ 9 = .pointer (some ⟨g, 0, none⟩) ∧ w0.heap.size ≤ g ∧ W.heap[g]? = some (.cells (if L 9 = true then #[.int .i64 d2, .int .i64 m2, v] else #[.int .i64 0, .int .i64 0, .slice none 0 0]) 28 (0, 0))
section
variable {w0 W W' : World} {ds2 : List (List (Nat → Bool))} {d2 m2 er2 : Int} {wh2 : List Int} {v : Value} {g : Nat} {L : Nat → Bool} {φ : Nat → Value}
theorem orT {i k : Nat} {b : Bool} (hne : i ≠ k) : (decide (i = k) || b) = b := by simp [hne]
theorem DJ.on (h : DJ w0 ds2 d2 m2 er2 wh2 v g L φ W) (i s : Nat) (u : Value) (hi : decide (i ∉ [3, 4, 5, 6, 8, 9]) = true) (hs : decide (s ∉ [31, 32, 27, 33, 9]) = true) (hb : Below W.heap.size W W') : DJ w0 ds2 d2 m2 er2 wh2 v g (fun k => decide (i = k) || L k) (putF φ (some s) u) W' := by
  have hi := of_decide_eq_true hi
  have hs := of_decide_eq_true hs
  simp at hi hs
  obtain ⟨i3, i4, i5, i6, i8, i9⟩ := hi
  obtain ⟨s31, s32, s27, s33, s9⟩ := hs
  refine ⟨h.bel.trans (hb.mono h.bel.size), fun e e4 => ?_, fun e => ?_, fun e => ?_, fun e => ?_, fun e => ?_⟩
  · rw [orT i3] at e
    rw [orT i4] at e4
    rw [putF_ne s31]
    exact (h.sl e e4).below hb
  · rw [orT i4] at e
    exact ⟨(putF_ne s32).trans (h.t32 e).1, owns_below (h.t32 e).2 hb⟩
  · rw [orT i5] at e
    exact (putF_ne s27).trans (h.t27 e)
  · rw [orT i6] at e
    exact (putF_ne s33).trans (h.t33 e)
  · rw [orT i8] at e
    obtain ⟨q1, q2, q3⟩ := h.p9 e
    rw [orT i9]
    exact ⟨(putF_ne s9).trans q1, q2, (hb.block _ (lt_of_block q3)).trans q3⟩
theorem DJ.slice (h : DJ w0 ds2 d2 m2 er2 wh2 v g L φ W) (q : Value) (hq : RowDs W q ds2) : DJ w0 ds2 d2 m2 er2 wh2 v g (fun k => decide (3 = k) || L k) (putF φ (some 31) q) W :=
  ⟨h.bel, fun _ _ => by rw [putF_eq]; exact hq, fun e => ⟨(putF_ne (by decide)).trans (h.t32 (by simpa using e)).1, (h.t32 (by simpa using e)).2⟩, fun e => (putF_ne (by decide)).trans (h.t27 (by simpa using e)), fun e => (putF_ne (by decide)).trans (h.t33 (by simpa using e)), fun e => by
    obtain ⟨q1, q2, q3⟩ := h.p9 (by simpa using e)
    exact ⟨(putF_ne (by decide)).trans q1, q2, by simpa using q3⟩⟩
theorem DJ.call (h : DJ w0 ds2 d2 m2 er2 wh2 v g L φ W) (h5 : L 5 = false) (h6 : L 6 = false) (h9 : L 9 = false) (u : Value) (hu : W'.ownsRow w0.heap.size 3 1 u wh2.length (intsV wh2)) (hb : Below W.heap.size W W') : DJ w0 ds2 d2 m2 er2 wh2 u g (fun k => decide (4 = k) || L k) (putF φ (some 32) (.tuple #[.agg #[.int .i64 d2, .int .i64 m2, u], .int .i64 er2])) W' :=
  ⟨h.bel.trans (hb.mono h.bel.size), fun _ e4 => by simp at e4, fun _ => ⟨putF_eq, hu⟩, fun e => by simp [h5] at e, fun e => by simp [h6] at e, fun e => by
    obtain ⟨q1, q2, q3⟩ := h.p9 (by simpa using e)
    rw [h9] at q3
    refine ⟨(putF_ne (by decide)).trans q1, q2, ?_⟩
    simp only [h9]
    exact (hb.block _ (lt_of_block q3)).trans q3⟩
theorem DJ.t27on (h : DJ w0 ds2 d2 m2 er2 wh2 v g L φ W) : DJ w0 ds2 d2 m2 er2 wh2 v g (fun k => decide (5 = k) || L k) (putF φ (some 27) (.tuple #[.agg #[.int .i64 d2, .int .i64 m2, v], .int .i64 er2])) W :=
  ⟨h.bel, fun e e4 => by
    rw [putF_ne (by decide)]
    exact h.sl (by simpa using e) (by simpa using e4), fun e => ⟨(putF_ne (by decide)).trans (h.t32 (by simpa using e)).1, (h.t32 (by simpa using e)).2⟩, fun _ => putF_eq, fun e => (putF_ne (by decide)).trans (h.t33 (by simpa using e)), fun e => by
    obtain ⟨q1, q2, q3⟩ := h.p9 (by simpa using e)
    exact ⟨(putF_ne (by decide)).trans q1, q2, by simpa using q3⟩⟩
theorem DJ.t33on (h : DJ w0 ds2 d2 m2 er2 wh2 v g L φ W) : DJ w0 ds2 d2 m2 er2 wh2 v g (fun k => decide (6 = k) || L k) (putF φ (some 33) (.agg #[.int .i64 d2, .int .i64 m2, v])) W :=
  ⟨h.bel, fun e e4 => by
    rw [putF_ne (by decide)]
    exact h.sl (by simpa using e) (by simpa using e4), fun e => ⟨(putF_ne (by decide)).trans (h.t32 (by simpa using e)).1, (h.t32 (by simpa using e)).2⟩, fun e => (putF_ne (by decide)).trans (h.t27 (by simpa using e)), fun _ => putF_eq, fun e => by
    obtain ⟨q1, q2, q3⟩ := h.p9 (by simpa using e)
    exact ⟨(putF_ne (by decide)).trans q1, q2, by simpa using q3⟩⟩
theorem DJ.alloc (h : DJ w0 ds2 d2 m2 er2 wh2 v g L φ W) (h9 : L 9 = false) : DJ w0 ds2 d2 m2 er2 wh2 v W.heap.size (fun k => decide (8 = k) || L k) (putF φ (some 9) (.pointer (some ⟨W.heap.size, 0, none⟩))) (W.alloc (.cells #[.int .i64 0, .int .i64 0, .slice none 0 0] 28)) := by
  have hb := (Below.refl W.heap.size W).alloc (Nat.le_refl _) (.cells #[.int .i64 0, .int .i64 0, .slice none 0 0] 28)
  refine ⟨h.bel.trans (hb.mono h.bel.size), fun e e4 => ?_, fun e => ?_, fun e => ?_, fun e => ?_, fun _ => ?_⟩
  · rw [putF_ne (by decide)]
    exact (h.sl (by simpa using e) (by simpa using e4)).below hb
  · exact ⟨(putF_ne (by decide)).trans (h.t32 (by simpa using e)).1, owns_below (h.t32 (by simpa using e)).2 hb⟩
  · exact (putF_ne (by decide)).trans (h.t27 (by simpa using e))
  · exact (putF_ne (by decide)).trans (h.t33 (by simpa using e))
  · refine ⟨putF_eq, h.bel.size, ?_⟩
    rw [show (decide (8 = 9) || L 9) = false by rw [h9]; rfl]
    exact heap_alloc_new W _
theorem DJ.store (h : DJ w0 ds2 d2 m2 er2 wh2 v g L φ W) (h4 : L 4 = true) (h8 : L 8 = true) (X : Array Value) (hX : W.heap[g]? = some (.cells X 28 (0, 0))) : DJ w0 ds2 d2 m2 er2 wh2 v g (fun k => decide (9 = k) || L k) (putF φ none undef) (W.setRow g #[.int .i64 d2, .int .i64 m2, v]) := by
  rw [putF_none]
  obtain ⟨q1, q2, _⟩ := h.p9 h8
  refine ⟨below_setRow h.bel q2 _, fun _ e4 => by simp [h4] at e4, fun e => ?_, fun e => h.t27 (by simpa using e), fun e => h.t33 (by simpa using e), fun _ => ⟨q1, q2, ?_⟩⟩
  · refine ⟨(h.t32 (by simpa using e)).1, (h.t32 (by simpa using e)).2.kept (row := some g) ⟨rfl, rfl, rfl, by simp, fun k _ hk => setRow_other W g k _ (fun e => hk (by rw [e]))⟩ (.inr fun e => ?_)⟩
    exact owns_type (h.t32 h4).2 hX (by decide) e
  · simp
    exact setRow_heap _ _ _ _ _ _ hX
end
theorem owns_cell {w : World} {base : Nat} {e : TypeId} {size : Nat} {v : Value} {n : Nat} {xs : List Value} (h : w.ownsRow base e size v n xs) {g : Nat} (hg : v.ownBlock ≠ some g) (o : Nat) (x : Value) : (w.setCell ⟨g, o, none⟩ x).ownsRow base e size v n xs :=
  h.kept (row := some g) ⟨rfl, rfl, rfl, by simp, fun q _ hr => heap_setCell_other w ⟨g, o, none⟩ q _ fun e => hr (congrArg some e)⟩ (.inr hg)
set_option maxRecDepth 100000 in
theorem sameSlot_any (d m : Int) (who : List Int) (va vb : Value) (w : World) (ha : RowI w va who) (hb : RowI w vb who) : Calls Tryd.prog 12 #[.agg #[.int .i64 d, .int .i64 m, va], .agg #[.int .i64 d, .int .i64 m, vb]] w fun e w' => e = .returned (.bool true) ∧ Below w.heap.size w w' := by
  have bA : Below w.heap.size w ((w.alloc (.cells #[.int .i64 d, .int .i64 m, va] 28)).alloc (.cells #[.int .i64 d, .int .i64 m, vb] 28)) := ((Below.refl _ _).alloc (Nat.le_refl _) _).alloc (by simp) _
  have c1 := ints_any who va vb _ (ha.below bA) (hb.below bA)
  have HB := hidr bA
  obtain ⟨pa, ca, rfl, _, _⟩ := ha
  obtain ⟨pb, cb, rfl, _, _⟩ := hb
  clear bA
  go_enter Tryd.func12, Tryd.ntmps12
  go_wp2_with fail
  refine c1.mono ?_
  rintro e w1 ⟨rfl, b1⟩
  go_wp2_with fail
  go_ret
  exact ⟨rfl, HB.out.trans (b1.mono HB.out.size)⟩
set_option maxRecDepth 100000 in
set_option maxHeartbeats 1000000 in
theorem mdays_walk (s : Sv) (rv : Value) (ds : List (List (Nat → Bool))) (pd : Option Addr) (cd : Nat) (from_ : Int) (w : World) (hT : Tab w) (hR : RowRI w rv s.roles) (hD : RowDs w (.slice pd ds.length cd) ds) (hcd : ds.length ≤ cd) (hcm : cd ≤ maxLen) :
    Calls Tryd.prog 7 #[svV s rv, .slice pd ds.length cd, .int .i64 from_] w fun e w' => e = .returned (.bool true) ∧ Below w.heap.size w w' := by
  obtain ⟨dv, hdv⟩ : ∃ q, Value.slice pd ds.length cd = q := ⟨_, rfl⟩
  rw [hdv] at hD ⊢
  obtain ⟨l, b, a, roles⟩ := s
  dsimp only at hR
  unfold svV
  dsimp only
  obtain ⟨pr, cr, rfl, hlr, hr0⟩ := id hR
  clear hr0
  have bA := (Below.refl w.heap.size w).alloc (Nat.le_refl _) (.cells #[.int .i64 l, .int .i64 b, .int .i64 a, .slice pr roles.length cr] 24)
  have nA := heap_alloc_new w (.cells #[.int .i64 l, .int .i64 b, .int .i64 a, .slice pr roles.length cr] 24)
  generalize hwA : w.alloc (.cells #[.int .i64 l, .int .i64 b, .int .i64 a, .slice pr roles.length cr] 24) = wA at *
  have c0 := alive10_any wA (tab_below hT bA)
  go_enter Tryd.func7, Tryd.ntmps7
  go_wp2_with fail
  refine c0.mono ?_
  rintro e w1 ⟨rfl, b1⟩
  have bb1 := bA.trans (b1.mono bA.size)
  have n1 := (b1.block _ (lt_of_block nA)).trans nA
  have y0 := (cell_of_row _ _ 0 _ _ _ n1).trans rfl
  have y1 := (cell_of_row _ _ 1 _ _ _ n1).trans rfl
  have y2 := (cell_of_row _ _ 2 _ _ _ n1).trans rfl
  have y3 := (cell_of_row _ _ 3 _ _ _ n1).trans rfl
  have c1 := find_any ⟨l, b, a, roles⟩ _ ds dv w1 (tab_below hT bb1) (hR.below bb1) (hD.below bb1)
  unfold svV at c1
  dsimp only at c1
  obtain ⟨R, hRr⟩ : ∃ R, findP ⟨l, b, a, roles⟩ ds = R := ⟨_, rfl⟩
  rw [hRr] at c1
  have HRR := hidr hRr
  have HR0 := hidr hR
  have HD0 := hidr hD
  have HB1 := hidr bb1
  obtain ⟨er, sd, sm, swho⟩ := R
  clear c0 b1 bA bb1 hwA nA hRr
  subst hdv
  have hlm : ds.length < 9223372036854775808 := by unfold maxLen at hcm; omega
  by_cases h0 : from_ < 0
  · go_wp2_with fail
    go_ret
    exact ⟨rfl, HB1.out⟩
  by_cases h1 : (ds.length : Int) < from_
  · go_wp2_with fail
    go_ret
    exact ⟨rfl, HB1.out⟩
  obtain ⟨fn, hfn⟩ : ∃ fn : Nat, from_ = (fn : Int) := ⟨from_.toNat, by omega⟩
  subst hfn
  go_wp2_with fail
  refine c1.mono ?_
  rintro e w2 ⟨sv, rfl, ho, b2⟩
  dsimp only at ho
  have HB2 := hidr (HB1.out.trans (b2.mono HB1.out.size))
  have n2 := (b2.block _ (lt_of_block n1)).trans n1
  obtain ⟨ps, cs, rfl⟩ := owns_shape ho
  have bF := (Below.refl w2.heap.size w2).alloc (Nat.le_refl _) (.cells #[.int .i64 sd, .int .i64 sm, .slice ps swho.length cs] 28)
  have nF := heap_alloc_new w2 (.cells #[.int .i64 sd, .int .i64 sm, .slice ps swho.length cs] 28)
  have HOF := hidr (owns_below ho bF)
  have HBF := hidr (HB2.out.trans (bF.mono HB2.out.size))
  have n3 := (bF.block _ (lt_of_block n2)).trans n2
  generalize hwF : w2.alloc (.cells #[.int .i64 sd, .int .i64 sm, .slice ps swho.length cs] 28) = wF at *
  obtain ⟨gF, hgF⟩ : ∃ q, w2.heap.size = q := ⟨_, rfl⟩
  rw [hgF] at nF
  clear c1 ho b2 bF n1 n2 y0 y1 y2 y3
  have x0 := (cell_of_row _ _ 0 _ _ _ nF).trans rfl
  have x1 := (cell_of_row _ _ 1 _ _ _ nF).trans rfl
  have x2 := (cell_of_row _ _ 2 _ _ _ nF).trans rfl
  have y0 := (cell_of_row _ _ 0 _ _ _ n3).trans rfl
  have y1 := (cell_of_row _ _ 1 _ _ _ n3).trans rfl
  have y2 := (cell_of_row _ _ 2 _ _ _ n3).trans rfl
  have y3 := (cell_of_row _ _ 3 _ _ _ n3).trans rfl
  obtain ⟨R2, hR2⟩ : ∃ R, findP ⟨l, b, a, roles⟩ (ds.drop fn) = R := ⟨_, rfl⟩
  obtain ⟨er2, d2, m2, wh2⟩ := R2
  have HR2 := hidr hR2
  have HDF := hidr (HD0.out.below HBF.out)
  clear hR2 x0 x1 x2 y0 y1 y2 y3
  go_wp2_with fail
  refine wp_region_Z (fun L φ W => ∃ v g, DJ wF (ds.drop fn) d2 m2 er2 wh2 v g L φ W) (fun L hL => ⟨undef, 0, (Below.refl _ _).drew, (fun e => by rw [hL 3 (by decide)] at e; cases e), (fun e => by rw [hL 4 (by decide)] at e; cases e), (fun e => by rw [hL 5 (by decide)] at e; cases e), (fun e => by rw [hL 6 (by decide)] at e; cases e), (fun e => by rw [hL 8 (by decide)] at e; cases e)⟩) (by kernel_rfl) (by kernel_rfl) (by kernel_rfl) (by kernel_rfl) [(some 28, some (.agg #[.int .i64 l, .int .i64 b, .int .i64 a, .slice pr roles.length cr])), (some 29, some (.slice pd ds.length cd)), (some 30, some (.int .i64 (fn : Int))), (some 31, none), (some 32, none), (some 27, none), (some 33, none), (some 34, some (.int .i64 er2)), (some 9, none), (none, none), (some 10, some (.int .i64 er2))] (by kernel_rfl) (by kernel_rfl) [28, 29, 30, 31, 32, 27, 33, 34, 9, 10] (by kernel_rfl) ?_ ?_
  · intro i' d' x' o' L A W2 ho hv hLi hdep hc hJ hkept hhas
    obtain ⟨v0, g0, hJ⟩ := hJ
    match i', ho, hv, hLi with
    | 0, ho, hv, hLi =>
      cases Option.some.inj ho
      cases Option.some.inj hv
      have h3 : A.eval (.tmp 3) = .pointer (some ⟨w.heap.size, 0, none⟩) := hkept 3 (by kernel_rfl)
      refine wpOp_step rfl (fun K hK => ?_)
      show Oper.wp _ _ _ _ _ _
      refine wp_load_row 24 _ rfl _ h3 _ _ _ _ ((hJ.bel.block _ (lt_of_block n3)).trans n3) svTypeM rfl (by kernel_rfl) ?_
      exact hK _ _ ⟨_, rfl, fun u hu => by cases Option.some.inj hu; rfl, v0, g0, hJ.on 0 28 _ (by decide) (by decide) (Below.refl _ _)⟩
    | 1, ho, hv, hLi =>
      cases Option.some.inj ho
      cases Option.some.inj hv
      have h1 : A.tmps[1]?.getD undef = .slice pd ds.length cd := (gd A 1).trans (hkept 1 (by kernel_rfl))
      refine wpOp_step rfl (fun K hK => ?_)
      go_simp
      exact hK _ _ ⟨_, rfl, fun u hu => by cases Option.some.inj hu; rfl, v0, g0, hJ.on 1 29 _ (by decide) (by decide) (Below.refl _ _)⟩
    | 2, ho, hv, hLi =>
      cases Option.some.inj ho
      cases Option.some.inj hv
      have h2 : A.tmps[2]?.getD undef = .int .i64 (fn : Int) := (gd A 2).trans (hkept 2 (by kernel_rfl))
      refine wpOp_step rfl (fun K hK => ?_)
      go_simp
      exact hK _ _ ⟨_, rfl, fun u hu => by cases Option.some.inj hu; rfl, v0, g0, hJ.on 2 30 _ (by decide) (by decide) (Below.refl _ _)⟩
    | 3, ho, hv, hLi =>
      cases Option.some.inj ho
      cases Option.some.inj hv
      have h29 : A.tmps[29]?.getD undef = .slice pd ds.length cd := (gd A 29).trans (hhas 1 29 _ rfl (hdep ⟨1, .data⟩ (by simp) rfl))
      have h30 : A.tmps[30]?.getD undef = .int .i64 (fn : Int) := (gd A 30).trans (hhas 2 30 _ rfl (hdep ⟨2, .data⟩ (by simp) rfl))
      refine wpOp_step rfl (fun K hK => ?_)
      go_simp
      exact hK _ _ ⟨_, rfl, fun u hu => by (cases hu), v0, g0, hJ.slice _ (RowDs.drop (HDF.out.below hJ.bel) fn (by omega) hcd)⟩
    | 4, ho, hv, hLi =>
      cases Option.some.inj ho
      cases Option.some.inj hv
      have h28 : A.tmps[28]?.getD undef = .agg #[.int .i64 l, .int .i64 b, .int .i64 a, .slice pr roles.length cr] := (gd A 28).trans (hhas 0 28 _ rfl (hdep ⟨0, .data⟩ (by simp) rfl))
      have hd31 := hJ.sl (hdep ⟨3, .data⟩ (by simp) rfl) hLi
      obtain ⟨q31, e31⟩ : ∃ q, slotsOf A 31 = q := ⟨_, rfl⟩
      rw [e31] at hd31
      have h31 : A.tmps[31]?.getD undef = q31 := (gd A 31).trans e31
      have h5 : L 5 = false := by
        cases hq : L 5 with
        | false => rfl
        | true =>
          have := hc 5 _ rfl hq ⟨4, .data⟩ (by simp) rfl
          rw [hLi] at this; cases this
      have h6 : L 6 = false := by
        cases hq : L 6 with
        | false => rfl
        | true =>
          have := hc 6 _ rfl hq ⟨5, .data⟩ (by simp) rfl
          rw [h5] at this; cases this
      have h9 : L 9 = false := by
        cases hq : L 9 with
        | false => rfl
        | true =>
          have := hc 9 _ rfl hq ⟨6, .data⟩ (by simp) rfl
          rw [h6] at this; cases this
      have c5 := find_any ⟨l, b, a, roles⟩ _ (ds.drop fn) q31 W2 (tab_below (tab_below hT HBF.out) hJ.bel) ((HR0.out.below HBF.out).below hJ.bel) hd31
      unfold svV at c5
      dsimp only at c5
      rw [HR2.out] at c5
      refine wpOp_step rfl (fun K hK => ?_)
      go_simp
      refine c5.mono ?_
      rintro r' W' ⟨v, rfl, hov, hb'⟩
      exact hK _ _ ⟨_, rfl, fun u hu => by (cases hu), v, g0, hJ.call h5 h6 h9 v (owns_low hov hJ.bel.size) hb'⟩
    | 5, ho, hv, hLi =>
      cases Option.some.inj ho
      cases Option.some.inj hv
      have e32 := hJ.t32 (hdep ⟨4, .data⟩ (by simp) rfl)
      have h32 : A.tmps[32]?.getD undef = _ := (gd A 32).trans e32.1
      refine wpOp_step rfl (fun K hK => ?_)
      go_simp
      exact hK _ _ ⟨_, rfl, fun u hu => by (cases hu), v0, g0, hJ.t27on⟩
    | 6, ho, hv, hLi =>
      cases Option.some.inj ho
      cases Option.some.inj hv
      have e27 := hJ.t27 (hdep ⟨5, .data⟩ (by simp) rfl)
      have h27 : A.tmps[27]?.getD undef = _ := (gd A 27).trans e27
      refine wpOp_step rfl (fun K hK => ?_)
      go_simp
      exact hK _ _ ⟨_, rfl, fun u hu => by (cases hu), v0, g0, hJ.t33on⟩
    | 7, ho, hv, hLi =>
      cases Option.some.inj ho
      cases Option.some.inj hv
      have e27 := hJ.t27 (hdep ⟨5, .data⟩ (by simp) rfl)
      have h27 : A.tmps[27]?.getD undef = _ := (gd A 27).trans e27
      refine wpOp_step rfl (fun K hK => ?_)
      go_simp
      exact hK _ _ ⟨_, rfl, fun u hu => by cases Option.some.inj hu; rfl, v0, g0, hJ.on 7 34 _ (by decide) (by decide) (Below.refl _ _)⟩
    | 8, ho, hv, hLi =>
      cases Option.some.inj ho
      cases Option.some.inj hv
      have h9 : L 9 = false := by
        cases hq : L 9 with
        | false => rfl
        | true =>
          have := hc 9 _ rfl hq ⟨8, .data⟩ (by simp) rfl
          rw [hLi] at this; cases this
      refine wpOp_step rfl (fun K hK => ?_)
      go_simp
      exact hK _ _ ⟨_, rfl, fun u hu => by (cases hu), v0, _, hJ.alloc h9⟩
    | 9, ho, hv, hLi =>
      cases Option.some.inj ho
      cases Option.some.inj hv
      have e33 := hJ.t33 (hdep ⟨6, .data⟩ (by simp) rfl)
      obtain ⟨e9, hg9, hb9⟩ := hJ.p9 (hdep ⟨8, .data⟩ (by simp) rfl)
      have h33 : A.eval (.tmp 33) = _ := e33
      have h9 : A.eval (.tmp 9) = _ := e9
      rw [hLi] at hb9
      have one31 : v0.oneCell' = true := by
        obtain ⟨qq, cc, e⟩ := owns_shape (hJ.t32 (hc 5 _ rfl (hc 6 _ rfl (hdep ⟨6, .data⟩ (by simp) rfl) ⟨5, .data⟩ (by simp) rfl) ⟨4, .data⟩ (by simp) rfl)).2
        rw [e]
        rfl
      refine wpOp_step rfl (fun K hK => ?_)
      show Oper.wp _ _ _ _ _ _
      refine wp_store_row 28 _ _ rfl _ _ h9 h33 _ _ hb9 (by kernel_rfl) (by simp) (by simp only [List.all_toArray, List.all_cons, List.all_nil, one31]; rfl) ?_
      exact hK _ _ ⟨undef, rfl, fun u hu => by (cases hu), v0, g0, hJ.store (hc 5 _ rfl (hc 6 _ rfl (hdep ⟨6, .data⟩ (by simp) rfl) ⟨5, .data⟩ (by simp) rfl) ⟨4, .data⟩ (by simp) rfl) (hdep ⟨8, .data⟩ (by simp) rfl) _ hb9⟩
    | 10, ho, hv, hLi =>
      cases Option.some.inj ho
      cases Option.some.inj hv
      have h34 : A.tmps[34]?.getD undef = .int .i64 er2 := (gd A 34).trans (hhas 7 34 _ rfl (hdep ⟨7, .data⟩ (by simp) rfl))
      refine wpOp_step rfl (fun K hK => ?_)
      go_simp
      exact hK _ _ ⟨_, rfl, fun u hu => by cases Option.some.inj hu; rfl, v0, g0, hJ.on 10 10 _ (by decide) (by decide) (Below.refl _ _)⟩
    | kk + 11, ho, hv, hLi => simp at hv
  · intro L A W2 hL hJ hhas hput
    obtain ⟨v, g, hJ⟩ := hJ
    obtain ⟨e32, ho2⟩ := hJ.t32 (hL 4 (by decide))
    have e27 := hJ.t27 (hL 5 (by decide))
    have e33 := hJ.t33 (hL 6 (by decide))
    obtain ⟨e9, hg9, hb9⟩ := hJ.p9 (hL 8 (by decide))
    rw [if_pos (hL 9 (by decide))] at hb9
    obtain ⟨q31, e31⟩ : ∃ q, A.tmps.getD 31 undef = q := ⟨_, rfl⟩
    have hA := hput [(28, .agg #[.int .i64 l, .int .i64 b, .int .i64 a, .slice pr roles.length cr]), (29, .slice pd ds.length cd), (30, .int .i64 (fn : Int)), (31, q31), (32, .tuple #[.agg #[.int .i64 d2, .int .i64 m2, v], .int .i64 er2]), (27, .tuple #[.agg #[.int .i64 d2, .int .i64 m2, v], .int .i64 er2]), (33, .agg #[.int .i64 d2, .int .i64 m2, v]), (34, .int .i64 er2), (9, .pointer (some ⟨g, 0, none⟩)), (10, .int .i64 er2)] rfl (fun j s u hj => match j, hj with
      | 0, hj => by cases Option.some.inj hj; exact hhas 0 28 _ rfl
      | 1, hj => by cases Option.some.inj hj; exact hhas 1 29 _ rfl
      | 2, hj => by cases Option.some.inj hj; exact hhas 2 30 _ rfl
      | 3, hj => by cases Option.some.inj hj; exact e31
      | 4, hj => by cases Option.some.inj hj; exact e32
      | 5, hj => by cases Option.some.inj hj; exact e27
      | 6, hj => by cases Option.some.inj hj; exact e33
      | 7, hj => by cases Option.some.inj hj; exact hhas 7 34 _ rfl
      | 8, hj => by cases Option.some.inj hj; exact e9
      | 9, hj => by cases Option.some.inj hj; exact hhas 10 10 _ rfl
      | kk + 10, hj => by simp at hj)
    change Exit.then _ _ Exit.normal _ _
    subst hA
    simp only [putAll_cons, putAll_nil, Act.put, List.setIfInBounds_toArray, List.set_cons_succ, List.set_cons_zero]
    have HBW := hidr (HBF.out.trans (hJ.bel.mono HBF.out.size))
    have nF2 := (hJ.bel.block _ (lt_of_block nF)).trans nF
    have HOF2 := hidr (owns_below HOF.out hJ.bel)
    have HO2 := hidr ho2
    have hgne : gF ≠ g := by have := lt_of_block nF; omega
    have hgw : w.heap.size ≤ g := Nat.le_trans HBF.out.size hg9
    obtain ⟨qv, cv, rfl⟩ := owns_shape ho2
    clear hJ hput hhas hL e32 e27 e33 e9 ho2 e31
    have x0 := (cell_of_row _ _ 0 _ _ _ nF2).trans rfl
    have x1 := (cell_of_row _ _ 1 _ _ _ nF2).trans rfl
    have x2 := (cell_of_row _ _ 2 _ _ _ nF2).trans rfl
    have u0 := (cell_of_row _ _ 0 _ _ _ hb9).trans rfl
    have u1 := (cell_of_row _ _ 1 _ _ _ hb9).trans rfl
    have u2 := (cell_of_row _ _ 2 _ _ _ hb9).trans rfl
    by_cases h11 : er = 11
    · have he2 := find_none (s := ⟨l, b, a, roles⟩) (ds := ds) (by rw [HRR.out]; exact h11) fn
      rw [HR2.out] at he2
      dsimp only at he2
      have hb1 : (er == 11) = true := by rw [h11]; rfl
      have hb2 : (er2 == 11) = true := by rw [he2]; rfl
      clear h11 he2
      go_wp2_with fail
      go_ret
      exact ⟨rfl, HBW.out⟩
    have hb1 : (er == 11) = false := beq_eq_false_iff_ne.2 h11
    by_cases hz : er = 0
    case neg =>
      have hb2 : (er == 0) = false := beq_eq_false_iff_ne.2 hz
      have hb3 : (er != 0) = true := by rw [bne, hb2]; rfl
      clear h11 hz
      go_wp2_with fail
      go_ret
      exact ⟨rfl, HBW.out⟩
    subst hz
    by_cases hlt : sd < (fn : Int)
    · clear h11
      go_wp2_with fail
      go_ret
      exact ⟨rfl, HBW.out⟩
    have hfl := find_later HRR.out (fn := fn) (by omega)
    rw [HR2.out] at hfl
    injection hfl with f1 f2 f3 f4
    replace f3 := f3.symm
    replace f4 := f4.symm
    subst f1 f2 f3 f4
    have hsd : IntKind.i64.wrap sd = sd := by
      have hz := find_zero (s := ⟨l, b, a, roles⟩) (ds := ds) (by rw [HRR.out])
      rw [HRR.out] at hz
      obtain ⟨h1, _, d, _, e1, e2, _⟩ := hz
      dsimp only at e1
      have := (List.getElem?_eq_some_iff.1 e2).1
      rw [IntKind.wrap_i64]
      omega
    have nS : (W2.setCell ⟨g, 0, none⟩ (.int .i64 sd)).heap[g]? = some (.cells #[.int .i64 sd, .int .i64 sm, .slice qv swho.length cv] 28 (0, 0)) := heap_setCell_same W2 g 0 _ _ (.int .i64 sd) hb9
    have hfz : W2.frozen? ⟨g, 0, none⟩ = false := by simp [World.frozen?, hb9]
    have nFs := (heap_setCell_other W2 ⟨g, 0, none⟩ gF (.int .i64 sd) hgne).trans nF2
    have HBS := hidr (HBW.out.setCell (p := ⟨g, 0, none⟩) hgw (.int .i64 sd))
    have hra : RowI (W2.setCell ⟨g, 0, none⟩ (.int .i64 sd)) (.slice ps swho.length cs) swho := rowI_of_owns (owns_cell HOF2.out (fun e => owns_type HOF2.out hb9 (by decide) e) 0 (.int .i64 sd)) (by
      have h1 := find_zero (s := ⟨l, b, a, roles⟩) (ds := ds) (by rw [HRR.out])
      rw [HRR.out] at h1
      obtain ⟨_, h2, d, fs, _, e2, e3, _⟩ := h1
      dsimp only at e3
      have hS := days_ok h2 d fs e2
      have h3 := (first_some hS e3).1.len
      have h4 := hS.r4
      dsimp only at h3 h4
      omega)
    have hrb : RowI (W2.setCell ⟨g, 0, none⟩ (.int .i64 sd)) (.slice qv swho.length cv) swho := rowI_of_owns (owns_cell HO2.out (fun e => owns_type HO2.out hb9 (by decide) e) 0 (.int .i64 sd)) (by
      obtain ⟨_, _, e, h, _⟩ := hra
      exact h)
    have c6 := sameSlot_any sd sm swho _ _ _ hra hrb
    generalize hwS : W2.setCell ⟨g, 0, none⟩ (.int .i64 sd) = wS at *
    have t0 := (cell_of_row _ _ 0 _ _ _ nFs).trans rfl
    have t1 := (cell_of_row _ _ 1 _ _ _ nFs).trans rfl
    have t2 := (cell_of_row _ _ 2 _ _ _ nFs).trans rfl
    have r0 : wS.cell? ⟨g, 0, none⟩ = some (.int .i64 sd) := (cell_of_row _ _ 0 _ _ _ nS).trans rfl
    have r1 := (cell_of_row _ _ 1 _ _ _ nS).trans rfl
    have r2 := (cell_of_row _ _ 2 _ _ _ nS).trans rfl
    clear h11 hra hrb nS nFs HRR HR2 HOF HOF2 HO2
    go_wp2_with fail
    refine c6.mono ?_
    rintro e w9 ⟨rfl, b9⟩
    go_wp2_with fail
    go_ret
    exact ⟨rfl, HBS.out.trans (b9.mono HBS.out.size)⟩
end Go.Proofs.YtlhjgajhcabhoaaDoor

/- How rows that came in read. -/
namespace Go.Proofs.YtlhjgajhcabhoaaDoor
open Go.ChangeShapes Go.WideShapes Go.ChangeAt Go.WideMaps Go.WideElems Go.RowKit Go.Joins Msk
variable {H : Type} {enc : TypeId × Value → H} {W : World}

theorem cN9 : Tryd.prog.cellsOf 3 = 1 := by kernel_rfl
theorem add9 (g o n : Nat) : (⟨g, o, none⟩ : Addr).add n = ⟨g, o + n, none⟩ := by
  by_cases h : n = 0
  · subst h; simp [Addr.add]
  · simp [Addr.add, h]
theorem two9 {α : Type} {l : List α} (h : l.length = 2) : ∃ a b, l = [a, b] := by
  match l, h with
  | [a, b], _ => exact ⟨a, b, rfl⟩
theorem three9 {α : Type} {l : List α} (h : l.length = 3) : ∃ a b c, l = [a, b, c] := by
  match l, h with
  | [a, b, c], _ => exact ⟨a, b, c, rfl⟩
theorem five9 {α : Type} {l : List α} (h : l.length = 5) : ∃ a b c d e, l = [a, b, c, d, e] := by
  match l, h with
  | [a, b, c, d, e], _ => exact ⟨a, b, c, d, e, rfl⟩
/-- A row whose elements are read one by one. -/
theorem open_row {α : Type} (d0 : α) {size : Nat} {t e : TypeId} (ht : Tryd.prog.underlying t = some (.slice e)) (hsz : Tryd.prog.cellsOf e = size) (h0 : 0 < size) (Q : (Nat → Option Value) → α → Prop)
    (hel : ∀ (fuel : Nat) (cs : List Value) (y : DataW H × List MemPlace), DataW.trod enc Tryd.prog W 0 (fun _ => true) true fuel e cs = some y → ∃ u : α, cs.length = size ∧ Q (fun k => cs[k]?) u) {fuel : Nat} {cs : List Value} {x : DataW H × List MemPlace}
    (h : DataW.trod enc Tryd.prog W 0 (fun _ => true) true fuel t cs = some x) :
    ∃ (p : Option Addr) (len cap : Nat) (us : List α), cs = [.slice p len cap] ∧ us.length = len ∧ len < 9223372036854775808 ∧ ∀ (j : Nat) (u : α), us[j]? = some u → ∃ g o : Nat, p = some ⟨g, o, none⟩ ∧ ∃ c : List Value, c.length = size ∧ (∀ k v, c[k]? = some v → W.cell? ⟨g, o + j * size + k, none⟩ = some v) ∧ Q (fun k => c[k]?) u := by
  rcases DataW.trod_slice ht h with ⟨e1, _⟩ | ⟨a, len, cap, elems, rest, m, hf, e1, _, _, hlc, hm, hlen, hall, _⟩
  · exact ⟨none, 0, 0, [], e1, rfl, by decide, fun j u hj => by simp at hj⟩
  · have hl2 : len < 9223372036854775808 := by unfold maxLen at hm; omega
    have each : ∀ i, i < len → ∃ u : α, ∃ g o : Nat, a = ⟨g, o, none⟩ ∧ ∃ c : List Value, c.length = size ∧ (∀ k v, c[k]? = some v → W.cell? ⟨g, o + i * size + k, none⟩ = some v) ∧ Q (fun k => c[k]?) u := by
      intro i hi
      have h1 := hall i hi
      rw [hsz] at h1
      have hy : elems[i]? = some (elems[i]'(by omega)) := List.getElem?_eq_getElem _
      rw [hy, Option.bind_eq_some_iff] at h1
      obtain ⟨c, hc, htr⟩ := h1
      obtain ⟨u, hcl, hq⟩ := hel _ _ _ htr
      have spot : a.spot = none := by
        have h2 := hall 0 (by omega)
        rw [hsz] at h2
        have hy0 : elems[0]? = some (elems[0]'(by omega)) := List.getElem?_eq_getElem _
        rw [hy0, Option.bind_eq_some_iff] at h2
        obtain ⟨c', hc', htr'⟩ := h2
        obtain ⟨_, hcl', _⟩ := hel _ _ _ htr'
        have e0 : c'[0]? = some (c'[0]'(by omega)) := List.getElem?_eq_getElem _
        have q0 := (World.cells?_some hc').2.2 0 (by omega)
        rw [e0] at q0
        have q' := World.cell?_spot q0
        simpa [Addr.add] using q'
      obtain ⟨g, o, s⟩ := a
      have q := (World.cells?_some hc).2.2
      dsimp only at spot
      subst spot
      refine ⟨u, g, o, rfl, c, hcl, fun k v hk => ?_, hq⟩
      have hk' : k < c.length := (List.getElem?_eq_some_iff.1 hk).1
      have qk := q k (by omega)
      rw [add9, add9, hk] at qk
      exact qk
    let pick : Nat → α := fun i => if h : i < len then Classical.choose (each i h) else d0
    have hpick : ∀ i (h : i < len), pick i = Classical.choose (each i h) := fun i h => by simp only [pick, h, dif_pos]
    refine ⟨some a, len, cap, (List.range len).map pick, e1, by simp, hl2, fun j u hj => ?_⟩
    have hjl : j < len := by
      have := (List.getElem?_eq_some_iff.1 hj).1
      simpa using this
    rw [List.getElem?_map, List.getElem?_range hjl] at hj
    have hu : u = Classical.choose (each j hjl) := (Option.some.inj hj).symm.trans (hpick j hjl)
    rw [hu]
    obtain ⟨g, o, ea, c, h1, h2, h3⟩ := Classical.choose_spec (each j hjl)
    exact ⟨g, o, by rw [ea], c, h1, h2, h3⟩
theorem cM9 : Tryd.prog.cellsOf 41 = 23 := by kernel_rfl
theorem cU9 : Tryd.prog.cellsOf 39 = 1 := by kernel_rfl
/-- A mask's cells that came in. -/
theorem open_maskL {fuel : Nat} {cs : List Value} {x : DataW H × List MemPlace} (h : DataW.trod enc Tryd.prog W 0 (fun _ => true) true fuel 41 cs = some x) : ∃ f : Nat → Bool, cs = (mv f).toList := by
  obtain ⟨xs, m, _, hx, hcl, hlen, hel⟩ := DataW.trod_array maskType h
  rw [cM9] at hcl
  have each : ∀ i, i < 23 → ∃ z : Nat, z < 18446744073709551616 ∧ cs[i]? = some (.int .u64 (z : Int)) := by
    intro i hi
    have h1 := hel i hi
    rw [cU9] at h1
    have hy : xs[i]? = some xs[i] := by simp [hlen, hi]
    rw [hy] at h1
    obtain ⟨z, e1, e2, hw⟩ := DataW.trod_int Tryd.underlying39 h1
    have hc : i < cs.length := by omega
    have e3 : cs[i] = .int .u64 z := by
      have : (cs.drop (i * 1)).take 1 = [cs[i]] := by
        rw [Nat.mul_one, List.drop_eq_getElem_cons hc]
        rfl
      rw [this] at e1
      simpa using e1
    have hb := bounds_u64 hw
    refine ⟨z.toNat, by omega, ?_⟩
    rw [List.getElem?_eq_getElem hc, e3, Int.toNat_of_nonneg hb.1]
  obtain ⟨mm, hmm⟩ : ∃ mm : Nat → Nat, ∀ i, i < 23 → mm i < 18446744073709551616 ∧ cs[i]? = some (.int .u64 (mm i : Int)) := by
    refine ⟨fun i => match cs[i]? with | some (.int _ z) => z.toNat | _ => 0, fun i hi => ?_⟩
    obtain ⟨z, h1, h2⟩ := each i hi
    simp only [h2]
    exact ⟨by simpa using h1, by simp⟩
  refine ⟨fun i => (mm (i / 64)).testBit (i % 64), ?_⟩
  rw [← mv_of mm fun k hk => (hmm k hk).1]
  apply List.ext_getElem?
  intro i
  by_cases hi : i < 23
  · rw [(hmm i hi).2, Array.getElem?_toList, Array.getElem?_eq_getElem (by simpa using hi), Array.getElem_ofFn]
  · rw [List.getElem?_eq_none (by omega), List.getElem?_eq_none (by rw [Array.length_toList, Array.size_ofFn]; omega)]
theorem four9 {α : Type} {l : List α} (h : l.length = 4) : ∃ a b c d, l = [a, b, c, d] := by
  match l, h with
  | [a, b, c, d], _ => exact ⟨a, b, c, d, rfl⟩
end Go.Proofs.YtlhjgajhcabhoaaDoor

/- How services, days, and rows of numbers that came in read. -/
namespace Go.Proofs.YtlhjgajhcabhoaaDoor
open Go.ChangeShapes Go.WideShapes Go.ChangeAt Go.WideMaps Go.WideElems Go.RowKit Go.Joins Msk Mx
variable {H : Type} {enc : TypeId × Value → H} {W : World}

theorem cIs9 : Tryd.prog.cellsOf 26 = 1 := by kernel_rfl
theorem cIss9 : Tryd.prog.cellsOf 22 = 1 := by kernel_rfl
theorem cMs9 : Tryd.prog.cellsOf 42 = 1 := by kernel_rfl
theorem cSv9 : Tryd.prog.cellsOf 24 = 4 := by kernel_rfl
theorem one9 {α : Type} {l : List α} (h : l.length = 1) : ∃ a, l = [a] := by
  match l, h with
  | [a], _ => exact ⟨a, rfl⟩
theorem open_num (fuel : Nat) (cs : List Value) (y : DataW H × List MemPlace) (h : DataW.trod enc Tryd.prog W 0 (fun _ => true) true fuel 3 cs = some y) : ∃ u : Int, cs.length = 1 ∧ (fun k : Nat => cs[k]?) 0 = some (.int .i64 u) := by
  obtain ⟨x, e, _⟩ := DataW.trod_int Tryd.underlying3 h
  subst e
  exact ⟨x, rfl, rfl⟩
/-- A row of numbers that came in. -/
theorem open_ints9 {fuel : Nat} {cs : List Value} {x : DataW H × List MemPlace} (h : DataW.trod enc Tryd.prog W 0 (fun _ => true) true fuel 26 cs = some x) : ∃ (sl : Value) (l : List Int), cs = [sl] ∧ RowI W sl l := by
  obtain ⟨p, len, cap, us, e, hl, hn, hall⟩ := open_row (0 : Int) (Q := fun c u => c 0 = some (.int .i64 u)) intT cN9 (by decide) open_num h
  refine ⟨_, us, e, p, cap, by rw [hl], by rw [hl]; exact hn, fun j u hj => ?_⟩
  obtain ⟨g, o, hp, c, hcl, hcc, q0⟩ := hall j u hj
  exact ⟨g, o, hp, by simpa using hcc 0 _ q0⟩
theorem open_ints1 (fuel : Nat) (cs : List Value) (y : DataW H × List MemPlace) (h : DataW.trod enc Tryd.prog W 0 (fun _ => true) true fuel 26 cs = some y) : ∃ u : List Int × Value, cs.length = 1 ∧ ((fun k : Nat => cs[k]?) 0 = some u.2 ∧ RowI W u.2 u.1) := by
  obtain ⟨sl, l, rfl, hr⟩ := open_ints9 h
  exact ⟨(l, sl), rfl, rfl, hr⟩
/-- A row of rows of numbers that came in. -/
theorem open_intss9 {fuel : Nat} {cs : List Value} {x : DataW H × List MemPlace} (h : DataW.trod enc Tryd.prog W 0 (fun _ => true) true fuel 22 cs = some x) : ∃ (sl : Value) (l : List (List Int)), cs = [sl] ∧ RowRI W sl l := by
  obtain ⟨p, len, cap, us, e, hl, hn, hall⟩ := open_row (([], .slice none 0 0) : List Int × Value) (Q := fun c u => c 0 = some u.2 ∧ RowI W u.2 u.1) intssT cIs9 (by decide) open_ints1 h
  refine ⟨_, us.map (fun u => u.1), e, p, cap, by rw [List.length_map, hl], by rw [List.length_map, hl]; exact hn, fun j l hj => ?_⟩
  rw [List.getElem?_map] at hj
  cases hu : us[j]? with
  | none => rw [hu] at hj; cases hj
  | some u =>
    rw [hu] at hj
    cases Option.some.inj hj
    obtain ⟨g, o, hp, c, hcl, hcc, q0, q1⟩ := hall j u hu
    exact ⟨g, o, u.2, hp, by simpa using hcc 0 _ q0, q1⟩
theorem open_mask1 (fuel : Nat) (cs : List Value) (y : DataW H × List MemPlace) (h : DataW.trod enc Tryd.prog W 0 (fun _ => true) true fuel 41 cs = some y) : ∃ u : Nat → Bool, cs.length = 23 ∧ ∀ k : Nat, (fun k : Nat => cs[k]?) k = (mv u).toList[k]? := by
  obtain ⟨f, e⟩ := open_maskL h
  exact ⟨f, by rw [e]; exact mvk_len f, fun k => by rw [e]⟩
/-- A row of masks that came in. -/
theorem open_masks9 {fuel : Nat} {cs : List Value} {x : DataW H × List MemPlace} (h : DataW.trod enc Tryd.prog W 0 (fun _ => true) true fuel 42 cs = some x) : ∃ (sl : Value) (l : List (Nat → Bool)), cs = [sl] ∧ RowMk W sl l ∧ (x.1 = .nil ∧ l = [] ∨ ∃ es rs : List (DataW H), x.1 = .slice es rs ∧ es.length = l.length) := by
  obtain ⟨p, len, cap, us, e, hl, hn, hall⟩ := open_row (fun _ => false : Nat → Bool) (Q := fun c u => ∀ k : Nat, c k = (mv u).toList[k]?) (show Tryd.prog.underlying 42 = some (.slice 41) by kernel_rfl) cM9 (by decide) open_mask1 h
  refine ⟨_, us, e, ⟨p, cap, by rw [hl], by rw [hl]; exact hn, fun j f hj => ?_⟩, ?_⟩
  · obtain ⟨g, o, hp, c, hcl, hcc, hq⟩ := hall j f hj
    exact ⟨g, o, hp, fun k v hk => hcc k v ((hq k).trans hk)⟩
  · rcases DataW.trod_slice (show Tryd.prog.underlying 42 = some (.slice 41) by kernel_rfl) h with ⟨e1, ex⟩ | ⟨a, len', cap', elems, rest, m, hf, e1, ex, _, hlc, hm, hlen, _⟩
    · rw [e] at e1
      injection e1 with e1 _
      injection e1 with _ e2 e3
      subst e2
      exact .inl ⟨by rw [ex], List.length_eq_zero_iff.1 hl⟩
    · rw [e] at e1
      injection e1 with e1 _
      injection e1 with _ e2 e3
      subst e2
      exact .inr ⟨elems.map (·.1), rest.map (·.1), by rw [ex], by simp [hlen, hl]⟩
theorem open_masks1 (fuel : Nat) (cs : List Value) (y : DataW H × List MemPlace) (h : DataW.trod enc Tryd.prog W 0 (fun _ => true) true fuel 42 cs = some y) : ∃ u : List (Nat → Bool) × Value, cs.length = 1 ∧ ((fun k : Nat => cs[k]?) 0 = some u.2 ∧ RowMk W u.2 u.1) := by
  obtain ⟨sl, l, rfl, hr, _⟩ := open_masks9 h
  exact ⟨(l, sl), rfl, rfl, hr⟩
/-- Days that came in. -/
theorem open_days9 {fuel : Nat} {cs : List Value} {x : DataW H × List MemPlace} (h : DataW.trod enc Tryd.prog W 0 (fun _ => true) true fuel 25 cs = some x) : ∃ (sl : Value) (l : List (List (Nat → Bool))), cs = [sl] ∧ RowDs W sl l := by
  obtain ⟨p, len, cap, us, e, hl, hn, hall⟩ := open_row (([], .slice none 0 0) : List (Nat → Bool) × Value) (Q := fun c u => c 0 = some u.2 ∧ RowMk W u.2 u.1) (show Tryd.prog.underlying 25 = some (.slice 42) by kernel_rfl) cMs9 (by decide) open_masks1 h
  refine ⟨_, us.map (fun u => u.1), e, p, cap, by rw [List.length_map, hl], by rw [List.length_map, hl]; exact hn, fun j l hj => ?_⟩
  rw [List.getElem?_map] at hj
  cases hu : us[j]? with
  | none => rw [hu] at hj; cases hj
  | some u =>
    rw [hu] at hj
    cases Option.some.inj hj
    obtain ⟨g, o, hp, c, hcl, hcc, q0, q1⟩ := hall j u hu
    exact ⟨g, o, u.2, hp, by simpa using hcc 0 _ q0, q1⟩
set_option maxRecDepth 100000 in
theorem open_days {r : Reach} {b0 : Nat} {v : Value} {d : DataW H} {q : List MemPlace} (hv : Value.okWide Tryd.prog W r b0 25 v) (h : DataW.Trod enc Tryd.prog W 0 (fun _ => true) true 25 v d q) : ∃ l, RowDs W v l := by
  obtain ⟨ao, k0, c0, rfl⟩ := okWide_slice Tryd.underlying25 hv
  obtain ⟨fuel, hf⟩ := h
  obtain ⟨sl, l, e, hr⟩ := open_days9 hf
  have e' : Value.slice ao k0 c0 = sl := by simpa [Value.cells] using e
  rw [e']
  exact ⟨l, hr⟩
set_option maxRecDepth 100000 in
theorem open_ints {r : Reach} {b0 : Nat} {v : Value} {d : DataW H} {q : List MemPlace} (hv : Value.okWide Tryd.prog W r b0 26 v) (h : DataW.Trod enc Tryd.prog W 0 (fun _ => true) true 26 v d q) : ∃ l, RowI W v l := by
  obtain ⟨ao, k0, c0, rfl⟩ := okWide_slice Tryd.underlying26 hv
  obtain ⟨fuel, hf⟩ := h
  obtain ⟨sl, l, e, hr⟩ := open_ints9 hf
  have e' : Value.slice ao k0 c0 = sl := by simpa [Value.cells] using e
  rw [e']
  exact ⟨l, hr⟩
set_option maxRecDepth 100000 in
/-- A service that came in. -/
theorem open_service {r : Reach} {b0 : Nat} {v : Value} {d : DataW H} {q : List MemPlace} (hv : Value.okWide Tryd.prog W r b0 24 v) (h : DataW.Trod enc Tryd.prog W 0 (fun _ => true) true 24 v d q) : ∃ (s : Sv) (rv : Value), v = svV s rv ∧ RowRI W rv s.roles := by
  obtain ⟨cs, rfl, _⟩ := okWide_struct Tryd.underlying24 hv
  obtain ⟨fuel, hf⟩ := h
  obtain ⟨xs, m, _, _, hl, hx, hall⟩ := DataW.trod_struct Tryd.underlying24 hf
  rw [cSv9] at hl
  have hx4 : xs.length = 4 := hx
  have hcs : (Value.agg cs).cells.toList = cs.toList := rfl
  rw [hcs] at hl hall
  obtain ⟨c0, c1, c2, c3, hcs2⟩ := four9 hl
  obtain ⟨x0, x1, x2, x3, rfl⟩ := four9 hx4
  rw [hcs2] at hall
  have h0 : DataW.trod enc Tryd.prog W 0 (fun _ => true) true m 3 (([c0, c1, c2, c3].drop 0).take (Tryd.prog.cellsOf 3)) = some x0 := hall 0 _ rfl
  have h1 : DataW.trod enc Tryd.prog W 0 (fun _ => true) true m 3 (([c0, c1, c2, c3].drop 1).take (Tryd.prog.cellsOf 3)) = some x1 := hall 1 _ rfl
  have h2 : DataW.trod enc Tryd.prog W 0 (fun _ => true) true m 3 (([c0, c1, c2, c3].drop 2).take (Tryd.prog.cellsOf 3)) = some x2 := hall 2 _ rfl
  have h3 : DataW.trod enc Tryd.prog W 0 (fun _ => true) true m 22 (([c0, c1, c2, c3].drop 3).take (Tryd.prog.cellsOf 22)) = some x3 := hall 3 _ rfl
  rw [cN9] at h0 h1 h2
  rw [cIss9] at h3
  obtain ⟨a, e0, _⟩ := DataW.trod_int Tryd.underlying3 h0
  obtain ⟨b, e1, _⟩ := DataW.trod_int Tryd.underlying3 h1
  obtain ⟨c, e2, _⟩ := DataW.trod_int Tryd.underlying3 h2
  obtain ⟨sl, l, e3, hr⟩ := open_intss9 h3
  simp at e0 e1 e2 e3
  subst e0 e1 e2 e3
  refine ⟨⟨a, b, c, l⟩, c3, ?_, hr⟩
  unfold svV
  congr 1
  exact Array.toList_inj.1 hcs2
set_option maxRecDepth 100000 in
theorem days_stay {W' : World} {v : Value} {d : DataW H} {p : List MemPlace} (h : DataW.Trod enc Tryd.prog W 0 (fun _ => true) true 25 v d p) (hb : Below W.heap.size W W') (hlt : ∀ x ∈ p, x.block < W.heap.size) : DataW.Trod enc Tryd.prog W' 0 (fun b => decide (b < W.heap.size)) true 25 v d p :=
  Below.trod (by kernel_rfl) (by kernel_rfl) (of_decide_eq_true (by kernel_rfl)) h hb hlt
set_option maxRecDepth 100000 in
theorem ints_stay {W' : World} {v : Value} {d : DataW H} {p : List MemPlace} (h : DataW.Trod enc Tryd.prog W 0 (fun _ => true) true 26 v d p) (hb : Below W.heap.size W W') (hlt : ∀ x ∈ p, x.block < W.heap.size) : DataW.Trod enc Tryd.prog W' 0 (fun b => decide (b < W.heap.size)) true 26 v d p :=
  Below.trod (by kernel_rfl) (by kernel_rfl) (of_decide_eq_true (by kernel_rfl)) h hb hlt
set_option maxRecDepth 100000 in
theorem service_stays {W' : World} {v : Value} {d : DataW H} {p : List MemPlace} (h : DataW.Trod enc Tryd.prog W 0 (fun _ => true) true 24 v d p) (hb : Below W.heap.size W W') (hlt : ∀ x ∈ p, x.block < W.heap.size) : DataW.Trod enc Tryd.prog W' 0 (fun b => decide (b < W.heap.size)) true 24 v d p :=
  Below.trod (by kernel_rfl) (by kernel_rfl) (of_decide_eq_true (by kernel_rfl)) h hb hlt
end Go.Proofs.YtlhjgajhcabhoaaDoor

/- How days that came in read, with their room. -/
namespace Go.Proofs.YtlhjgajhcabhoaaDoor
open Go.ChangeShapes Go.WideShapes Go.ChangeAt Go.WideMaps Go.WideElems Go.RowKit Go.Joins Msk Mx
variable {H : Type} {enc : TypeId × Value → H} {W : World}
set_option maxRecDepth 100000 in
theorem open_daysC {r : Reach} {b0 : Nat} {v : Value} {d : DataW H} {q : List MemPlace} (hv : Value.okWide Tryd.prog W r b0 25 v) (h : DataW.Trod enc Tryd.prog W 0 (fun _ => true) true 25 v d q) : ∃ (l : List (List (Nat → Bool))) (p : Option Addr) (c : Nat), v = .slice p l.length c ∧ RowDs W (.slice p l.length c) l ∧ l.length ≤ c ∧ c ≤ maxLen := by
  obtain ⟨ao, k0, c0, rfl⟩ := okWide_slice Tryd.underlying25 hv
  obtain ⟨fuel, hf⟩ := h
  obtain ⟨sl, l, e, hr⟩ := open_days9 hf
  have e' : Value.slice ao k0 c0 = sl := by simpa [Value.cells] using e
  subst e'
  obtain ⟨p, c, e2, h2, h3⟩ := id hr
  have hcap : k0 ≤ c0 ∧ c0 ≤ maxLen := by
    rcases DataW.trod_slice Tryd.underlying25 hf with ⟨e1, _⟩ | ⟨a, len', cap', elems, rest, m, _, e1, _, _, hlc, hm, _⟩
    · have e1' : Value.slice ao k0 c0 = .slice none 0 0 := by simpa [Value.cells] using e1
      injection e1' with _ a1 a2
      subst a1 a2
      exact ⟨Nat.le_refl _, Nat.zero_le _⟩
    · have e1' : Value.slice ao k0 c0 = .slice (some a) len' cap' := by simpa [Value.cells] using e1
      injection e1' with _ a1 a2
      subst a1 a2
      exact ⟨hlc, hm⟩
  injection e2 with a1 a2 a3
  subst a1 a2 a3
  exact ⟨l, _, _, rfl, hr, hcap.1, hcap.2⟩
end Go.Proofs.YtlhjgajhcabhoaaDoor

/- What the condition on the listed table gives the walks, the start that meets it, and how a mask that came in reads. -/
namespace Go.Proofs.YtlhjgajhcabhoaaDoor
open Go.ChangeShapes Go.WideShapes Go.ChangeAt Go.WideMaps Go.WideElems Go.RowKit Go.Joins Msk

/-- The listed variable, as every row of the seat lists it. -/
abbrev laid1 : List (String × DataW Unit) := Rows.matchTellsRow.laid
def tabName : String := (Rows.matchTellsRow.named.headD default)
def tabInts : List Int := Lib.deBruijn64tab.map fun (n : Nat) => (n : Int)
theorem own : ownKnob Tryd.prog.godebug = none := by kernel_rfl
theorem gTab : Tryd.prog.globalNamed tabName = some 0 := by kernel_rfl
theorem tTab : (Tryd.prog.globals[0]?).map (·.type) = some 103 := by kernel_rfl
theorem cU8 : Tryd.prog.cellsOf 5 = 1 := by kernel_rfl
theorem cTab : Tryd.prog.cellsOf 103 = 64 := by kernel_rfl
theorem cU64F : Tryd.prog.cellsOf 39 = 1 := by kernel_rfl
theorem cMaskF : Tryd.prog.cellsOf 41 = 23 := by kernel_rfl

theorem door_met (os : Os) (args : Array Value) : laidMetH Tryd.prog laid1 ((World.doorLaid Tryd.prog 400 os).forCall (fun _ _ => 0) ⟨#[], args, []⟩).memory :=
  laidMetH_of_parts3 (fuel := 8) (laidMet_of_run' 8 (by kernel_rfl) (by kernel_rfl)) (by kernel_rfl) (by kernel_rfl)

theorem tab_of_laid {W : World} (h : laidMetH Tryd.prog laid1 W) : Tab W := by
  rw [MakeChecks.laidMetH_plain _ _ _ (by kernel_rfl)] at h
  have t : Lib.TabIs Tryd.prog W tabName .u8 tabInts := Lib.tabIs_of_head (name := tabName) (rest := []) gTab tTab Tryd.underlying103 Tryd.underlying5 cU8 cTab h
  intro i hi
  have := t.cell gTab i (by simpa [tabInts, Lib.deBruijn64tab] using hi)
  rw [this]
  have hl : i < Lib.deBruijn64tab.length := by simpa [Lib.deBruijn64tab] using hi
  simp [tabInts, List.getD, hl]

end Go.Proofs.YtlhjgajhcabhoaaDoor

/- Five arguments. It speaks of no program. -/
namespace Go.Proofs.YtlhjgajhcabhoaaDoor
open Go.ChangeShapes Go.WideShapes Go.ChangeAt Go.WideMaps Go.WideElems Go.RowKit Go.Joins

theorem trodAll_five {H : Type} {enc : TypeId × Value → H} {P : Program} {w : World} {base : Nat} {spare : Nat → Bool} {held : Bool} {t0 t1 t2 t3 t4 : TypeId} {args : Array Value} {ds : List (DataW H)} {ps : List MemPlace} (h : DataW.TrodAll enc P w base spare held [t0, t1, t2, t3, t4] args.toList ds ps) :
    ∃ v0 v1 v2 v3 v4 d0 d1 d2 d3 d4 p0 p1 p2 p3 p4, args = #[v0, v1, v2, v3, v4] ∧ ds = [d0, d1, d2, d3, d4] ∧ ps = p0 ++ (p1 ++ (p2 ++ (p3 ++ p4))) ∧ DataW.Trod enc P w base spare held t0 v0 d0 p0 ∧ DataW.Trod enc P w base spare held t1 v1 d1 p1 ∧ DataW.Trod enc P w base spare held t2 v2 d2 p2 ∧ DataW.Trod enc P w base spare held t3 v3 d3 p3 ∧ DataW.Trod enc P w base spare held t4 v4 d4 p4 := by
  obtain ⟨v0, vs, d0, ds', p0, q, hargs, rfl, rfl, h0, hr⟩ := trodAll_cons h
  obtain ⟨v1, vs1, d1, ds1, p1, q1, rfl, rfl, rfl, h1, hr1⟩ := trodAll_cons hr
  obtain ⟨v2, vs2, d2, ds2, p2, q2, rfl, rfl, rfl, h2, hr2⟩ := trodAll_cons hr1
  obtain ⟨v3, vs3, d3, ds3, p3, q3, rfl, rfl, rfl, h3, hr3⟩ := trodAll_cons hr2
  obtain ⟨v4, vs4, d4, ds4, p4, q4, rfl, rfl, rfl, h4, hr4⟩ := trodAll_cons hr3
  obtain ⟨rfl, rfl, rfl⟩ := trodAll_nil hr4
  exact ⟨v0, v1, v2, v3, v4, d0, d1, d2, d3, d4, p0, p1, p2, p3, p4, by cases args; simp_all, rfl, by simp, h0, h1, h2, h3, h4⟩
theorem trodAll_mk5 {H : Type} {enc : TypeId × Value → H} {P : Program} {w : World} {base : Nat} {spare : Nat → Bool} {held : Bool} {t0 t1 t2 t3 t4 : TypeId} {v0 v1 v2 v3 v4 : Value} {d0 d1 d2 d3 d4 : DataW H} {p0 p1 p2 p3 p4 : List MemPlace} (h0 : DataW.Trod enc P w base spare held t0 v0 d0 p0) (h1 : DataW.Trod enc P w base spare held t1 v1 d1 p1) (h2 : DataW.Trod enc P w base spare held t2 v2 d2 p2)
    (h3 : DataW.Trod enc P w base spare held t3 v3 d3 p3) (h4 : DataW.Trod enc P w base spare held t4 v4 d4 p4) : DataW.TrodAll enc P w base spare held [t0, t1, t2, t3, t4] [v0, v1, v2, v3, v4] [d0, d1, d2, d3, d4] (p0 ++ (p1 ++ (p2 ++ (p3 ++ p4)))) := ⟨p0, _, h0, trodAll_mk4 h1 h2 h3 h4, rfl⟩
end Go.Proofs.YtlhjgajhcabhoaaDoor
