/- What the document's Factor comes to, where its Thing comes to what it should. -/
import Derived.Test.YtggcepicghibjacDoorPm19
namespace Go.Proofs.YtggcepicghibjacDoor
open Go.RowKit Lx
variable {all : List Tk} {E g : Nat} {v : Value} {w : World} {i n : Nat} {er at_ : Int}

/-- How far there is to go: nothing, where something is wrong. -/
def mzOf (l g : Nat) (w : World) : Nat := match w.heap[g]? with
  | some (.cells cs _ _) => if intOf (cs.getD 4 undef) = 0 then l + 1 - (intOf (cs.getD 1 undef)).toNat else 0
  | _ => 0
theorem WSt.mz_ok (h : WSt all E g v w i n 0 at_) (l : Nat) : mzOf l g w = l + 1 - i := by
  unfold mzOf
  rw [h.blk]
  simp [intOf]
theorem WSt.mz_bad (h : WSt all E g v w i n er at_) (he : er ≠ 0) (l : Nat) : mzOf l g w = 0 := by
  unfold mzOf
  rw [h.blk]
  simp [intOf, he]
theorem num_w (h0 : WS0 all E g v) (i : Nat) : 0 ≤ numP (all.drop i) ∧ numP (all.drop i) ≤ 999999 := by
  cases h : all.drop i with
  | nil => exact ⟨by decide, by decide⟩
  | cons p r => exact h0.num p (List.mem_of_mem_drop (h ▸ List.mem_cons_self))
/-- An expression stands in a variable, or something is wrong. -/
def LoopW (all : List Tk) (E g : Nat) (v : Value) (w : World) (b m : Nat) (X : Res) (nx : Ex → List Tk → Nat → Res) (wr : World) : Prop :=
  Kept g w wr ∧ wr.heap[w.heap.size]? = some (.cells ex0C 60 (0, 0)) ∧
  ((∃ (e : Ex) (j k : Nat), m ≤ j ∧ nx e (all.drop j) k = X ∧ VarE w wr b e ∧ WSt all E g v wr j k 0 0 ∧ k ≤ 600) ∨
   (∃ (er : Int) (at_ j k : Nat), X = .error (er, at_) ∧ er ≠ 0 ∧ WSt all E g v wr j k er at_ ∧ ∃ (a b' c : Int) (x : ByteArray) (p : Option Addr) (q r : Nat), wr.heap[b]? = some (.cells #[.int .i64 a, .int .i64 b', .int .i64 c, .string x, .slice p q r] 60 (0, 0))))

set_option maxRecDepth 100000 in
set_option maxHeartbeats 8000000 in
theorem rfactor_step (h0 : WS0 all E g v) (hT : RW all E g v 81 6 i) : RW all E g v 54 4 i := by
  intro w n d h hn6 hd41
  have hgl := lt_of_block h.blk
  have hlen := h0.len
  have hb0 : Below w.heap.size w (w.alloc (.cells #[.int .i64 0, .int .i64 0, .int .i64 0, .string ⟨#[]⟩, .slice none 0 0] 60)) := (Below.refl _ _).alloc (Nat.le_refl _) _
  have hz := zero_new w
  have hS0 := h.below hb0 h0
  have hkA := Kept.of_below (g := g) hb0
  have hszA : (w.alloc (.cells #[.int .i64 0, .int .i64 0, .int .i64 0, .string ⟨#[]⟩, .slice none 0 0] 60)).heap.size = w.heap.size + 1 := by simp
  generalize hwA : w.alloc (.cells #[.int .i64 0, .int .i64 0, .int .i64 0, .string ⟨#[]⟩, .slice none 0 0] 60) = w0 at *
  have c1 := hT w0 n d hS0 hn6 hd41
  generalize hXd : rd E 4 d ex0 (all.drop i) n = X
  rw [rd_4] at hXd
  go_enter Tryd.func54, Tryd.ntmps54
  go_wp2_with fail
  refine c1.mono ?_
  intro e w1 ho
  have ho' : ∃ (a b c : Int) (x : ByteArray) (p : Option Addr) (q r : Nat), e = .returned (.agg #[.int .i64 a, .int .i64 b, .int .i64 c, .string x, .slice p q r]) ∧ LoopW all E g v w w1.heap.size 0 X (fun e r n => rd E 5 d e r n) (w1.alloc (.cells #[.int .i64 a, .int .i64 b, .int .i64 c, .string x, .slice p q r] 60)) := by
    cases hx : rd E 6 d ex0 (all.drop i) n with
    | error q =>
      obtain ⟨er, at'⟩ := q
      rw [hx] at ho hXd
      obtain ⟨hne, ⟨a, b, c, x, p, q, r, rfl⟩, ⟨i1, n1, h1⟩, hk1⟩ := ho
      have hz1 := hk1.at hz (by omega)
      have hb2 : Below w1.heap.size w1 (w1.alloc (.cells #[.int .i64 a, .int .i64 b, .int .i64 c, .string x, .slice p q r] 60)) := (Below.refl _ _).alloc (Nat.le_refl _) _
      exact ⟨a, b, c, x, p, q, r, rfl, (hkA.trans hk1).trans (Kept.of_below hb2), (hb2.block _ (lt_of_block hz1)).trans hz1, .inr ⟨er, at', i1, n1, hXd.symm, hne, h1.below hb2 h0, a, b, c, x, p, q, r, heap_alloc_new w1 _⟩⟩
    | ok q =>
      obtain ⟨e0, rr, n0⟩ := q
      rw [hx] at ho hXd
      obtain ⟨i1, sl, dd, hr', rfl, hkd, h1, hn1, hk1⟩ := ho
      subst hr'
      obtain ⟨p1, q1, rfl⟩ := hkd.form
      have hs1 := hk1.size
      have hz1 := hk1.at hz (by omega)
      have hb2 : Below w1.heap.size w1 (w1.alloc (.cells #[.int .i64 e0.kind, .int .i64 e0.a, .int .i64 e0.b, .string ⟨e0.name.toArray⟩, .slice p1 e0.kids.length q1] 60)) := (Below.refl _ _).alloc (Nat.le_refl _) _
      exact ⟨e0.kind, e0.a, e0.b, _, p1, e0.kids.length, q1, rfl, (hkA.trans hk1).trans (Kept.of_below hb2), (hb2.block _ (lt_of_block hz1)).trans hz1, .inl ⟨e0, i1, n0, Nat.zero_le _, hXd, ⟨p1, q1, dd, heap_alloc_new w1 _, (Kept.of_below (g := g) hb2).kids (fun k hk => by omega) (hkd.lt.mono fun k hk => by omega)⟩, h1.below hb2 h0, hn1⟩⟩
  have hs1 : w.heap.size + 1 ≤ w1.heap.size := by
    cases hx : rd E 6 d ex0 (all.drop i) n with
    | error q =>
      obtain ⟨er, at'⟩ := q
      rw [hx] at ho
      have := ho.2.2.2.size
      omega
    | ok q =>
      obtain ⟨e0, rr, n0⟩ := q
      rw [hx] at ho
      obtain ⟨_, _, _, _, _, _, _, _, hk1⟩ := ho
      have := hk1.size
      omega
  obtain ⟨a, b, c, x, p, q, r, rfl, HL⟩ := ho'
  clear ho c1 hS0 hkA hb0 hXd hwA hz
  have HLL : Hid (LoopW all E g v w w1.heap.size 0 X (fun e r n => rd E 5 d e r n) (w1.alloc (.cells #[.int .i64 a, .int .i64 b, .int .i64 c, .string x, .slice p q r] 60))) := HL
  clear HL
  generalize hw2 : w1.alloc (.cells #[.int .i64 a, .int .i64 b, .int .i64 c, .string x, .slice p q r] 60) = w2 at *
  go_wp2_with fail
  clear hw2
  go_loopw [6] (fun _ wr => LoopW all E g v w w1.heap.size 0 X (fun e r n => rd E 5 d e r n) wr) (fun _ wr => mzOf all.length g wr)
  case atStart => exact HLL.out
  case round =>
    clear HLL
    obtain ⟨hkp, hzr, ⟨e, j, m, -, hXr, hv, hst, hm6⟩ | ⟨er, at', j, m, hXe, hne, hst, a, b, c, x, p, q, r, hrow⟩⟩ := hrel
    · replace hXr : rd E 5 d e (all.drop j) m = X := hXr
      have c2 := on_any h0 hst 2 wShift
      rw [on_word h0 (by decide) j] at c2
      by_cases hs : isT wShift (all.drop j) = true
      · have hj1 := isT_len (by decide) hs
        rw [rd5_shift d e j m hs] at hXr
        rw [hs] at c2
        clear hs
        have hmz := hst.mz_ok all.length
        have cM := fun (w1 : World) (h1 : WSt all E g v w1 (j + 1) m 0 0) => on_any h0 h1 3 wMinus
        simp only [on_sign h0 (x := wMinus) (by decide) (j + 1)] at cM
        go_wp2_with fail
        refine c2.mono ?_
        rintro e' w3 ⟨rfl, hb3⟩
        have h3 := hst.below hb3 h0
        have k1 := (cell_of_row _ _ 1 _ _ _ h3.blk).trans rfl
        have y1 := frozen_of_row _ _ 1 _ _ h3.blk
        have h4 := h3.set h0 hj1
        have hk34 := (Kept.of_below (g := g) hb3).trans (Kept.set w3 g 1 (.int .i64 ((j + 1 : Nat) : Int)))
        have hv4 := hv.kept hk34 (by omega) hgl
        have hz4 := hk34.at hzr (by omega)
        have hk4 := hkp.trans hk34
        have ei : (j : Int) + 1 = ((j + 1 : Nat) : Int) := by omega
        have hj6 : (j : Int) ≤ 6000 := by omega
        clear c2 hst h3 hb3 hk34 hkp hzr hv
        generalize hvv : ((j + 1 : Nat) : Int) = vv at *
        generalize hw4 : w3.setCell ⟨g, 1, none⟩ (.int .i64 vv) = w4 at *
        unfold shiftX at hXr
        by_cases hm : isT wMinus (all.drop (j + 1)) = true
        · have eq_ : shAt all (j + 1) = j + 1 + 1 := by unfold shAt; rw [if_pos hm]
          have hj2 := isT_len (by decide) hm
          rw [eq_, if_pos hm] at hXr
          have c5 := cM _ h4
          rw [hm] at c5
          clear cM hm eq_
          go_wp2_with fail
          refine c5.mono ?_
          rintro e' w5 ⟨rfl, hb5⟩
          have h5 := h4.below hb5 h0
          have k5 := (cell_of_row _ _ 1 _ _ _ h5.blk).trans rfl
          have y5 := frozen_of_row _ _ 1 _ _ h5.blk
          have h6 := h5.set h0 hj2
          have hk56 := (Kept.of_below (g := g) hb5).trans (Kept.set w5 g 1 (.int .i64 ((j + 1 + 1 : Nat) : Int)))
          have hv6 := hv4.kept hk56 (by omega) hgl
          have hz6 := hk56.at hz4 (by omega)
          have hk6 := hk4.trans hk56
          have ei2 : ((j + 1 : Nat) : Int) + 1 = ((j + 1 + 1 : Nat) : Int) := by omega
          have hj62 : ((j + 1 : Nat) : Int) ≤ 6000 := by omega
          rw [hvv] at k5 ei2 hj62
          clear c5 h5 hb5 hk56 hk4 hz4 hv4 hw4 h4
          generalize hvv2 : ((j + 1 + 1 : Nat) : Int) = vv2 at *
          generalize hw6 : w5.setCell ⟨g, 1, none⟩ (.int .i64 vv2) = w6 at *
          clear hvv2
          have hqj : j < j + 1 + 1 := by omega
          generalize hq' : j + 1 + 1 = q0 at *
          clear hq'
          have c7 := get_any h0 h6 6 (by decide)
          have hN := num_w h0 q0
          unfold tokV at c7
          have HX : Hid (afterShift E d all e m (if kindP (all.drop q0) ≠ 6 then .error (2, atP E (all.drop q0)) else if 1440 ≤ numP (all.drop q0) ∨ numP (all.drop q0) < 1 then .error (3, atP E (all.drop q0)) else .ok (-numP (all.drop q0), q0 + 1)) = X) := hXr
          clear hXr
          generalize hkq : kindP (all.drop q0) = t0 at *
          generalize numP (all.drop q0) = N at *
          generalize hat : atP E (all.drop q0) = t2n at *
          generalize ht2 : (t2n : Int) = t2 at *
          generalize (⟨(textP (all.drop q0)).toArray⟩ : ByteArray) = t3 at *
          obtain ⟨hN0, hN9⟩ := hN
          clear hkq hat
          go_wp2_with fail
          refine c7.mono ?_
          rintro e' w7 ⟨rfl, hk7, -, hbad, hgood⟩
          clear c7
          have hs7 := hk7.size
          have hb8 : Below w7.heap.size w7 (w7.alloc (.cells #[.int .i64 t0, .int .i64 N, .int .i64 t2, .string t3] 30)) := (Below.refl _ _).alloc (Nat.le_refl _) _
          have hx8 := heap_alloc_new w7 (.cells #[.int .i64 t0, .int .i64 N, .int .i64 t2, .string t3] 30)
          have hk68 := hk7.trans (Kept.of_below hb8)
          have hv8 := hv6.kept hk68 (by omega) hgl
          have hz8 := hk68.at hz6 (by omega)
          have hk8 := hk6.trans hk68
          have kd1 : (w7.alloc (.cells #[.int .i64 t0, .int .i64 N, .int .i64 t2, .string t3] 30)).cell? ⟨w7.heap.size, 1, none⟩ = some (.int .i64 N) := (cell_of_row _ _ 1 _ _ _ hx8).trans rfl
          have kd2 : (w7.alloc (.cells #[.int .i64 t0, .int .i64 N, .int .i64 t2, .string t3] 30)).cell? ⟨w7.heap.size, 2, none⟩ = some (.int .i64 t2) := (cell_of_row _ _ 2 _ _ _ hx8).trans rfl
          by_cases hk : t0 = 6
          · have h7 := hgood (by trivial) hk
            have h8 := h7.below hb8 h0
            have hXX := HX.out
            rw [if_neg (by simp [hk])] at hXX
            clear HX hbad hgood h7 hb8 hk7 hk68 hk hv6 hz6 hk6 h6
            generalize hw8 : w7.alloc (.cells #[.int .i64 t0, .int .i64 N, .int .i64 t2, .string t3] 30) = w8 at *
            have cg := good_any h8
            have cst := stop_good h0 h8 3 t2
            by_cases hr : 1440 ≤ N ∨ N < 1
            · rw [if_pos hr] at hXX
              have HX : Hid (X = .error (3, t2n)) := hXX.symm
              clear hXX
              by_cases hz0 : N = 0
              · subst hz0
                go_wp2_with fail
                refine cg.mono ?_
                rintro e' w9 ⟨rfl, hw9⟩
                subst w9
                clear hw8
                go_wp2_with fail
                refine cst.mono ?_
                rintro e' w9 ⟨rfl, h9, hk9⟩
                have cg9 := good_any h9
                rw [show ((3 : Int) == 0) = false by rfl] at cg9
                have hv9 := hv8.kept hk9 (by omega) hgl
                have hz9 := hk9.at hz8 (by omega)
                have hkw9 := hk8.trans hk9
                clear cg cst h8 hv8 hz8 hk8 hk9
                go_wp2_with fail
                refine cg9.mono ?_
                rintro e' w10 ⟨rfl, hw10⟩
                subst w10
                go_wp2_with fail
                obtain ⟨pv, cv, dv, he8, hkv⟩ := hv9.ex
                go_roundw
                case rel =>
                  exact ⟨hkw9, hz9, .inr ⟨3, t2n, _, _, HX.out, by decide, ht2 ▸ h9, _, _, _, _, _, _, _, he8⟩⟩
                case measure =>
                  show mzOf _ _ _ < _
                  rw [hmz, h9.mz_bad (by decide)]
                  omega
              · have hz0' : (N == 0) = false := by simpa using hz0
                have hgt : (1439 : Int) < N := by omega
                go_wp2_with fail
                refine cg.mono ?_
                rintro e' w9 ⟨rfl, hw9⟩
                subst w9
                clear hw8
                go_wp2_with fail
                refine cst.mono ?_
                rintro e' w9 ⟨rfl, h9, hk9⟩
                have cg9 := good_any h9
                rw [show ((3 : Int) == 0) = false by rfl] at cg9
                have hv9 := hv8.kept hk9 (by omega) hgl
                have hz9 := hk9.at hz8 (by omega)
                have hkw9 := hk8.trans hk9
                clear cg cst h8 hv8 hz8 hk8 hk9
                go_wp2_with fail
                refine cg9.mono ?_
                rintro e' w10 ⟨rfl, hw10⟩
                subst w10
                go_wp2_with fail
                obtain ⟨pv, cv, dv, he8, hkv⟩ := hv9.ex
                go_roundw
                case rel =>
                  exact ⟨hkw9, hz9, .inr ⟨3, t2n, _, _, HX.out, by decide, ht2 ▸ h9, _, _, _, _, _, _, _, he8⟩⟩
                case measure =>
                  show mzOf _ _ _ < _
                  rw [hmz, h9.mz_bad (by decide)]
                  omega
            · rw [if_neg hr] at hXX
              have hz0' : (N == 0) = false := beq_eq_false_iff_ne.2 (by omega)
              have hgt : ¬ (1439 : Int) < N := by omega
              have HX : Hid (andThen (endedP E ⟨9, -N, 0, [], [e]⟩ (all.drop (q0 + 1)) m) (fun e r n => rd E 5 d e r n) = X) := hXX
              clear hXX cst hr
              go_wp2_with fail
              refine cg.mono ?_
              rintro e' w9 ⟨rfl, hw9⟩
              subst w9
              clear hw8
              go_wp2_with fail
              refine cg.mono ?_
              rintro e' w9 ⟨rfl, hw9⟩
              subst w9
              obtain ⟨pv, cv, dv, he8, hkv⟩ := hv8.ex
              have hb9 : Below w8.heap.size w8 (w8.alloc (.cells #[.int .i64 e.kind, .int .i64 e.a, .int .i64 e.b, .string ⟨e.name.toArray⟩, .slice pv e.kids.length cv] 60)) := (Below.refl _ _).alloc (Nat.le_refl _) _
              have hlx := lt_of_block hx8
              have kk := kids_one (B := fun k => w.heap.size + 1 ≤ k ∧ k ≠ w1.heap.size) (by have := lt_of_block he8; constructor <;> omega) (heap_alloc_new w8 (.cells #[.int .i64 e.kind, .int .i64 e.a, .int .i64 e.b, .string ⟨e.name.toArray⟩, .slice pv e.kids.length cv] 60)) ((Kept.of_below (g := g) hb9).kids (fun k hk => by omega) hkv)
              have h9 := h8.below hb9 h0
              have he9 := (hb9.block _ (lt_of_block he8)).trans he8
              have hz9 := (hb9.block _ (lt_of_block hz8)).trans hz8
              have hk9 := hk8.trans (Kept.of_below hb9)
              have c6 := made_any h0 h9 hm6 (fun k => w.heap.size + 1 ≤ k ∧ k ≠ w1.heap.size) (fun k hk => by omega) ⟨9, -N, 0, [], [e]⟩ _ _ kk
              unfold exV at c6
              have ew : IntKind.i64.wrap (-N) = -N := by rw [IntKind.wrap_i64]; omega
              clear hv8 hkv hb9 h8 hk8 kk cg hz8
              generalize hw9 : w8.alloc (.cells #[.int .i64 e.kind, .int .i64 e.a, .int .i64 e.b, .string ⟨e.name.toArray⟩, .slice pv e.kids.length cv] 60) = w9 at *
              go_wp2_with (refine wpList_load_row rfl 60 _ rfl _ rfl _ _ _ _ he8 exprType rfl (by kernel_rfl) ?_)
              refine c6.mono ?_
              intro e' w10 ho
              clear hw9
              cases hx : endedP E ⟨9, -N, 0, [], [e]⟩ (all.drop (q0 + 1)) m with
              | error q =>
                obtain ⟨er, at'⟩ := q
                have hXX := HX.out
                rw [hx] at ho hXX
                obtain ⟨hne, ⟨a, b, c, x, p, q, r, rfl⟩, ⟨i10, n10, h10⟩, hk10⟩ := ho
                have he10 := hk10.at he9 (by omega)
                have hz10 := hk10.at hz9 (by omega)
                have hk910 := hk9.trans hk10
                have HR : Hid (∀ cs, WSt all E g v (w10.setRow w1.heap.size cs) i10 n10 er at' ∧ Kept g w (w10.setRow w1.heap.size cs) ∧ (w10.setRow w1.heap.size cs).heap[w.heap.size]? = some (.cells ex0C 60 (0, 0))) := fun cs => ⟨h.row_set h0 h10 hk910 (by omega) cs, hk910.setRow (by omega) cs, (setRow_other _ _ _ _ (by omega)).trans hz10⟩
                have HE : Hid (X = .error (er, at') ∧ er ≠ 0) := ⟨hXX.symm, hne⟩
                clear hx hXX hne h10 hk10 hz10 hk910 c6 he9 hz9 hk9 h9 HX
                go_wp2_with (refine wpList_store_row rfl 60 _ _ rfl _ _ rfl rfl _ _ he10 (by kernel_rfl) (by simp) (by simp [Value.oneCell']) ?_)
                obtain ⟨r1, r2, r3⟩ := HR.out #[.int .i64 a, .int .i64 b, .int .i64 c, .string x, .slice p q r]
                go_roundw
                case rel =>
                  (repeat apply Exists.intro)
                  exact ⟨⟨r2, r3, .inr ⟨er, at', _, _, HE.out.1, HE.out.2, r1, _, _, _, _, _, _, _, setRow_heap _ _ _ _ _ _ he10⟩⟩, rfl⟩
                case measure =>
                  show mzOf _ _ _ < _
                  rw [hmz, r1.mz_bad HE.out.2]
                  omega
              | ok q =>
                obtain ⟨e6, rr, n6⟩ := q
                have hXX := HX.out
                rw [hx] at ho hXX
                obtain ⟨i10, sl, dd, hr', rfl, hkd, h10, hn10, hk10⟩ := ho
                have er := endedP_ok hx
                cases er
                obtain ⟨p6, q6, rfl⟩ := hkd.form
                have he10 := hk10.at he9 (by omega)
                have hz10 := hk10.at hz9 (by omega)
                have hk910 := hk9.trans hk10
                have i6e : all.drop (q0 + 1) = all.drop i10 := hr'
                have HR : Hid (∀ cs, WSt all E g v (w10.setRow w1.heap.size cs) i10 (m + 1) 0 0 ∧ Kept g w (w10.setRow w1.heap.size cs) ∧ (w10.setRow w1.heap.size cs).heap[w.heap.size]? = some (.cells ex0C 60 (0, 0)) ∧ KidsAt (fun k => w.heap.size + 1 ≤ k ∧ k ≠ w1.heap.size) dd (w10.setRow w1.heap.size cs) (.slice p6 1 q6) [e]) := fun cs => ⟨h.row_set h0 h10 hk910 (by omega) cs, hk910.setRow (by omega) cs, (setRow_other _ _ _ _ (by omega)).trans hz10, hkd.kept fun k hk _ => setRow_other _ _ _ _ hk.2⟩
                have HE : Hid (rd E 5 d ⟨9, -N, 0, [], [e]⟩ (all.drop i10) (m + 1) = X) := by
                  show _ = _
                  rw [← i6e]; exact hXX
                have hi10 : j < i10 := by
                  have l1 := congrArg List.length i6e
                  simp only [List.length_drop] at l1
                  have := h10.le
                  have := h9.le
                  omega
                unfold exV
                clear hx hXX h10 hk10 hz10 hk910 c6 he9 hz9 hk9 h9 HX hkd i6e hr'
                go_wp2_with (refine wpList_store_row rfl 60 _ _ rfl _ _ rfl rfl _ _ he10 (by kernel_rfl) (by simp) (by simp [Value.oneCell']) ?_)
                obtain ⟨r1, r2, r3, r4⟩ := HR.out #[.int .i64 9, .int .i64 (-N), .int .i64 0, .string ⟨#[]⟩, .slice p6 1 q6]
                go_roundw
                case rel =>
                  (repeat apply Exists.intro)
                  exact ⟨⟨r2, r3, .inl ⟨⟨9, -N, 0, [], [e]⟩, i10, m + 1, Nat.zero_le _, HE.out, ⟨p6, q6, dd, setRow_heap _ _ _ _ _ _ he10, r4⟩, r1, hn10⟩⟩, rfl⟩
                case measure =>
                  show mzOf _ _ _ < _
                  rw [hmz, r1.mz_ok]
                  have := r1.le
                  omega
          · have h7 := hbad (by trivial) hk
            have h8 := h7.below hb8 h0
            have hXX := HX.out
            rw [if_pos hk] at hXX
            have HX2 : Hid (X = .error (2, t2n)) := hXX.symm
            clear HX hXX hbad hgood h7 hb8 hk7 hk68 hk hv6 hz6 hk6 h6
            generalize hw8 : w7.alloc (.cells #[.int .i64 t0, .int .i64 N, .int .i64 t2, .string t3] 30) = w8 at *
            have cg := good_any h8
            rw [show ((2 : Int) == 0) = false by rfl] at cg
            go_wp2_with fail
            refine cg.mono ?_
            rintro e' w9 ⟨rfl, hw9⟩
            subst w9
            clear hw8
            go_wp2_with fail
            refine cg.mono ?_
            rintro e' w9 ⟨rfl, hw9⟩
            subst w9
            go_wp2_with fail
            obtain ⟨pv, cv, dv, he8, hkv⟩ := hv8.ex
            go_roundw
            case rel =>
              exact ⟨hk8, hz8, .inr ⟨2, t2n, _, _, HX2.out, by decide, ht2 ▸ h8, _, _, _, _, _, _, _, he8⟩⟩
            case measure =>
              show mzOf _ _ _ < _
              rw [hmz, h8.mz_bad (by decide)]
              omega
        · have hm' : isT wMinus (all.drop (j + 1)) = false := by simpa using hm
          have eq_ : shAt all (j + 1) = j + 1 := by unfold shAt; rw [if_neg hm]
          rw [eq_, if_neg hm] at hXr
          have c5 := cM _ h4
          rw [hm'] at c5
          clear cM hm hm' eq_
          go_wp2_with fail
          refine c5.mono ?_
          rintro e' w6 ⟨rfl, hb5⟩
          have h6 := h4.below hb5 h0
          have hv6 := hv4.kept (Kept.of_below (g := g) hb5) (by omega) hgl
          have hz6 := (hb5.block _ (lt_of_block hz4)).trans hz4
          have hk6 := hk4.trans (Kept.of_below hb5)
          clear c5 hb5 hk4 hz4 hv4 hw4 h4
          have hqj : j < j + 1 := by omega
          clear hvv
          generalize hq' : j + 1 = q0 at *
          clear hq'
          have c7 := get_any h0 h6 6 (by decide)
          have hN := num_w h0 q0
          unfold tokV at c7
          have HX : Hid (afterShift E d all e m (if kindP (all.drop q0) ≠ 6 then .error (2, atP E (all.drop q0)) else if 1440 ≤ numP (all.drop q0) ∨ numP (all.drop q0) < 1 then .error (3, atP E (all.drop q0)) else .ok (numP (all.drop q0), q0 + 1)) = X) := hXr
          clear hXr
          generalize hkq : kindP (all.drop q0) = t0 at *
          generalize numP (all.drop q0) = N at *
          generalize hat : atP E (all.drop q0) = t2n at *
          generalize ht2 : (t2n : Int) = t2 at *
          generalize (⟨(textP (all.drop q0)).toArray⟩ : ByteArray) = t3 at *
          obtain ⟨hN0, hN9⟩ := hN
          clear hkq hat
          go_wp2_with fail
          refine c7.mono ?_
          rintro e' w7 ⟨rfl, hk7, -, hbad, hgood⟩
          clear c7
          have hs7 := hk7.size
          have hb8 : Below w7.heap.size w7 (w7.alloc (.cells #[.int .i64 t0, .int .i64 N, .int .i64 t2, .string t3] 30)) := (Below.refl _ _).alloc (Nat.le_refl _) _
          have hx8 := heap_alloc_new w7 (.cells #[.int .i64 t0, .int .i64 N, .int .i64 t2, .string t3] 30)
          have hk68 := hk7.trans (Kept.of_below hb8)
          have hv8 := hv6.kept hk68 (by omega) hgl
          have hz8 := hk68.at hz6 (by omega)
          have hk8 := hk6.trans hk68
          have kd1 : (w7.alloc (.cells #[.int .i64 t0, .int .i64 N, .int .i64 t2, .string t3] 30)).cell? ⟨w7.heap.size, 1, none⟩ = some (.int .i64 N) := (cell_of_row _ _ 1 _ _ _ hx8).trans rfl
          have kd2 : (w7.alloc (.cells #[.int .i64 t0, .int .i64 N, .int .i64 t2, .string t3] 30)).cell? ⟨w7.heap.size, 2, none⟩ = some (.int .i64 t2) := (cell_of_row _ _ 2 _ _ _ hx8).trans rfl
          by_cases hk : t0 = 6
          · have h7 := hgood (by trivial) hk
            have h8 := h7.below hb8 h0
            have hXX := HX.out
            rw [if_neg (by simp [hk])] at hXX
            clear HX hbad hgood h7 hb8 hk7 hk68 hk hv6 hz6 hk6 h6
            generalize hw8 : w7.alloc (.cells #[.int .i64 t0, .int .i64 N, .int .i64 t2, .string t3] 30) = w8 at *
            have cg := good_any h8
            have cst := stop_good h0 h8 3 t2
            by_cases hr : 1440 ≤ N ∨ N < 1
            · rw [if_pos hr] at hXX
              have HX : Hid (X = .error (3, t2n)) := hXX.symm
              clear hXX
              by_cases hz0 : N = 0
              · subst hz0
                go_wp2_with fail
                refine cg.mono ?_
                rintro e' w9 ⟨rfl, hw9⟩
                subst w9
                clear hw8
                go_wp2_with fail
                refine cst.mono ?_
                rintro e' w9 ⟨rfl, h9, hk9⟩
                have cg9 := good_any h9
                rw [show ((3 : Int) == 0) = false by rfl] at cg9
                have hv9 := hv8.kept hk9 (by omega) hgl
                have hz9 := hk9.at hz8 (by omega)
                have hkw9 := hk8.trans hk9
                clear cg cst h8 hv8 hz8 hk8 hk9
                go_wp2_with fail
                refine cg9.mono ?_
                rintro e' w10 ⟨rfl, hw10⟩
                subst w10
                go_wp2_with fail
                obtain ⟨pv, cv, dv, he8, hkv⟩ := hv9.ex
                go_roundw
                case rel =>
                  exact ⟨hkw9, hz9, .inr ⟨3, t2n, _, _, HX.out, by decide, ht2 ▸ h9, _, _, _, _, _, _, _, he8⟩⟩
                case measure =>
                  show mzOf _ _ _ < _
                  rw [hmz, h9.mz_bad (by decide)]
                  omega
              · have hz0' : (N == 0) = false := by simpa using hz0
                have hgt : (1439 : Int) < N := by omega
                go_wp2_with fail
                refine cg.mono ?_
                rintro e' w9 ⟨rfl, hw9⟩
                subst w9
                clear hw8
                go_wp2_with fail
                refine cst.mono ?_
                rintro e' w9 ⟨rfl, h9, hk9⟩
                have cg9 := good_any h9
                rw [show ((3 : Int) == 0) = false by rfl] at cg9
                have hv9 := hv8.kept hk9 (by omega) hgl
                have hz9 := hk9.at hz8 (by omega)
                have hkw9 := hk8.trans hk9
                clear cg cst h8 hv8 hz8 hk8 hk9
                go_wp2_with fail
                refine cg9.mono ?_
                rintro e' w10 ⟨rfl, hw10⟩
                subst w10
                go_wp2_with fail
                obtain ⟨pv, cv, dv, he8, hkv⟩ := hv9.ex
                go_roundw
                case rel =>
                  exact ⟨hkw9, hz9, .inr ⟨3, t2n, _, _, HX.out, by decide, ht2 ▸ h9, _, _, _, _, _, _, _, he8⟩⟩
                case measure =>
                  show mzOf _ _ _ < _
                  rw [hmz, h9.mz_bad (by decide)]
                  omega
            · rw [if_neg hr] at hXX
              have hz0' : (N == 0) = false := beq_eq_false_iff_ne.2 (by omega)
              have hgt : ¬ (1439 : Int) < N := by omega
              have HX : Hid (andThen (endedP E ⟨9, N, 0, [], [e]⟩ (all.drop (q0 + 1)) m) (fun e r n => rd E 5 d e r n) = X) := hXX
              clear hXX cst hr
              go_wp2_with fail
              refine cg.mono ?_
              rintro e' w9 ⟨rfl, hw9⟩
              subst w9
              clear hw8
              go_wp2_with fail
              refine cg.mono ?_
              rintro e' w9 ⟨rfl, hw9⟩
              subst w9
              obtain ⟨pv, cv, dv, he8, hkv⟩ := hv8.ex
              have hb9 : Below w8.heap.size w8 (w8.alloc (.cells #[.int .i64 e.kind, .int .i64 e.a, .int .i64 e.b, .string ⟨e.name.toArray⟩, .slice pv e.kids.length cv] 60)) := (Below.refl _ _).alloc (Nat.le_refl _) _
              have hlx := lt_of_block hx8
              have kk := kids_one (B := fun k => w.heap.size + 1 ≤ k ∧ k ≠ w1.heap.size) (by have := lt_of_block he8; constructor <;> omega) (heap_alloc_new w8 (.cells #[.int .i64 e.kind, .int .i64 e.a, .int .i64 e.b, .string ⟨e.name.toArray⟩, .slice pv e.kids.length cv] 60)) ((Kept.of_below (g := g) hb9).kids (fun k hk => by omega) hkv)
              have h9 := h8.below hb9 h0
              have he9 := (hb9.block _ (lt_of_block he8)).trans he8
              have hz9 := (hb9.block _ (lt_of_block hz8)).trans hz8
              have hk9 := hk8.trans (Kept.of_below hb9)
              have c6 := made_any h0 h9 hm6 (fun k => w.heap.size + 1 ≤ k ∧ k ≠ w1.heap.size) (fun k hk => by omega) ⟨9, N, 0, [], [e]⟩ _ _ kk
              unfold exV at c6
              have ew : IntKind.i64.wrap (N) = N := by rw [IntKind.wrap_i64]; omega
              clear hv8 hkv hb9 h8 hk8 kk cg hz8
              generalize hw9 : w8.alloc (.cells #[.int .i64 e.kind, .int .i64 e.a, .int .i64 e.b, .string ⟨e.name.toArray⟩, .slice pv e.kids.length cv] 60) = w9 at *
              go_wp2_with (refine wpList_load_row rfl 60 _ rfl _ rfl _ _ _ _ he8 exprType rfl (by kernel_rfl) ?_)
              refine c6.mono ?_
              intro e' w10 ho
              clear hw9
              cases hx : endedP E ⟨9, N, 0, [], [e]⟩ (all.drop (q0 + 1)) m with
              | error q =>
                obtain ⟨er, at'⟩ := q
                have hXX := HX.out
                rw [hx] at ho hXX
                obtain ⟨hne, ⟨a, b, c, x, p, q, r, rfl⟩, ⟨i10, n10, h10⟩, hk10⟩ := ho
                have he10 := hk10.at he9 (by omega)
                have hz10 := hk10.at hz9 (by omega)
                have hk910 := hk9.trans hk10
                have HR : Hid (∀ cs, WSt all E g v (w10.setRow w1.heap.size cs) i10 n10 er at' ∧ Kept g w (w10.setRow w1.heap.size cs) ∧ (w10.setRow w1.heap.size cs).heap[w.heap.size]? = some (.cells ex0C 60 (0, 0))) := fun cs => ⟨h.row_set h0 h10 hk910 (by omega) cs, hk910.setRow (by omega) cs, (setRow_other _ _ _ _ (by omega)).trans hz10⟩
                have HE : Hid (X = .error (er, at') ∧ er ≠ 0) := ⟨hXX.symm, hne⟩
                clear hx hXX hne h10 hk10 hz10 hk910 c6 he9 hz9 hk9 h9 HX
                go_wp2_with (refine wpList_store_row rfl 60 _ _ rfl _ _ rfl rfl _ _ he10 (by kernel_rfl) (by simp) (by simp [Value.oneCell']) ?_)
                obtain ⟨r1, r2, r3⟩ := HR.out #[.int .i64 a, .int .i64 b, .int .i64 c, .string x, .slice p q r]
                go_roundw
                case rel =>
                  (repeat apply Exists.intro)
                  exact ⟨⟨r2, r3, .inr ⟨er, at', _, _, HE.out.1, HE.out.2, r1, _, _, _, _, _, _, _, setRow_heap _ _ _ _ _ _ he10⟩⟩, rfl⟩
                case measure =>
                  show mzOf _ _ _ < _
                  rw [hmz, r1.mz_bad HE.out.2]
                  omega
              | ok q =>
                obtain ⟨e6, rr, n6⟩ := q
                have hXX := HX.out
                rw [hx] at ho hXX
                obtain ⟨i10, sl, dd, hr', rfl, hkd, h10, hn10, hk10⟩ := ho
                have er := endedP_ok hx
                cases er
                obtain ⟨p6, q6, rfl⟩ := hkd.form
                have he10 := hk10.at he9 (by omega)
                have hz10 := hk10.at hz9 (by omega)
                have hk910 := hk9.trans hk10
                have i6e : all.drop (q0 + 1) = all.drop i10 := hr'
                have HR : Hid (∀ cs, WSt all E g v (w10.setRow w1.heap.size cs) i10 (m + 1) 0 0 ∧ Kept g w (w10.setRow w1.heap.size cs) ∧ (w10.setRow w1.heap.size cs).heap[w.heap.size]? = some (.cells ex0C 60 (0, 0)) ∧ KidsAt (fun k => w.heap.size + 1 ≤ k ∧ k ≠ w1.heap.size) dd (w10.setRow w1.heap.size cs) (.slice p6 1 q6) [e]) := fun cs => ⟨h.row_set h0 h10 hk910 (by omega) cs, hk910.setRow (by omega) cs, (setRow_other _ _ _ _ (by omega)).trans hz10, hkd.kept fun k hk _ => setRow_other _ _ _ _ hk.2⟩
                have HE : Hid (rd E 5 d ⟨9, N, 0, [], [e]⟩ (all.drop i10) (m + 1) = X) := by
                  show _ = _
                  rw [← i6e]; exact hXX
                have hi10 : j < i10 := by
                  have l1 := congrArg List.length i6e
                  simp only [List.length_drop] at l1
                  have := h10.le
                  have := h9.le
                  omega
                unfold exV
                clear hx hXX h10 hk10 hz10 hk910 c6 he9 hz9 hk9 h9 HX hkd i6e hr'
                go_wp2_with (refine wpList_store_row rfl 60 _ _ rfl _ _ rfl rfl _ _ he10 (by kernel_rfl) (by simp) (by simp [Value.oneCell']) ?_)
                obtain ⟨r1, r2, r3, r4⟩ := HR.out #[.int .i64 9, .int .i64 (N), .int .i64 0, .string ⟨#[]⟩, .slice p6 1 q6]
                go_roundw
                case rel =>
                  (repeat apply Exists.intro)
                  exact ⟨⟨r2, r3, .inl ⟨⟨9, N, 0, [], [e]⟩, i10, m + 1, Nat.zero_le _, HE.out, ⟨p6, q6, dd, setRow_heap _ _ _ _ _ _ he10, r4⟩, r1, hn10⟩⟩, rfl⟩
                case measure =>
                  show mzOf _ _ _ < _
                  rw [hmz, r1.mz_ok]
                  have := r1.le
                  omega
          · have h7 := hbad (by trivial) hk
            have h8 := h7.below hb8 h0
            have hXX := HX.out
            rw [if_pos hk] at hXX
            have HX2 : Hid (X = .error (2, t2n)) := hXX.symm
            clear HX hXX hbad hgood h7 hb8 hk7 hk68 hk hv6 hz6 hk6 h6
            generalize hw8 : w7.alloc (.cells #[.int .i64 t0, .int .i64 N, .int .i64 t2, .string t3] 30) = w8 at *
            have cg := good_any h8
            rw [show ((2 : Int) == 0) = false by rfl] at cg
            go_wp2_with fail
            refine cg.mono ?_
            rintro e' w9 ⟨rfl, hw9⟩
            subst w9
            clear hw8
            go_wp2_with fail
            refine cg.mono ?_
            rintro e' w9 ⟨rfl, hw9⟩
            subst w9
            go_wp2_with fail
            obtain ⟨pv, cv, dv, he8, hkv⟩ := hv8.ex
            go_roundw
            case rel =>
              exact ⟨hk8, hz8, .inr ⟨2, t2n, _, _, HX2.out, by decide, ht2 ▸ h8, _, _, _, _, _, _, _, he8⟩⟩
            case measure =>
              show mzOf _ _ _ < _
              rw [hmz, h8.mz_bad (by decide)]
              omega
      · have hs' : isT wShift (all.drop j) = false := by simpa using hs
        rw [rd5_no d e j m hs'] at hXr
        rw [hs'] at c2
        have HXr : Hid (.ok (e, all.drop j, m) = X) := hXr
        clear hs hs' hXr
        go_wp2_with fail
        refine c2.mono ?_
        rintro e' w3 ⟨rfl, hb3⟩
        have h3 := hst.below hb3 h0
        have hk3 := Kept.of_below (g := g) hb3
        have hv3 := hv.kept hk3 (by omega) hgl
        obtain ⟨pv, cv, dv, he3, hkv⟩ := hv3.ex
        have hz3 := hk3.at hzr (by omega)
        have hkw := hkp.trans hk3
        have HO : Hid (∀ cs, OutW all E g v w (fun k => w.heap.size ≤ k) X (.returned (exV e (.slice pv e.kids.length cv))) (w3.setRow w.heap.size cs)) := fun cs => by
          rw [← HXr.out]
          exact ⟨j, _, dv, rfl, rfl, (hkv.kept fun k hk _ => setRow_other _ _ _ _ (by omega)).mono fun k hk => by omega, h.row_set h0 h3 hkw (Nat.le_refl _) cs, hm6, hkw.setRow (Nat.le_refl _) cs⟩
        unfold exV at HO
        clear c2 hst h3 hk3 hkp hkw hkv hv hv3 hzr HXr hb3
        go_wp2_with (first
          | (refine wpList_load_row rfl 60 _ rfl _ rfl _ _ _ _ he3 exprType rfl (by kernel_rfl) ?_)
          | (refine wpList_store_row rfl 60 _ _ rfl _ _ rfl rfl _ _ hz3 (by kernel_rfl) (by rfl) (by simp [Value.oneCell']) ?_))
        exact ex_ret 4 (by kernel_rfl) w.heap.size _ _ _ _ _ rfl rfl (setRow_heap _ _ _ _ _ _ hz3) (HO.out _)
    · have c2 := on_any h0 hst 2 wShift
      rw [show onB all j er 2 wShift = false by unfold onB; rw [show (er == 0) = false by simpa using hne]; rfl] at c2
      go_wp2_with fail
      refine c2.mono ?_
      rintro e' w3 ⟨rfl, hb3⟩
      have h3 := hst.below hb3 h0
      have he3 := (hb3.block _ (lt_of_block hrow)).trans hrow
      have hz3 := (hb3.block _ (lt_of_block hzr)).trans hzr
      have hkw := hkp.trans (Kept.of_below hb3)
      have HO : Hid (∀ cs, OutW all E g v w (fun k => w.heap.size ≤ k) X (.returned (.agg #[.int .i64 a, .int .i64 b, .int .i64 c, .string x, .slice p q r])) (w3.setRow w.heap.size cs)) := fun cs => by
        rw [hXe]
        exact ⟨hne, ⟨_, _, _, _, _, _, _, rfl⟩, ⟨j, m, h.row_set h0 h3 hkw (Nat.le_refl _) cs⟩, hkw.setRow (Nat.le_refl _) cs⟩
      clear c2 hst h3 hkp hkw hzr hb3 hrow hXe hne
      go_wp2_with (first
        | (refine wpList_load_row rfl 60 _ rfl _ rfl _ _ _ _ he3 exprType rfl (by kernel_rfl) ?_)
        | (refine wpList_store_row rfl 60 _ _ rfl _ _ rfl rfl _ _ hz3 (by kernel_rfl) (by rfl) (by simp [Value.oneCell']) ?_))
      exact ex_ret 4 (by kernel_rfl) w.heap.size _ _ _ _ _ rfl rfl (setRow_heap _ _ _ _ _ _ hz3) (HO.out _)
end Go.Proofs.YtggcepicghibjacDoor
