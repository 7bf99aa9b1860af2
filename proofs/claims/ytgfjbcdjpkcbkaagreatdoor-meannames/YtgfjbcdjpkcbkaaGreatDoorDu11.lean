/- What sum comes to, where term comes to what it should. -/
import Derived.Test.YtgfjbcdjpkcbkaaGreatDoorDu10
import Derived.Test.YtgfjbcdjpkcbkaaGreatDoorDu01
namespace Go.Proofs.YtgfjbcdjpkcbkaaGreatDoor
open Go.RowKit Lx
variable {all : List Tk} {E g : Nat} {v : Value} {w : World} {i n : Nat}
structure Fs28 (l : List Value) where
  (u0 u1 u2 u3 u4 u5 u6 u7 u8 u9 u10 u11 u12 u13 u14 u15 u16 u17 u18 u19 u20 u21 u22 u23 u24 u25 u26 u27 : Value)
  eq : l = [u0, u1, u2, u3, u4, u5, u6, u7, u8, u9, u10, u11, u12, u13, u14, u15, u16, u17, u18, u19, u20, u21, u22, u23, u24, u25, u26, u27]
set_option maxRecDepth 100000 in
theorem fs28 (l : List Value) (hl : l.length = 28) : Nonempty (Fs28 l) := allL 28 (fun l => Nonempty (Fs28 l)) (fun u0 u1 u2 u3 u4 u5 u6 u7 u8 u9 u10 u11 u12 u13 u14 u15 u16 u17 u18 u19 u20 u21 u22 u23 u24 u25 u26 u27 => ⟨⟨u0, u1, u2, u3, u4, u5, u6, u7, u8, u9, u10, u11, u12, u13, u14, u15, u16, u17, u18, u19, u20, u21, u22, u23, u24, u25, u26, u27, rfl⟩⟩) l hl
set_option maxRecDepth 100000 in
set_option maxHeartbeats 8000000 in
theorem sum_step (h0 : PS0 all E g v) (hF0 : RC all E g v 89 2 i) (hF : ∀ j, i < j → RC all E g v 89 2 j) : RC all E g v 76 0 i := by
  intro w n d h hn6 hd41
  have hgl := lt_of_block h.blk
  have hb0 : Below w.heap.size w (w.alloc (.cells #[.int .i64 0, .int .i64 0, .int .i64 0, .string ⟨#[]⟩, .slice none 0 0] 31)) := (Below.refl _ _).alloc (Nat.le_refl _) _
  have hz := zero_new w
  have hS0 := h.below hb0 h0
  have hkA := Kept.of_below (g := g) hb0
  have hszA : (w.alloc (.cells #[.int .i64 0, .int .i64 0, .int .i64 0, .string ⟨#[]⟩, .slice none 0 0] 31)).heap.size = w.heap.size + 1 := by simp
  generalize hwA : w.alloc (.cells #[.int .i64 0, .int .i64 0, .int .i64 0, .string ⟨#[]⟩, .slice none 0 0] 31) = w0 at *
  have c1 := hF0 w0 n d hS0 hn6 hd41
  generalize hXd : rd E 0 d ex0 (all.drop i) n = X
  rw [rd_0] at hXd
  go_enter Tryz.func76, Tryz.ntmps76
  go_wp2_with fail
  refine c1.mono ?_
  intro e w1 ho
  cases hx : rd E 2 d ex0 (all.drop i) n with
  | error q =>
    obtain ⟨er, at_⟩ := q
    rw [hx] at ho hXd
    obtain ⟨rfl, hk1⟩ := ho
    refine ⟨rfl, ?_⟩
    rw [← hXd]
    exact ⟨rfl, hkA.trans hk1⟩
  | ok q =>
    obtain ⟨e0, rr0, n0⟩ := q
    have hlen0 := rd_len (by omega) hx
    rw [hx] at ho hXd
    obtain ⟨i1, sl, dd, hr', rfl, hkd, h1, hn1, hk1⟩ := ho
    subst hr'
    obtain ⟨p1, q1, rfl⟩ := hkd.form
    have hX1 : rd E 1 d e0 (all.drop i1) n0 = X := hXd
    have hii1 : i < i1 := by
      have e1 : eats 2 = 1 := rfl
      simp only [List.length_drop] at hlen0
      have := h1.le
      omega
    have hs1 := hk1.size
    have hz1 := hk1.at hz (by omega)
    have hb2 : Below w1.heap.size w1 (w1.alloc (.cells #[.int .i64 e0.kind, .int .i64 e0.a, .int .i64 e0.b, .string ⟨e0.name.toArray⟩, .slice p1 e0.kids.length q1] 31)) := (Below.refl _ _).alloc (Nat.le_refl _) _
    have h2 := h1.below hb2 h0
    have hz2 := (hb2.block _ (lt_of_block hz1)).trans hz1
    have hkw2 := (hkA.trans hk1).trans (Kept.of_below hb2)
    have hv2 : VarE w (w1.alloc (.cells #[.int .i64 e0.kind, .int .i64 e0.a, .int .i64 e0.b, .string ⟨e0.name.toArray⟩, .slice p1 e0.kids.length q1] 31)) w1.heap.size e0 :=
      ⟨p1, q1, dd, heap_alloc_new w1 _, (Kept.of_below (g := g) hb2).kids (fun k hk => by omega) (hkd.lt.mono fun k hk => by omega)⟩
    unfold exV
    have HX1 : Hid (rd E 1 d e0 (all.drop i1) n0 = X) := hX1
    clear hkd h1 hk1 hb2 hx hXd hX1 c1 hz1 hS0 hwA hz hkA hb0
    generalize hw2 : w1.alloc (.cells #[.int .i64 e0.kind, .int .i64 e0.a, .int .i64 e0.b, .string ⟨e0.name.toArray⟩, .slice p1 e0.kids.length q1] 31) = w2 at *
    go_wp2_with fail
    clear hw2
    obtain ⟨b5, hb5⟩ : ∃ b, w1.heap.size = b := ⟨_, rfl⟩
    rw [hb5] at hv2
    simp only [hb5]
    have hb5w : w.heap.size + 1 ≤ b5 := by omega
    clear hb5
    go_loopw [10] (fun _ wr => ∃ (e : Ex) (j m : Nat), rd E 1 d e (all.drop j) m = X ∧ VarE w wr b5 e ∧ PSt all E g v wr j m ∧ m ≤ 600 ∧ Kept g w wr ∧ wr.heap[w.heap.size]? = some (.cells ex0C 31 (0, 0)) ∧ i < j) (fun _ wr => all.length - posOf g wr)
    case atStart => exact ⟨e0, i1, n0, HX1.out, hv2, h2, hn1, hkw2, hz2, hii1⟩
    case round =>
      obtain ⟨e, j, m, hXr, hv, hst, hm6, hkp, hzr, hij⟩ := hrel
      clear HX1 hv2 h2 hkw2 hz2
      have hp := hst.pos
      by_cases hs : isT wPlus (all.drop j) = true
      · have hj1 := isT_len (by decide) hs
        have c2 := fun (W : World) (hW : PSt all E g v W j m) => skip_yes h0 hW wPlus (by decide) hs
        have HXX : Hid (andThen (rd E 2 d ex0 (all.drop (j + 1)) m) (fun t r n => andThen (endedP E ⟨6, 0, 0, [], [e, t]⟩ r n) fun e r n => rd E 1 d e r n) = X) := by
          show _ = _
          rw [← hXr, rd_1, if_pos hs, tail_drop]
        clear hs hXr
        go_wp2_with fail
        refine (c2 _ hst).mono ?_
        rintro e' w3 ⟨rfl, h3, hk3⟩
        have hv3 := hv.kept hk3 (by omega) hgl
        obtain ⟨pv, cv, dv, he3, hkv3⟩ := hv3.ex
        have hz3 := hk3.at hzr (by omega)
        have hkw3 := hkp.trans hk3
        have hlb := lt_of_block he3
        have hlz := lt_of_block hz3
        clear c2 hst hk3 hkp hzr hv
        go_wp2_with fail
        have cF := fun (W : World) (hW : PSt all E g v W (j + 1) m) => hF (j + 1) (by omega) W m d hW hm6 hd41
        cases hx : rd E 2 d ex0 (all.drop (j + 1)) m with
        | error q =>
          obtain ⟨er, at_⟩ := q
          have HE : Hid (X = .error (er, at_)) := by
            show _ = _
            rw [← HXX.out, hx]; rfl
          simp only [hx] at cF
          refine wp_region_flow (by kernel_rfl) (by kernel_rfl) (by kernel_rfl) (by kernel_rfl) (fun L _ W => L 4 = false ∧ L 5 = false ∧ L 6 = false ∧ W.heap = w3.heap ∧ Kept g w3 W) (fun q x W => psp g d (exV e (.slice pv e.kids.length cv)) (fun _ => True) ex0 ex0 q x W) ?_ ?_ ?_
          · intro L hL
            exact ⟨hL 4 (by decide), hL 5 (by decide), hL 6 (by decide), rfl, ⟨rfl, rfl, rfl, Nat.le_refl _, fun _ _ _ => rfl⟩⟩
          · intro q o L A W ho hLi hdep hJ hdef hkept hhas
            have HD : Hid (A.defers = []) := hdef
            clear hdef
            obtain ⟨hj4, hj5, hj6, hheap, hK⟩ := hJ
            have fin : ∀ (x : Value) (ds : Nat), q ≠ 4 → q ≠ 5 → q ≠ 6 → psp g d (exV e (.slice pv e.kids.length cv)) (fun _ => True) ex0 ex0 q x W → ∃ u, A.put (some ds) x = A.put (some ds) u ∧ (some ds ≠ none → psp g d (exV e (.slice pv e.kids.length cv)) (fun _ => True) ex0 ex0 q u W) ∧ (∀ k x', L k = true → psp g d (exV e (.slice pv e.kids.length cv)) (fun _ => True) ex0 ex0 k x' W → psp g d (exV e (.slice pv e.kids.length cv)) (fun _ => True) ex0 ex0 k x' W) ∧ ((decide (q = 4) || L 4) = false ∧ (decide (q = 5) || L 5) = false ∧ (decide (q = 6) || L 6) = false ∧ W.heap = w3.heap ∧ Kept g w3 W) := by
              intro x ds q4 q5 q6 hv
              exact ⟨x, rfl, fun _ => hv, fun _ _ _ h => h, by simp [q4, hj4], by simp [q5, hj5], by simp [q6, hj6], hheap, hK⟩
            match q, ho with
            | 0, ho =>
              cases Option.some.inj ho
              have s0 : A.tmps[0]?.getD undef = .pointer (some ⟨g, 0, none⟩) := (gd A 0).trans (hkept 0 (fun j p hp _ => nd (by kernel_rfl) j p hp))
              refine wpOp_step rfl (fun K hK' => ?_)
              go_simp
              exact hK' _ _ (fin _ 13 (by decide) (by decide) (by decide) rfl)
            | 1, ho =>
              cases Option.some.inj ho
              have s5 : A.eval (.tmp 5) = .pointer (some ⟨b5, 0, none⟩) := hkept 5 (fun j p hp _ => nd (by kernel_rfl) j p hp)
              have heW : W.heap[b5]? = some (.cells #[.int .i64 e.kind, .int .i64 e.a, .int .i64 e.b, .string ⟨e.name.toArray⟩, .slice pv e.kids.length cv] 31 (0, 0)) := by rw [hheap]; exact he3
              refine wpOp_step rfl (fun K hK' => ?_)
              show Oper.wp _ _ _ _ _ _
              refine wp_load_row 31 _ rfl _ s5 _ _ _ _ heW exprType rfl (by kernel_rfl) ?_
              exact hK' _ _ (fin _ 14 (by decide) (by decide) (by decide) rfl)
            | 2, ho =>
              cases Option.some.inj ho
              have s0 : A.tmps[0]?.getD undef = .pointer (some ⟨g, 0, none⟩) := (gd A 0).trans (hkept 0 (fun j p hp _ => nd (by kernel_rfl) j p hp))
              refine wpOp_step rfl (fun K hK' => ?_)
              go_simp
              exact hK' _ _ (fin _ 15 (by decide) (by decide) (by decide) rfl)
            | 3, ho =>
              cases Option.some.inj ho
              have s1 : A.tmps[1]?.getD undef = .int .i64 (d : Int) := (gd A 1).trans (hkept 1 (fun j p hp _ => nd (by kernel_rfl) j p hp))
              refine wpOp_step rfl (fun K hK' => ?_)
              go_simp
              exact hK' _ _ (fin _ 16 (by decide) (by decide) (by decide) rfl)
            | 4, ho =>
              cases Option.some.inj ho
              have sp : A.tmps[15]?.getD undef = .pointer (some ⟨g, 0, none⟩) := gdv (hhas 2 _ rfl (hdep ⟨2, .data⟩ (by simp) rfl) 15 rfl)
              have sd : A.tmps[16]?.getD undef = .int .i64 (d : Int) := gdv (hhas 3 _ rfl (hdep ⟨3, .data⟩ (by simp) rfl) 16 rfl)
              have hW : PSt all E g v W (j + 1) m := h3.of_kept h0 hK (by rw [hheap]; exact h3.blk) h3.le
              refine wpOp_step rfl (fun K hK' => ?_)
              go_simp
              refine (cF W hW).mono ?_
              rintro e' W' ⟨rfl, hk4⟩
              refine ⟨HD.out, ?_⟩
              rw [HE.out]
              exact ⟨rfl, (hkw3.trans hK).trans hk4⟩
            | 5, ho =>
              cases Option.some.inj ho
              have := hdep ⟨4, .data⟩ (by simp) rfl
              rw [hj4] at this; cases this
            | 6, ho =>
              cases Option.some.inj ho
              have := hdep ⟨5, .data⟩ (by simp) rfl
              rw [hj5] at this; cases this
            | k + 7, ho => simp at ho
          · intro L A W hL hJ
            have := hL 4 (by decide)
            rw [hJ.1] at this; cases this
        | ok q =>
          obtain ⟨tx, rr, n1⟩ := q
          simp only [hx] at cF
          have hXX := HXX.out
          rw [hx] at hXX
          have HY : Hid (andThen (endedP E ⟨6, 0, 0, [], [e, tx]⟩ rr n1) (fun e r n => rd E 1 d e r n) = X) := hXX
          have hlen1 := rd_len (by omega) hx
          have hBg : ∀ k, (w.heap.size + 1 ≤ k ∧ k ≠ b5) → k ≠ g := fun k hk => by omega
          clear hXX HXX
          refine wp_region_flow (by kernel_rfl) (by kernel_rfl) (by kernel_rfl) (by kernel_rfl) (fun L _ W => PJ all E g v w w3 b5 rr n1 ⟨6, 0, 0, [], [e, tx]⟩ L W) (fun q x W => psp g d (exV e (.slice pv e.kids.length cv)) (fun k => w.heap.size + 1 ≤ k ∧ k ≠ b5) tx ⟨6, 0, 0, [], [e, tx]⟩ q x W) ?_ ?_ ?_
          · intro L hL
            have l4 := hL 4 (by decide)
            have l5 := hL 5 (by decide)
            have l6 := hL 6 (by decide)
            exact ⟨fun h => (by rw [l5] at h; cases h), fun h => (by rw [l6] at h; cases h), fun _ => rfl, fun _ => ⟨rfl, rfl, rfl, Nat.le_refl _, fun _ _ _ => rfl⟩, fun h => (by rw [l4] at h; cases h), fun h => (by rw [l5] at h; cases h), fun h => (by rw [l6] at h; cases h)⟩
          · intro q o L A W ho hLi hdep hJ hdef hkept hhas
            have HD : Hid (A.defers = []) := hdef
            clear hdef
            have fin : ∀ (x : Value) (ds : Nat), q ≠ 4 → q ≠ 5 → q ≠ 6 → psp g d (exV e (.slice pv e.kids.length cv)) (fun k => w.heap.size + 1 ≤ k ∧ k ≠ b5) tx ⟨6, 0, 0, [], [e, tx]⟩ q x W → ∃ u, A.put (some ds) x = A.put (some ds) u ∧ (some ds ≠ none → psp g d (exV e (.slice pv e.kids.length cv)) (fun k => w.heap.size + 1 ≤ k ∧ k ≠ b5) tx ⟨6, 0, 0, [], [e, tx]⟩ q u W) ∧ (∀ k x', L k = true → psp g d (exV e (.slice pv e.kids.length cv)) (fun k => w.heap.size + 1 ≤ k ∧ k ≠ b5) tx ⟨6, 0, 0, [], [e, tx]⟩ k x' W → psp g d (exV e (.slice pv e.kids.length cv)) (fun k => w.heap.size + 1 ≤ k ∧ k ≠ b5) tx ⟨6, 0, 0, [], [e, tx]⟩ k x' W) ∧ PJ all E g v w w3 b5 rr n1 ⟨6, 0, 0, [], [e, tx]⟩ (fun k => decide (q = k) || L k) W := by
              intro x ds q4 q5 q6 hv
              exact ⟨x, rfl, fun _ => hv, fun _ _ _ h => h, hJ.quiet q4 q5 q6⟩
            match q, ho with
            | 0, ho =>
              cases Option.some.inj ho
              have s0 : A.tmps[0]?.getD undef = .pointer (some ⟨g, 0, none⟩) := (gd A 0).trans (hkept 0 (fun j p hp _ => nd (by kernel_rfl) j p hp))
              refine wpOp_step rfl (fun K hK' => ?_)
              go_simp
              exact hK' _ _ (fin _ 13 (by decide) (by decide) (by decide) rfl)
            | 1, ho =>
              cases Option.some.inj ho
              have l6 : L 6 = false := by
                cases h : L 6 with
                | false => rfl
                | true => rw [(hJ.d5 (hJ.d6 h)).1] at hLi; cases hLi
              have heW := (hJ.kept l6).at he3 (by omega)
              have s5 : A.eval (.tmp 5) = .pointer (some ⟨b5, 0, none⟩) := hkept 5 (fun j p hp _ => nd (by kernel_rfl) j p hp)
              refine wpOp_step rfl (fun K hK' => ?_)
              show Oper.wp _ _ _ _ _ _
              refine wp_load_row 31 _ rfl _ s5 _ _ _ _ heW exprType rfl (by kernel_rfl) ?_
              exact hK' _ _ (fin _ 14 (by decide) (by decide) (by decide) rfl)
            | 2, ho =>
              cases Option.some.inj ho
              have s0 : A.tmps[0]?.getD undef = .pointer (some ⟨g, 0, none⟩) := (gd A 0).trans (hkept 0 (fun j p hp _ => nd (by kernel_rfl) j p hp))
              refine wpOp_step rfl (fun K hK' => ?_)
              go_simp
              exact hK' _ _ (fin _ 15 (by decide) (by decide) (by decide) rfl)
            | 3, ho =>
              cases Option.some.inj ho
              have s1 : A.tmps[1]?.getD undef = .int .i64 (d : Int) := (gd A 1).trans (hkept 1 (fun j p hp _ => nd (by kernel_rfl) j p hp))
              refine wpOp_step rfl (fun K hK' => ?_)
              go_simp
              exact hK' _ _ (fin _ 16 (by decide) (by decide) (by decide) rfl)
            | 4, ho =>
              cases Option.some.inj ho
              have sp : A.tmps[15]?.getD undef = .pointer (some ⟨g, 0, none⟩) := gdv (hhas 2 _ rfl (hdep ⟨2, .data⟩ (by simp) rfl) 15 rfl)
              have sd : A.tmps[16]?.getD undef = .int .i64 (d : Int) := gdv (hhas 3 _ rfl (hdep ⟨3, .data⟩ (by simp) rfl) 16 rfl)
              have l5 : L 5 = false := by
                cases h : L 5 with
                | false => rfl
                | true => rw [(hJ.d5 h).2] at hLi; cases hLi
              have l6 : L 6 = false := by
                cases h : L 6 with
                | false => rfl
                | true => rw [hJ.d6 h] at l5; cases l5
              have hK := hJ.kept l6
              have hheap := hJ.none4 hLi
              have hW : PSt all E g v W (j + 1) m := h3.of_kept h0 hK (by rw [hheap]; exact h3.blk) h3.le
              have hsW := hK.size
              refine wpOp_step rfl (fun K hK' => ?_)
              go_simp
              refine (cF W hW).mono ?_
              intro e' W' ho'
              obtain ⟨i4, sl, d4, hr4, rfl, hkd4, h4, hn4, hk4⟩ := ho'
              obtain ⟨p4, c4, rfl⟩ := hkd4.form
              refine hK' _ _ ⟨_, rfl, fun _ => ⟨p4, c4, d4, rfl, hkd4.mono fun k hk => by omega⟩, fun k x' _ hx' => psp_kept (fun k hB hl => hk4.block k hl (fun e => hBg k hB (Option.some.inj e))) k x' hx', ?_⟩
              exact ⟨fun h => by simp [l5] at h, fun h => by simp [l6] at h, fun h => by simp at h, fun _ => hK.trans hk4, fun _ _ => ⟨i4, hr4, h4, hn4⟩, fun h => by simp [l5] at h, fun h => by simp [l6] at h⟩
            | 5, ho =>
              cases Option.some.inj ho
              have l1 := hdep ⟨1, .data⟩ (by simp) rfl
              have l4 := hdep ⟨4, .data⟩ (by simp) rfl
              have l6 : L 6 = false := by
                cases h : L 6 with
                | false => rfl
                | true => rw [hJ.d6 h] at hLi; cases hLi
              have hK := hJ.kept l6
              obtain ⟨i4, hr4, h4, hn4⟩ := hJ.read l4 hLi
              have sa : A.tmps[13]?.getD undef = .pointer (some ⟨g, 0, none⟩) := gdv (hhas 0 _ rfl (hdep ⟨0, .data⟩ (by simp) rfl) 13 rfl)
              have sv : A.tmps[14]?.getD undef = exV e (.slice pv e.kids.length cv) := gdv (hhas 1 _ rfl l1 14 rfl)
              obtain ⟨p4, c4, d4, st', hkd4⟩ := (show psp g d (exV e (.slice pv e.kids.length cv)) (fun k => w.heap.size + 1 ≤ k ∧ k ≠ b5) tx ⟨6, 0, 0, [], [e, tx]⟩ 4 (A.tmps.getD 17 undef) W from hhas 4 _ rfl l4 17 rfl)
              have st : A.tmps[17]?.getD undef = exV tx (.slice p4 tx.kids.length c4) := gdv st'
              have hsW := hK.size
              have hkvW := hK.kids hBg hkv3
              have cP := pair_any h0 h4 hn4 (fun k => w.heap.size + 1 ≤ k ∧ k ≠ b5) hBg (fun k hk => by constructor <;> omega) 6 e tx _ _ dv d4 hkvW hkd4
              refine wpOp_step rfl (fun K hK' => ?_)
              go_simp
              refine cP.mono ?_
              intro e' W' ho'
              rw [← hr4] at ho'
              by_cases hbig : 600 < n1 + 1
              · have he : endedP E ⟨6, 0, 0, [], [e, tx]⟩ rr n1 = .error (4, atP E rr) := by unfold endedP; rw [if_pos hbig]
                rw [he] at ho'
                obtain ⟨rfl, hk5⟩ := ho'
                refine ⟨HD.out, ?_⟩
                have hXY := HY.out
                rw [he] at hXY
                rw [← hXY]
                exact ⟨rfl, (hkw3.trans hK).trans hk5⟩
              · have he : endedP E ⟨6, 0, 0, [], [e, tx]⟩ rr n1 = .ok (⟨6, 0, 0, [], [e, tx]⟩, rr, n1 + 1) := by unfold endedP; rw [if_neg hbig]
                rw [he] at ho'
                obtain ⟨i5, sl, d5, hr5, rfl, hkd5, h5, hn5, hk5⟩ := ho'
                obtain ⟨p5, c5, rfl⟩ := hkd5.form
                refine hK' _ _ ⟨_, rfl, fun _ => ⟨p5, c5, d5, rfl, hkd5⟩, fun k x' _ hx' => psp_kept (fun k hB hl => hk5.block k hl (fun e => hBg k hB (Option.some.inj e))) k x' hx', ?_⟩
                exact ⟨fun _ => by simp [l1, l4], fun h => by simp [l6] at h, fun h => by simp [l4] at h, fun _ => hK.trans hk5, fun _ h => by simp at h, fun _ _ => ⟨i5, hr5, h5, hn5⟩, fun h => by simp [l6] at h⟩
            | 6, ho =>
              cases Option.some.inj ho
              have l5 := hdep ⟨5, .data⟩ (by simp) rfl
              have hK := hJ.kept hLi
              obtain ⟨i5, hr5, h5, hn5⟩ := hJ.both l5 hLi
              obtain ⟨p5, c5, d5, sr', hkd5⟩ := (show psp g d (exV e (.slice pv e.kids.length cv)) (fun k => w.heap.size + 1 ≤ k ∧ k ≠ b5) tx ⟨6, 0, 0, [], [e, tx]⟩ 5 (A.tmps.getD 18 undef) W from hhas 5 _ rfl l5 18 rfl)
              have sr : A.eval (.tmp 18) = exV ⟨6, 0, 0, [], [e, tx]⟩ (.slice p5 2 c5) := sr'
              have s5 : A.eval (.tmp 5) = .pointer (some ⟨b5, 0, none⟩) := hkept 5 (fun j p hp _ => nd (by kernel_rfl) j p hp)
              have heW := hK.at he3 (by omega)
              have hzW := hK.at hz3 (by omega)
              have hkW := hkw3.trans hK
              unfold exV at sr
              refine wpOp_step rfl (fun K hK' => ?_)
              show Oper.wp _ _ _ _ _ _
              refine wp_store_row 31 _ _ rfl _ _ s5 sr _ _ heW (by kernel_rfl) (by rfl) (by simp [Value.oneCell']) ?_
              refine hK' _ _ ⟨undef, rfl, fun h => absurd rfl h, fun k x' _ hx' => psp_kept (fun k hB _ => setRow_other _ _ _ _ hB.2) k x' hx', ?_⟩
              have hset : Kept g w (W.setRow b5 #[.int .i64 6, .int .i64 0, .int .i64 0, .string ⟨#[]⟩, .slice p5 2 c5]) := hkW.setRow (by omega) _
              exact ⟨fun _ => by simp [hJ.d5 l5], fun _ => by simp [l5], fun h => by simp [(hJ.d5 l5).2] at h, fun h => by simp at h, fun _ h => by simp [l5] at h, fun _ h => by simp at h,
                fun _ => ⟨hn5, ⟨p5, c5, d5, setRow_heap _ _ _ _ _ _ heW, hkd5.kept fun k hB _ => setRow_other _ _ _ _ hB.2⟩, hset, (setRow_other _ _ _ _ (by omega)).trans hzW, i5, hr5, h.of_kept h0 hset ((setRow_other _ _ _ _ (by omega)).trans h5.blk) h5.le⟩⟩
            | k + 7, ho => simp at ho
          · intro L A W hL hJ hdef hsize hkept hhas
            obtain ⟨hn5, hvW, hkW, hzW, i5, hr5, h5⟩ := hJ.done (hL 6 (by decide))
            have he : endedP E ⟨6, 0, 0, [], [e, tx]⟩ rr n1 = .ok (⟨6, 0, 0, [], [e, tx]⟩, rr, n1 + 1) := by unfold endedP; rw [if_neg (by omega)]
            have hXY := HY.out
            rw [he] at hXY
            have HN : Hid (rd E 1 d ⟨6, 0, 0, [], [e, tx]⟩ (all.drop i5) (n1 + 1) = X) := by
              show _ = _
              rw [← hr5]; exact hXY
            have hi5 : j < i5 := by
              rw [hr5] at hlen1
              have e1 : eats 2 = 1 := rfl
              simp only [List.length_drop] at hlen1
              have := h5.le
              omega
            obtain ⟨tt, dd'⟩ := A
            have hd' : dd' = [] := hdef
            subst hd'
            obtain ⟨q, rfl⟩ : ∃ q : List Value, tt = q.toArray := ⟨tt.toList, by simp⟩
            have hl : q.length = 28 := by
              have h : q.toArray.size = 28 := hsize
              simpa using h
            obtain ⟨⟨u0, u1, u2, u3, u4, u5, u6, u7, u8, u9, u10, u11, u12, u13, u14, u15, u16, u17, u18, u19, u20, u21, u22, u23, u24, u25, u26, u27, rfl⟩⟩ := fs28 q hl
            have q0 : u0 = _ := hkept 0 (nd (by kernel_rfl))
            have q1 : u1 = _ := hkept 1 (nd (by kernel_rfl))
            have q2 : u2 = _ := hkept 2 (nd (by kernel_rfl))
            have q3 : u3 = _ := hkept 3 (nd (by kernel_rfl))
            have q4 : u4 = _ := hkept 4 (nd (by kernel_rfl))
            have q5 : u5 = _ := hkept 5 (nd (by kernel_rfl))
            have q6 : u6 = _ := hkept 6 (nd (by kernel_rfl))
            have q7 : u7 = _ := hkept 7 (nd (by kernel_rfl))
            have q8 : u8 = _ := hkept 8 (nd (by kernel_rfl))
            have q9 : u9 = _ := hkept 9 (nd (by kernel_rfl))
            have q10 : u10 = _ := hkept 10 (nd (by kernel_rfl))
            have q11 : u11 = _ := hkept 11 (nd (by kernel_rfl))
            have q12 : u12 = _ := hkept 12 (nd (by kernel_rfl))
            have q19 : u19 = _ := hkept 19 (nd (by kernel_rfl))
            have q20 : u20 = _ := hkept 20 (nd (by kernel_rfl))
            have q21 : u21 = _ := hkept 21 (nd (by kernel_rfl))
            have q22 : u22 = _ := hkept 22 (nd (by kernel_rfl))
            have q23 : u23 = _ := hkept 23 (nd (by kernel_rfl))
            have q24 : u24 = _ := hkept 24 (nd (by kernel_rfl))
            have q25 : u25 = _ := hkept 25 (nd (by kernel_rfl))
            have q26 : u26 = _ := hkept 26 (nd (by kernel_rfl))
            have q27 : u27 = _ := hkept 27 (nd (by kernel_rfl))
            subst q0 q1 q2 q3 q4 q5 q6 q7 q8 q9 q10 q11 q12 q19 q20 q21 q22 q23 q24 q25 q26 q27
            clear hsize hkept hhas hL hJ hl hXY he hx hv3 hkv3 he3 hz3 h3 cF
            go_wp2_with fail
            go_roundw
            case rel =>
              have hii : i < i5 := by omega
              refine ⟨⟨6, 0, 0, [], [e, tx]⟩, i5, n1 + 1, HN.out, hvW, h5, ?_⟩
              (repeat' apply And.intro) <;> assumption
            case measure =>
              try rw [hp]
              have := h5.pos
              have := h5.le
              show all.length - posOf g _ < _
              omega
      · have hsP : isT wPlus (all.drop j) = false := by simpa using hs
        have hsP2 := hs
        clear hs
        by_cases hs : isT wMinus (all.drop j) = true
        · have hj1 := isT_len (by decide) hs
          have c2 := fun (W : World) (hW : PSt all E g v W j m) => skip_yes h0 hW wMinus (by decide) hs
          have HXX : Hid (andThen (rd E 2 d ex0 (all.drop (j + 1)) m) (fun t r n => andThen (endedP E ⟨7, 0, 0, [], [e, t]⟩ r n) fun e r n => rd E 1 d e r n) = X) := by
            show _ = _
            rw [← hXr, rd_1, if_neg hsP2, if_pos hs, tail_drop]
          clear hs hXr
          go_wp2_with fail
          refine (skip_no h0 hst wPlus hsP).mono ?_
          rintro e' w2' ⟨rfl, hst', hkP⟩
          have hv' := hv.kept hkP (by omega) hgl
          have hzr' := hkP.at hzr (by omega)
          have hkp' := hkp.trans hkP
          clear hv hst hkP hkp hzr
          have hv := hv'
          have hst := hst'
          have hzr := hzr'
          have hkp := hkp'
          clear hv' hst' hzr' hkp'
          go_wp2_with fail
          refine (c2 _ hst).mono ?_
          rintro e' w3 ⟨rfl, h3, hk3⟩
          have hv3 := hv.kept hk3 (by omega) hgl
          obtain ⟨pv, cv, dv, he3, hkv3⟩ := hv3.ex
          have hz3 := hk3.at hzr (by omega)
          have hkw3 := hkp.trans hk3
          have hlb := lt_of_block he3
          have hlz := lt_of_block hz3
          clear c2 hst hk3 hkp hzr hv
          go_wp2_with fail
          have cF := fun (W : World) (hW : PSt all E g v W (j + 1) m) => hF (j + 1) (by omega) W m d hW hm6 hd41
          cases hx : rd E 2 d ex0 (all.drop (j + 1)) m with
          | error q =>
            obtain ⟨er, at_⟩ := q
            have HE : Hid (X = .error (er, at_)) := by
              show _ = _
              rw [← HXX.out, hx]; rfl
            simp only [hx] at cF
            refine wp_region_flow (by kernel_rfl) (by kernel_rfl) (by kernel_rfl) (by kernel_rfl) (fun L _ W => L 4 = false ∧ L 5 = false ∧ L 6 = false ∧ W.heap = w3.heap ∧ Kept g w3 W) (fun q x W => psp g d (exV e (.slice pv e.kids.length cv)) (fun _ => True) ex0 ex0 q x W) ?_ ?_ ?_
            · intro L hL
              exact ⟨hL 4 (by decide), hL 5 (by decide), hL 6 (by decide), rfl, ⟨rfl, rfl, rfl, Nat.le_refl _, fun _ _ _ => rfl⟩⟩
            · intro q o L A W ho hLi hdep hJ hdef hkept hhas
              have HD : Hid (A.defers = []) := hdef
              clear hdef
              obtain ⟨hj4, hj5, hj6, hheap, hK⟩ := hJ
              have fin : ∀ (x : Value) (ds : Nat), q ≠ 4 → q ≠ 5 → q ≠ 6 → psp g d (exV e (.slice pv e.kids.length cv)) (fun _ => True) ex0 ex0 q x W → ∃ u, A.put (some ds) x = A.put (some ds) u ∧ (some ds ≠ none → psp g d (exV e (.slice pv e.kids.length cv)) (fun _ => True) ex0 ex0 q u W) ∧ (∀ k x', L k = true → psp g d (exV e (.slice pv e.kids.length cv)) (fun _ => True) ex0 ex0 k x' W → psp g d (exV e (.slice pv e.kids.length cv)) (fun _ => True) ex0 ex0 k x' W) ∧ ((decide (q = 4) || L 4) = false ∧ (decide (q = 5) || L 5) = false ∧ (decide (q = 6) || L 6) = false ∧ W.heap = w3.heap ∧ Kept g w3 W) := by
                intro x ds q4 q5 q6 hv
                exact ⟨x, rfl, fun _ => hv, fun _ _ _ h => h, by simp [q4, hj4], by simp [q5, hj5], by simp [q6, hj6], hheap, hK⟩
              match q, ho with
              | 0, ho =>
                cases Option.some.inj ho
                have s0 : A.tmps[0]?.getD undef = .pointer (some ⟨g, 0, none⟩) := (gd A 0).trans (hkept 0 (fun j p hp _ => nd (by kernel_rfl) j p hp))
                refine wpOp_step rfl (fun K hK' => ?_)
                go_simp
                exact hK' _ _ (fin _ 22 (by decide) (by decide) (by decide) rfl)
              | 1, ho =>
                cases Option.some.inj ho
                have s5 : A.eval (.tmp 5) = .pointer (some ⟨b5, 0, none⟩) := hkept 5 (fun j p hp _ => nd (by kernel_rfl) j p hp)
                have heW : W.heap[b5]? = some (.cells #[.int .i64 e.kind, .int .i64 e.a, .int .i64 e.b, .string ⟨e.name.toArray⟩, .slice pv e.kids.length cv] 31 (0, 0)) := by rw [hheap]; exact he3
                refine wpOp_step rfl (fun K hK' => ?_)
                show Oper.wp _ _ _ _ _ _
                refine wp_load_row 31 _ rfl _ s5 _ _ _ _ heW exprType rfl (by kernel_rfl) ?_
                exact hK' _ _ (fin _ 23 (by decide) (by decide) (by decide) rfl)
              | 2, ho =>
                cases Option.some.inj ho
                have s0 : A.tmps[0]?.getD undef = .pointer (some ⟨g, 0, none⟩) := (gd A 0).trans (hkept 0 (fun j p hp _ => nd (by kernel_rfl) j p hp))
                refine wpOp_step rfl (fun K hK' => ?_)
                go_simp
                exact hK' _ _ (fin _ 24 (by decide) (by decide) (by decide) rfl)
              | 3, ho =>
                cases Option.some.inj ho
                have s1 : A.tmps[1]?.getD undef = .int .i64 (d : Int) := (gd A 1).trans (hkept 1 (fun j p hp _ => nd (by kernel_rfl) j p hp))
                refine wpOp_step rfl (fun K hK' => ?_)
                go_simp
                exact hK' _ _ (fin _ 25 (by decide) (by decide) (by decide) rfl)
              | 4, ho =>
                cases Option.some.inj ho
                have sp : A.tmps[24]?.getD undef = .pointer (some ⟨g, 0, none⟩) := gdv (hhas 2 _ rfl (hdep ⟨2, .data⟩ (by simp) rfl) 24 rfl)
                have sd : A.tmps[25]?.getD undef = .int .i64 (d : Int) := gdv (hhas 3 _ rfl (hdep ⟨3, .data⟩ (by simp) rfl) 25 rfl)
                have hW : PSt all E g v W (j + 1) m := h3.of_kept h0 hK (by rw [hheap]; exact h3.blk) h3.le
                refine wpOp_step rfl (fun K hK' => ?_)
                go_simp
                refine (cF W hW).mono ?_
                rintro e' W' ⟨rfl, hk4⟩
                refine ⟨HD.out, ?_⟩
                rw [HE.out]
                exact ⟨rfl, (hkw3.trans hK).trans hk4⟩
              | 5, ho =>
                cases Option.some.inj ho
                have := hdep ⟨4, .data⟩ (by simp) rfl
                rw [hj4] at this; cases this
              | 6, ho =>
                cases Option.some.inj ho
                have := hdep ⟨5, .data⟩ (by simp) rfl
                rw [hj5] at this; cases this
              | k + 7, ho => simp at ho
            · intro L A W hL hJ
              have := hL 4 (by decide)
              rw [hJ.1] at this; cases this
          | ok q =>
            obtain ⟨tx, rr, n1⟩ := q
            simp only [hx] at cF
            have hXX := HXX.out
            rw [hx] at hXX
            have HY : Hid (andThen (endedP E ⟨7, 0, 0, [], [e, tx]⟩ rr n1) (fun e r n => rd E 1 d e r n) = X) := hXX
            have hlen1 := rd_len (by omega) hx
            have hBg : ∀ k, (w.heap.size + 1 ≤ k ∧ k ≠ b5) → k ≠ g := fun k hk => by omega
            clear hXX HXX
            refine wp_region_flow (by kernel_rfl) (by kernel_rfl) (by kernel_rfl) (by kernel_rfl) (fun L _ W => PJ all E g v w w3 b5 rr n1 ⟨7, 0, 0, [], [e, tx]⟩ L W) (fun q x W => psp g d (exV e (.slice pv e.kids.length cv)) (fun k => w.heap.size + 1 ≤ k ∧ k ≠ b5) tx ⟨7, 0, 0, [], [e, tx]⟩ q x W) ?_ ?_ ?_
            · intro L hL
              have l4 := hL 4 (by decide)
              have l5 := hL 5 (by decide)
              have l6 := hL 6 (by decide)
              exact ⟨fun h => (by rw [l5] at h; cases h), fun h => (by rw [l6] at h; cases h), fun _ => rfl, fun _ => ⟨rfl, rfl, rfl, Nat.le_refl _, fun _ _ _ => rfl⟩, fun h => (by rw [l4] at h; cases h), fun h => (by rw [l5] at h; cases h), fun h => (by rw [l6] at h; cases h)⟩
            · intro q o L A W ho hLi hdep hJ hdef hkept hhas
              have HD : Hid (A.defers = []) := hdef
              clear hdef
              have fin : ∀ (x : Value) (ds : Nat), q ≠ 4 → q ≠ 5 → q ≠ 6 → psp g d (exV e (.slice pv e.kids.length cv)) (fun k => w.heap.size + 1 ≤ k ∧ k ≠ b5) tx ⟨7, 0, 0, [], [e, tx]⟩ q x W → ∃ u, A.put (some ds) x = A.put (some ds) u ∧ (some ds ≠ none → psp g d (exV e (.slice pv e.kids.length cv)) (fun k => w.heap.size + 1 ≤ k ∧ k ≠ b5) tx ⟨7, 0, 0, [], [e, tx]⟩ q u W) ∧ (∀ k x', L k = true → psp g d (exV e (.slice pv e.kids.length cv)) (fun k => w.heap.size + 1 ≤ k ∧ k ≠ b5) tx ⟨7, 0, 0, [], [e, tx]⟩ k x' W → psp g d (exV e (.slice pv e.kids.length cv)) (fun k => w.heap.size + 1 ≤ k ∧ k ≠ b5) tx ⟨7, 0, 0, [], [e, tx]⟩ k x' W) ∧ PJ all E g v w w3 b5 rr n1 ⟨7, 0, 0, [], [e, tx]⟩ (fun k => decide (q = k) || L k) W := by
                intro x ds q4 q5 q6 hv
                exact ⟨x, rfl, fun _ => hv, fun _ _ _ h => h, hJ.quiet q4 q5 q6⟩
              match q, ho with
              | 0, ho =>
                cases Option.some.inj ho
                have s0 : A.tmps[0]?.getD undef = .pointer (some ⟨g, 0, none⟩) := (gd A 0).trans (hkept 0 (fun j p hp _ => nd (by kernel_rfl) j p hp))
                refine wpOp_step rfl (fun K hK' => ?_)
                go_simp
                exact hK' _ _ (fin _ 22 (by decide) (by decide) (by decide) rfl)
              | 1, ho =>
                cases Option.some.inj ho
                have l6 : L 6 = false := by
                  cases h : L 6 with
                  | false => rfl
                  | true => rw [(hJ.d5 (hJ.d6 h)).1] at hLi; cases hLi
                have heW := (hJ.kept l6).at he3 (by omega)
                have s5 : A.eval (.tmp 5) = .pointer (some ⟨b5, 0, none⟩) := hkept 5 (fun j p hp _ => nd (by kernel_rfl) j p hp)
                refine wpOp_step rfl (fun K hK' => ?_)
                show Oper.wp _ _ _ _ _ _
                refine wp_load_row 31 _ rfl _ s5 _ _ _ _ heW exprType rfl (by kernel_rfl) ?_
                exact hK' _ _ (fin _ 23 (by decide) (by decide) (by decide) rfl)
              | 2, ho =>
                cases Option.some.inj ho
                have s0 : A.tmps[0]?.getD undef = .pointer (some ⟨g, 0, none⟩) := (gd A 0).trans (hkept 0 (fun j p hp _ => nd (by kernel_rfl) j p hp))
                refine wpOp_step rfl (fun K hK' => ?_)
                go_simp
                exact hK' _ _ (fin _ 24 (by decide) (by decide) (by decide) rfl)
              | 3, ho =>
                cases Option.some.inj ho
                have s1 : A.tmps[1]?.getD undef = .int .i64 (d : Int) := (gd A 1).trans (hkept 1 (fun j p hp _ => nd (by kernel_rfl) j p hp))
                refine wpOp_step rfl (fun K hK' => ?_)
                go_simp
                exact hK' _ _ (fin _ 25 (by decide) (by decide) (by decide) rfl)
              | 4, ho =>
                cases Option.some.inj ho
                have sp : A.tmps[24]?.getD undef = .pointer (some ⟨g, 0, none⟩) := gdv (hhas 2 _ rfl (hdep ⟨2, .data⟩ (by simp) rfl) 24 rfl)
                have sd : A.tmps[25]?.getD undef = .int .i64 (d : Int) := gdv (hhas 3 _ rfl (hdep ⟨3, .data⟩ (by simp) rfl) 25 rfl)
                have l5 : L 5 = false := by
                  cases h : L 5 with
                  | false => rfl
                  | true => rw [(hJ.d5 h).2] at hLi; cases hLi
                have l6 : L 6 = false := by
                  cases h : L 6 with
                  | false => rfl
                  | true => rw [hJ.d6 h] at l5; cases l5
                have hK := hJ.kept l6
                have hheap := hJ.none4 hLi
                have hW : PSt all E g v W (j + 1) m := h3.of_kept h0 hK (by rw [hheap]; exact h3.blk) h3.le
                have hsW := hK.size
                refine wpOp_step rfl (fun K hK' => ?_)
                go_simp
                refine (cF W hW).mono ?_
                intro e' W' ho'
                obtain ⟨i4, sl, d4, hr4, rfl, hkd4, h4, hn4, hk4⟩ := ho'
                obtain ⟨p4, c4, rfl⟩ := hkd4.form
                refine hK' _ _ ⟨_, rfl, fun _ => ⟨p4, c4, d4, rfl, hkd4.mono fun k hk => by omega⟩, fun k x' _ hx' => psp_kept (fun k hB hl => hk4.block k hl (fun e => hBg k hB (Option.some.inj e))) k x' hx', ?_⟩
                exact ⟨fun h => by simp [l5] at h, fun h => by simp [l6] at h, fun h => by simp at h, fun _ => hK.trans hk4, fun _ _ => ⟨i4, hr4, h4, hn4⟩, fun h => by simp [l5] at h, fun h => by simp [l6] at h⟩
              | 5, ho =>
                cases Option.some.inj ho
                have l1 := hdep ⟨1, .data⟩ (by simp) rfl
                have l4 := hdep ⟨4, .data⟩ (by simp) rfl
                have l6 : L 6 = false := by
                  cases h : L 6 with
                  | false => rfl
                  | true => rw [hJ.d6 h] at hLi; cases hLi
                have hK := hJ.kept l6
                obtain ⟨i4, hr4, h4, hn4⟩ := hJ.read l4 hLi
                have sa : A.tmps[22]?.getD undef = .pointer (some ⟨g, 0, none⟩) := gdv (hhas 0 _ rfl (hdep ⟨0, .data⟩ (by simp) rfl) 22 rfl)
                have sv : A.tmps[23]?.getD undef = exV e (.slice pv e.kids.length cv) := gdv (hhas 1 _ rfl l1 23 rfl)
                obtain ⟨p4, c4, d4, st', hkd4⟩ := (show psp g d (exV e (.slice pv e.kids.length cv)) (fun k => w.heap.size + 1 ≤ k ∧ k ≠ b5) tx ⟨7, 0, 0, [], [e, tx]⟩ 4 (A.tmps.getD 26 undef) W from hhas 4 _ rfl l4 26 rfl)
                have st : A.tmps[26]?.getD undef = exV tx (.slice p4 tx.kids.length c4) := gdv st'
                have hsW := hK.size
                have hkvW := hK.kids hBg hkv3
                have cP := pair_any h0 h4 hn4 (fun k => w.heap.size + 1 ≤ k ∧ k ≠ b5) hBg (fun k hk => by constructor <;> omega) 7 e tx _ _ dv d4 hkvW hkd4
                refine wpOp_step rfl (fun K hK' => ?_)
                go_simp
                refine cP.mono ?_
                intro e' W' ho'
                rw [← hr4] at ho'
                by_cases hbig : 600 < n1 + 1
                · have he : endedP E ⟨7, 0, 0, [], [e, tx]⟩ rr n1 = .error (4, atP E rr) := by unfold endedP; rw [if_pos hbig]
                  rw [he] at ho'
                  obtain ⟨rfl, hk5⟩ := ho'
                  refine ⟨HD.out, ?_⟩
                  have hXY := HY.out
                  rw [he] at hXY
                  rw [← hXY]
                  exact ⟨rfl, (hkw3.trans hK).trans hk5⟩
                · have he : endedP E ⟨7, 0, 0, [], [e, tx]⟩ rr n1 = .ok (⟨7, 0, 0, [], [e, tx]⟩, rr, n1 + 1) := by unfold endedP; rw [if_neg hbig]
                  rw [he] at ho'
                  obtain ⟨i5, sl, d5, hr5, rfl, hkd5, h5, hn5, hk5⟩ := ho'
                  obtain ⟨p5, c5, rfl⟩ := hkd5.form
                  refine hK' _ _ ⟨_, rfl, fun _ => ⟨p5, c5, d5, rfl, hkd5⟩, fun k x' _ hx' => psp_kept (fun k hB hl => hk5.block k hl (fun e => hBg k hB (Option.some.inj e))) k x' hx', ?_⟩
                  exact ⟨fun _ => by simp [l1, l4], fun h => by simp [l6] at h, fun h => by simp [l4] at h, fun _ => hK.trans hk5, fun _ h => by simp at h, fun _ _ => ⟨i5, hr5, h5, hn5⟩, fun h => by simp [l6] at h⟩
              | 6, ho =>
                cases Option.some.inj ho
                have l5 := hdep ⟨5, .data⟩ (by simp) rfl
                have hK := hJ.kept hLi
                obtain ⟨i5, hr5, h5, hn5⟩ := hJ.both l5 hLi
                obtain ⟨p5, c5, d5, sr', hkd5⟩ := (show psp g d (exV e (.slice pv e.kids.length cv)) (fun k => w.heap.size + 1 ≤ k ∧ k ≠ b5) tx ⟨7, 0, 0, [], [e, tx]⟩ 5 (A.tmps.getD 27 undef) W from hhas 5 _ rfl l5 27 rfl)
                have sr : A.eval (.tmp 27) = exV ⟨7, 0, 0, [], [e, tx]⟩ (.slice p5 2 c5) := sr'
                have s5 : A.eval (.tmp 5) = .pointer (some ⟨b5, 0, none⟩) := hkept 5 (fun j p hp _ => nd (by kernel_rfl) j p hp)
                have heW := hK.at he3 (by omega)
                have hzW := hK.at hz3 (by omega)
                have hkW := hkw3.trans hK
                unfold exV at sr
                refine wpOp_step rfl (fun K hK' => ?_)
                show Oper.wp _ _ _ _ _ _
                refine wp_store_row 31 _ _ rfl _ _ s5 sr _ _ heW (by kernel_rfl) (by rfl) (by simp [Value.oneCell']) ?_
                refine hK' _ _ ⟨undef, rfl, fun h => absurd rfl h, fun k x' _ hx' => psp_kept (fun k hB _ => setRow_other _ _ _ _ hB.2) k x' hx', ?_⟩
                have hset : Kept g w (W.setRow b5 #[.int .i64 7, .int .i64 0, .int .i64 0, .string ⟨#[]⟩, .slice p5 2 c5]) := hkW.setRow (by omega) _
                exact ⟨fun _ => by simp [hJ.d5 l5], fun _ => by simp [l5], fun h => by simp [(hJ.d5 l5).2] at h, fun h => by simp at h, fun _ h => by simp [l5] at h, fun _ h => by simp at h,
                  fun _ => ⟨hn5, ⟨p5, c5, d5, setRow_heap _ _ _ _ _ _ heW, hkd5.kept fun k hB _ => setRow_other _ _ _ _ hB.2⟩, hset, (setRow_other _ _ _ _ (by omega)).trans hzW, i5, hr5, h.of_kept h0 hset ((setRow_other _ _ _ _ (by omega)).trans h5.blk) h5.le⟩⟩
              | k + 7, ho => simp at ho
            · intro L A W hL hJ hdef hsize hkept hhas
              obtain ⟨hn5, hvW, hkW, hzW, i5, hr5, h5⟩ := hJ.done (hL 6 (by decide))
              have he : endedP E ⟨7, 0, 0, [], [e, tx]⟩ rr n1 = .ok (⟨7, 0, 0, [], [e, tx]⟩, rr, n1 + 1) := by unfold endedP; rw [if_neg (by omega)]
              have hXY := HY.out
              rw [he] at hXY
              have HN : Hid (rd E 1 d ⟨7, 0, 0, [], [e, tx]⟩ (all.drop i5) (n1 + 1) = X) := by
                show _ = _
                rw [← hr5]; exact hXY
              have hi5 : j < i5 := by
                rw [hr5] at hlen1
                have e1 : eats 2 = 1 := rfl
                simp only [List.length_drop] at hlen1
                have := h5.le
                omega
              obtain ⟨tt, dd'⟩ := A
              have hd' : dd' = [] := hdef
              subst hd'
              obtain ⟨q, rfl⟩ : ∃ q : List Value, tt = q.toArray := ⟨tt.toList, by simp⟩
              have hl : q.length = 28 := by
                have h : q.toArray.size = 28 := hsize
                simpa using h
              obtain ⟨⟨u0, u1, u2, u3, u4, u5, u6, u7, u8, u9, u10, u11, u12, u13, u14, u15, u16, u17, u18, u19, u20, u21, u22, u23, u24, u25, u26, u27, rfl⟩⟩ := fs28 q hl
              have q0 : u0 = _ := hkept 0 (nd (by kernel_rfl))
              have q1 : u1 = _ := hkept 1 (nd (by kernel_rfl))
              have q2 : u2 = _ := hkept 2 (nd (by kernel_rfl))
              have q3 : u3 = _ := hkept 3 (nd (by kernel_rfl))
              have q4 : u4 = _ := hkept 4 (nd (by kernel_rfl))
              have q5 : u5 = _ := hkept 5 (nd (by kernel_rfl))
              have q6 : u6 = _ := hkept 6 (nd (by kernel_rfl))
              have q7 : u7 = _ := hkept 7 (nd (by kernel_rfl))
              have q8 : u8 = _ := hkept 8 (nd (by kernel_rfl))
              have q9 : u9 = _ := hkept 9 (nd (by kernel_rfl))
              have q10 : u10 = _ := hkept 10 (nd (by kernel_rfl))
              have q11 : u11 = _ := hkept 11 (nd (by kernel_rfl))
              have q12 : u12 = _ := hkept 12 (nd (by kernel_rfl))
              have q13 : u13 = _ := hkept 13 (nd (by kernel_rfl))
              have q14 : u14 = _ := hkept 14 (nd (by kernel_rfl))
              have q15 : u15 = _ := hkept 15 (nd (by kernel_rfl))
              have q16 : u16 = _ := hkept 16 (nd (by kernel_rfl))
              have q17 : u17 = _ := hkept 17 (nd (by kernel_rfl))
              have q18 : u18 = _ := hkept 18 (nd (by kernel_rfl))
              have q19 : u19 = _ := hkept 19 (nd (by kernel_rfl))
              have q20 : u20 = _ := hkept 20 (nd (by kernel_rfl))
              have q21 : u21 = _ := hkept 21 (nd (by kernel_rfl))
              subst q0 q1 q2 q3 q4 q5 q6 q7 q8 q9 q10 q11 q12 q13 q14 q15 q16 q17 q18 q19 q20 q21
              clear hsize hkept hhas hL hJ hl hXY he hx hv3 hkv3 he3 hz3 h3 cF
              go_wp2_with fail
              go_roundw
              case rel =>
                have hii : i < i5 := by omega
                refine ⟨⟨7, 0, 0, [], [e, tx]⟩, i5, n1 + 1, HN.out, hvW, h5, ?_⟩
                (repeat' apply And.intro) <;> assumption
              case measure =>
                try rw [hp]
                have := h5.pos
                have := h5.le
                show all.length - posOf g _ < _
                omega
        · have hs' : isT wMinus (all.drop j) = false := by simpa using hs
          have c2 := fun (W : World) (hW : PSt all E g v W j m) => skip_no h0 hW wMinus hs'
          rw [rd_1, if_neg hsP2, if_neg hs] at hXr
          go_wp2_with fail
          refine (skip_no h0 hst wPlus hsP).mono ?_
          rintro e' w2' ⟨rfl, hst', hkP⟩
          have hv' := hv.kept hkP (by omega) hgl
          have hzr' := hkP.at hzr (by omega)
          have hkp' := hkp.trans hkP
          clear hv hst hkP hkp hzr
          have hv := hv'
          have hst := hst'
          have hzr := hzr'
          have hkp := hkp'
          clear hv' hst' hzr' hkp'
          clear hs hs' hsP hsP2
          have HXr : Hid (.ok (e, all.drop j, m) = X) := hXr
          clear hXr hp
          go_wp2_with fail
          refine (c2 _ hst).mono ?_
          rintro e' w3 ⟨rfl, h3, hk3⟩
          have hv3 := hv.kept hk3 (by omega) hgl
          obtain ⟨pv, cv, dv, he3, hkv⟩ := hv3.ex
          have hz3 := hk3.at hzr (by omega)
          have hkw := hkp.trans hk3
          have HO : Hid (∀ cs, OutE all E g v w (fun k => w.heap.size ≤ k) X (.returned (exV e (.slice pv e.kids.length cv))) (w3.setRow w.heap.size cs)) := fun cs => by
            rw [← HXr.out]
            exact ⟨j, _, dv, rfl, rfl, (hkv.kept fun k hk _ => setRow_other _ _ _ _ (by omega)).mono fun k hk => by omega, h.of_kept h0 (hkw.setRow (Nat.le_refl _) cs) ((setRow_other _ _ _ _ (by omega)).trans h3.blk) h3.le, hm6, hkw.setRow (Nat.le_refl _) cs⟩
          unfold exV at HO
          clear c2 hst h3 hk3 hkp hkw hkv hv hv3 hzr HXr
          go_wp2_with (first
            | (refine wpList_load_row rfl 31 _ rfl _ rfl _ _ _ _ he3 exprType rfl (by kernel_rfl) ?_)
            | (refine wpList_store_row rfl 31 _ _ rfl _ _ rfl rfl _ _ hz3 (by kernel_rfl) (by rfl) (by simp [Value.oneCell']) ?_))
          exact ex_ret 4 (by kernel_rfl) w.heap.size _ _ _ _ _ rfl rfl (setRow_heap _ _ _ _ _ _ hz3) (HO.out _)
end Go.Proofs.YtgfjbcdjpkcbkaaGreatDoor

/- The reader whole; how deep an expression is. -/
namespace Go.Proofs.YtgfjbcdjpkcbkaaGreatDoor
open Go.RowKit Lx
variable {all : List Tk} {E g : Nat} {v : Value} {w : World} {i n : Nat}
theorem reader_all (h0 : PS0 all E g v) : ∀ (k i : Nat), all.length + 1 - i ≤ k →
    RC all E g v 102 6 i ∧ RC all E g v 98 4 i ∧ RC all E g v 89 2 i ∧ RC all E g v 76 0 i
  | 0, i, hk => ⟨fun _ _ _ h _ _ => absurd h.le (by omega), fun _ _ _ h _ _ => absurd h.le (by omega), fun _ _ _ h _ _ => absurd h.le (by omega), fun _ _ _ h _ _ => absurd h.le (by omega)⟩
  | k + 1, i, hk => by
    have ih := fun j (hj : i < j) => reader_all h0 k j (by omega)
    have t := thing_step h0 (fun j hj => (ih j hj).2.2.2) (fun j hj => (ih j hj).2.1)
    have f := factor_step h0 t
    have m := term_step h0 f (fun j hj => (ih j hj).2.1)
    exact ⟨t, f, m, sum_step h0 m (fun j hj => (ih j hj).2.2.1)⟩
theorem sum_all (h0 : PS0 all E g v) (i : Nat) : RC all E g v 76 0 i := (reader_all h0 _ i (Nat.le_refl _)).2.2.2
end Go.Proofs.YtgfjbcdjpkcbkaaGreatDoor

/- What height comes to. -/
namespace Go.Proofs.YtgfjbcdjpkcbkaaGreatDoor
open Go.RowKit Lx
set_option maxRecDepth 100000 in
set_option maxHeartbeats 1000000 in
theorem height_any (B : Nat → Prop) : ∀ (d : Nat) (e : Ex) (sl : Value) (w : World), KidsAt B d w sl e.kids → hgt e ≤ 1000000 →
    Calls Tryz.prog 77 #[exV e sl] w fun r w' => r = .returned (.int .i64 (hgt e : Int)) ∧ Below w.heap.size w w' := by
  intro d
  induction d with
  | zero =>
    intro e sl w hk hh
    obtain ⟨hks, p, c, rfl⟩ := hk
    have he : hgt e = 1 := by rw [hgt_eq, hks]; rfl
    rw [he]
    unfold exV
    go_enter Tryz.func77, Tryz.ntmps77
    go_wp2_with fail
    refine wp_loop_rounds 1 ?_
    rw [rounds_succ]
    go_wp2_with fail
    go_ret
    exact ⟨rfl, (Below.refl _ _).alloc (Nat.le_refl _) _⟩
  | succ d ih =>
    intro e sl w hk hh
    rcases hk with ⟨hks, p, c, rfl⟩ | ⟨g, o, c, hB, rfl, hlen, hkid⟩
    · have he : hgt e = 1 := by rw [hgt_eq, hks]; rfl
      rw [he]
      unfold exV
      go_enter Tryz.func77, Tryz.ntmps77
      go_wp2_with fail
      refine wp_loop_rounds 1 ?_
      rw [rounds_succ]
      go_wp2_with fail
      go_ret
      exact ⟨rfl, (Below.refl _ _).alloc (Nat.le_refl _) _⟩
    · have HK : Hid (∀ (j : Nat) (k : Ex), e.kids[j]? = some k → ∃ sk : Value,
        w.cell? ⟨g, o + j * 5, none⟩ = some (.int .i64 k.kind) ∧ w.cell? ⟨g, o + j * 5 + 1, none⟩ = some (.int .i64 k.a) ∧ w.cell? ⟨g, o + j * 5 + 2, none⟩ = some (.int .i64 k.b) ∧
        w.cell? ⟨g, o + j * 5 + 3, none⟩ = some (.string ⟨k.name.toArray⟩) ∧ w.cell? ⟨g, o + j * 5 + 4, none⟩ = some sk ∧ KidsAt B d w sk k.kids) := hkid
      have HE : Hid (hgt e = hgtL e.kids + 1) := hgt_eq e
      have HM : Hid (∀ k ∈ e.kids, hgt k < hgt e) := fun k h => hgt_kid h
      have hb0 : Below w.heap.size w (w.alloc (.cells #[.int .i64 e.kind, .int .i64 e.a, .int .i64 e.b, .string ⟨e.name.toArray⟩, .slice (some ⟨g, o, none⟩) e.kids.length c] 31)) := (Below.refl _ _).alloc (Nat.le_refl _) _
      unfold exV
      clear hkid
      go_enter Tryz.func77, Tryz.ntmps77
      go_wp2_with fail
      go_loopw [3, 9] (fun q t wr => ∃ j : Nat, t = .int .i64 (j : Int) ∧ j ≤ e.kids.length ∧ q = .int .i64 (hgtL (e.kids.take j) : Int) ∧ hgtL (e.kids.take j) ≤ 1000000 ∧ Below w.heap.size w wr) (fun _ t _ => e.kids.length - (intOf t).toNat)
      case atStart => exact ⟨0, rfl, by omega, rfl, by simp [hgtL], hb0⟩
      case round =>
        obtain ⟨j, rfl, hj, rfl, hm, hbel⟩ := hrel
        have hj0 : (0 : Int) ≤ (j : Int) := by omega
        by_cases hlt : j < e.kids.length
        · have hlt' : (j : Int) < (e.kids.length : Int) := by omega
          obtain ⟨k, hjk⟩ : ∃ k, e.kids[j]? = some k := ⟨e.kids[j], List.getElem?_eq_getElem hlt⟩
          obtain ⟨sk, c0, c1, c2, c3, c4, hkk⟩ := HK.out j k hjk
          have hkm := HM.out k (List.mem_of_getElem? hjk)
          have ht : e.kids.take (j + 1) = e.kids.take j ++ [k] := by
            obtain ⟨h1, h2⟩ := List.getElem?_eq_some_iff.1 hjk
            rw [List.take_succ_eq_append_getElem h1, h2]
          have hn : hgtL (e.kids.take (j + 1)) = max (hgtL (e.kids.take j)) (hgt k) := by rw [ht, hgtL_snoc]
          obtain ⟨ps, cs, rfl⟩ := hkk.form
          have d0 := (hbel.cell (block_lt_of_cell c0)).trans c0
          have d1 := (hbel.cell (block_lt_of_cell c1)).trans c1
          have d2 := (hbel.cell (block_lt_of_cell c2)).trans c2
          have d3 := (hbel.cell (block_lt_of_cell c3)).trans c3
          have d4 := (hbel.cell (block_lt_of_cell c4)).trans c4
          have hbA := hbel.alloc hbel.size (.cells #[.int .i64 k.kind, .int .i64 k.a, .int .i64 k.b, .string ⟨k.name.toArray⟩, .slice ps k.kids.length cs] 31)
          have cR := ih k (.slice ps k.kids.length cs) (wr.alloc (.cells #[.int .i64 k.kind, .int .i64 k.a, .int .i64 k.b, .string ⟨k.name.toArray⟩, .slice ps k.kids.length cs] 31)) (hkk.kept fun q _ hq => hbA.block q hq) (by omega)
          have hxB := heap_alloc_new wr (.cells #[.int .i64 k.kind, .int .i64 k.a, .int .i64 k.b, .string ⟨k.name.toArray⟩, .slice ps k.kids.length cs] 31)
          unfold exV at cR
          have HN : Hid (hgtL (e.kids.take (j + 1)) = max (hgtL (e.kids.take j)) (hgt k)) := hn
          have hk6 : (hgt k : Int) ≤ 1000000 := by omega
          have hm6 : (hgtL (e.kids.take j) : Int) ≤ 1000000 := by omega
          generalize hgt k = H at *
          generalize hgtL (e.kids.take j) = M at *
          clear hn ht hkk c0 c1 c2 c3 c4 hjk hkm
          generalize hwB : wr.alloc (.cells #[.int .i64 k.kind, .int .i64 k.a, .int .i64 k.b, .string ⟨k.name.toArray⟩, .slice ps k.kids.length cs] 31) = wB at *
          go_wp2_with (refine wpList_load_row rfl 31 _ rfl _ rfl _ _ _ _ hxB exprType rfl (by kernel_rfl) ?_)
          refine cR.mono ?_
          rintro e' w2 ⟨rfl, hb2⟩
          have hbw2 := hbA.trans (hb2.mono hbA.size)
          clear cR hb2 hbA hwB hxB
          go_wp2_with fail
          go_roundw
          case rel => exact ⟨j + 1, by go_num, by omega, by rw [HN.out]; exact i64_eq (by omega), by rw [HN.out]; omega, hbw2⟩
          case measure => simp [intOf]; omega
        · have ej : j = e.kids.length := by omega
          have hlt' : ¬ (j : Int) < (e.kids.length : Int) := by omega
          have HR : Hid (hgt e = hgtL (e.kids.take j) + 1) := by
            show _ = _
            rw [HE.out, ej, List.take_length]
          have hm6 : (hgtL (e.kids.take j) : Int) ≤ 1000000 := by omega
          generalize hgtL (e.kids.take j) = M at *
          clear HE HK HM ej
          go_wp2_with fail
          go_ret
          exact ⟨by rw [HR.out]; rfl, hbel⟩
end Go.Proofs.YtgfjbcdjpkcbkaaGreatDoor

/- What the document's Equal comes to, of one expression that lies in memory twice. -/
namespace Go.Proofs.YtgfjbcdjpkcbkaaGreatDoor
open Go.RowKit Lx
end Go.Proofs.YtgfjbcdjpkcbkaaGreatDoor
