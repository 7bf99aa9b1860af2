/- What the document's Parse comes to: what a text's rules are, or what is wrong, and where. -/
import Derived.Test.YtggcepicghibjacDoorPm29
namespace Go.Proofs.YtggcepicghibjacDoor
open Go.RowKit Lx

theorem rparse_post {R : Ending → World → Prop} {a : Act} {w : World} (g : Nat) (v : Value) (er at_ : Int) (hd : a.defers = []) (h2 : a.tmps.getD 2 undef = v) (h3 : a.tmps.getD 3 undef = .pointer (some ⟨g, 0, none⟩))
    (hg : w.heap[g]? = some (.cells #[.int .i64 er, .int .i64 at_] 26 (0, 0))) (hR : R (.returned (.tuple #[v, .agg #[.int .i64 er, .int .i64 at_]])) w) : bodyPost Tryd.prog Tryd.f10 R .ret a w := by
  refine bodyPost_ret (v := .tuple #[v, .agg #[.int .i64 er, .int .i64 at_]]) ?_ hd hR
  have h2' : a.tmps[2]?.getD undef = v := by simpa using h2
  have h3' : a.tmps[3]?.getD undef = .pointer (some ⟨g, 0, none⟩) := by simpa using h3
  have hv := run_loadVar_row (P := Tryd.prog) w g 26 26 _ _ _ hg faultType rfl (by kernel_rfl)
  simp [results, Tryd.results10, h2', h3', asAddr, hv]
/-- Nothing old has turned, where the reader is new. -/
theorem below_of_kept {g : Nat} {w w0 w' : World} (hb : Below w.heap.size w w0) (hg : w.heap.size ≤ g) (hk : Kept g w0 w') : Below w.heap.size w w' :=
  ⟨hk.os.trans hb.os, hk.tape.trans hb.tape, hk.output.trans hb.output, Nat.le_trans hb.size hk.size, fun k h => (hk.block k (by have := hb.size; omega) (fun e => by have := Option.some.inj e; omega)).trans (hb.block k h)⟩

set_option maxRecDepth 100000 in
set_option maxHeartbeats 16000000 in
theorem rparse_any (s : ByteArray) (l : List UInt8) (hs : s.data.toList = l) (hl : l.length ≤ 9223372036854775807) (w : World) :
    Calls Tryd.prog 10 #[.string s] w fun e w' => (∃ v er at_, e = .returned (.tuple #[v, .agg #[.int .i64 er, .int .i64 at_]]) ∧ PTells l w w' v er at_) ∧ Below w.heap.size w w' := by
  have hz : s.size = l.length := by rw [← hs, Lib.size_eq]
  obtain ⟨i0, hi, hz0, hz1, hz2⟩ := info_parts ruleInfo
  have hbA := (Below.refl w.heap.size w).alloc (Nat.le_refl _) (.cells #[.int .i64 0, .int .i64 0] 26)
  have hrA := heap_alloc_new w (.cells #[.int .i64 0, .int .i64 0] 26)
  have hszA : (w.alloc (.cells #[.int .i64 0, .int .i64 0] 26)).heap.size = w.heap.size + 1 := by simp
  generalize hwA : w.alloc (.cells #[.int .i64 0, .int .i64 0] 26) = wA at *
  have cX := rlex_any s l hs hl wA
  go_enter Tryd.func10, Tryd.ntmps10
  go_wp2_with fail
  refine cX.mono ?_
  rintro e w1 ⟨⟨v, er, at_, rfl, hx⟩, hb1⟩
  have hb1w := hbA.trans (hb1.mono hbA.size)
  have hr1 := (hb1.block _ (lt_of_block hrA)).trans hrA
  have hsz1 := hb1.size
  have hbF : Below w1.heap.size w1 (w1.alloc (.cells #[.int .i64 er, .int .i64 at_] 26)) := (Below.refl _ _).alloc (Nat.le_refl _) _
  have hf2 := heap_alloc_new w1 (.cells #[.int .i64 er, .int .i64 at_] 26)
  have hr2 := (hbF.block _ (lt_of_block hr1)).trans hr1
  have hb2w := hb1w.trans (hbF.mono hb1w.size)
  have hsz2 : (w1.alloc (.cells #[.int .i64 er, .int .i64 at_] 26)).heap.size = w1.heap.size + 1 := by simp
  clear cX hwA hrA
  by_cases he : er = 0
  · subst he
    obtain ⟨all, k, h6, hL, hk, ho⟩ : ∃ (ts : List Tk) (k : Nat), l.length ≤ 6000 ∧ Lexed l ts k ∧ ¬ k < l.length ∧ w1.ownsRow wA.heap.size 30 4 v ts.length (flatT ts) := by
      rcases hx with ⟨_, _, h, _⟩ | ⟨ts, k, _, _, _, he, _, h, _⟩ | ⟨ts, k, h1, h2, h3, h4, _⟩
      · cases h
      · exact absurd h.symm he
      · exact ⟨ts, k, h1, h2, h3, h4⟩
    have hle := hL.le
    have hlen : all.length ≤ 6000 := by omega
    have hown : ∀ b, v.ownBlock = some b → b < w1.heap.size := fun b hb => (ho.lt b hb).2
    have hrow1 : TRow w1 v all := trow_of_owns ho (by omega)
    obtain ⟨pv, cv, ev⟩ := hrow1.form
    subst ev
    generalize hW2 : w1.alloc (.cells #[.int .i64 0, .int .i64 at_] 26) = w2 at *
    have d0 := (cell_of_row _ _ 0 _ _ _ hf2).trans rfl
    have hbG : Below w2.heap.size w2 (w2.alloc (.cells #[.slice pv all.length cv, .int .i64 0, .int .i64 (l.length : Int), .int .i64 0, .int .i64 0, .int .i64 0] 52)) := (Below.refl _ _).alloc (Nat.le_refl _) _
    have h0 : WS0 all l.length (w1.heap.size + 1) (.slice pv all.length cv) := ⟨hlen, h6, fun e => by have := hown _ e; omega, lexed_num hL, lexed_tkok hL⟩
    have hblk := heap_alloc_new w2 (.cells #[.slice pv all.length cv, .int .i64 0, .int .i64 (l.length : Int), .int .i64 0, .int .i64 0, .int .i64 0] 52)
    rw [hsz2] at hblk
    have hst : WSt all l.length (w1.heap.size + 1) (.slice pv all.length cv) (w2.alloc (.cells #[.slice pv all.length cv, .int .i64 0, .int .i64 (l.length : Int), .int .i64 0, .int .i64 0, .int .i64 0] 52)) 0 0 0 0 :=
      ⟨hblk, (Kept.of_below (g := w1.heap.size + 1) hbG).row (fun e => by have := hown _ e; omega) ((Kept.of_below (g := w1.heap.size + 1) hbF).row (fun e => by have := hown _ e; omega) hrow1), by omega⟩
    have hr3 := (hbG.block _ (lt_of_block hr2)).trans hr2
    have hb3w := hb2w.trans (hbG.mono hb2w.size)
    have hsz3 : (w2.alloc (.cells #[.slice pv all.length cv, .int .i64 0, .int .i64 (l.length : Int), .int .i64 0, .int .i64 0, .int .i64 0] 52)).heap.size = w2.heap.size + 1 := by simp
    have HT : Hid (∀ (er : Int) (at_ : Nat) (w' : World), rulesR l.length (all.length + 1) [] all = .error (er, at_) → PTells l w w' (.slice none 0 0) er (at_ : Int)) := fun er at_ w' hX => .inr (.inr (.inl ⟨all, k, er, at_, h6, hL, hk, hX, rfl, rfl, rfl⟩))
    have HU : Hid (∀ (us : List (Ru × Value)) (v' : Value) (w' : World), rulesR l.length (all.length + 1) [] all = .ok (us.map (fun p => p.1)) → us.length ≤ 40 → RowR w w' v' us → PTells l w w' v' 0 0) := fun us v' w' hX h40 hr => .inr (.inr (.inr ⟨all, k, us, h6, hL, hk, hX, h40, hr, rfl, rfl⟩))
    clear hx ho hrow1 hown hL hk hle hb1 hbF hf2 hr1 hr2 hb1w hb2w hbG hblk
    go_wp2_with fail
    clear hW2 d0
    generalize hW3 : w2.alloc (.cells #[.slice pv all.length cv, .int .i64 0, .int .i64 (l.length : Int), .int .i64 0, .int .i64 0, .int .i64 0] 52) = w3 at *
    clear hW3
    have hgz : w.heap.size < w1.heap.size + 1 := by omega
    have hgl := lt_of_block hst.blk
    clear hsz3 hsz2 hsz1 hszA
    generalize hgg : w1.heap.size + 1 = g at *
    generalize hX : rulesR l.length (all.length + 1) [] all = X at *
    have HX : Hid (RulesW all l.length g (.slice pv all.length cv) w3 X (.slice none 0 0) w3) := ⟨Kept.refl _ _, .inl ⟨[], all.length + 1, 0, 0, by simpa using hX, by simp, by simp, ⟨World.ownsRow_nil _ _ _ _, fun p hp => by cases hp⟩, hst⟩⟩
    clear hX
    go_loopw [7] (fun q wr => RulesW all l.length g (.slice pv all.length cv) w3 X q wr) (fun _ wr => mzOf all.length g wr)
    case atStart => exact HX.out
    case round =>
      clear HX
      obtain ⟨hkp, ⟨us, f, j, m, hXr, hf, h40, hrow, hstr⟩ | ⟨er, at1, j, m, hXe, hne, hstr⟩⟩ := hrel
      · have cg := good_any hstr
        have k0 := (cell_of_row _ _ 0 _ _ _ hstr.blk).trans rfl
        have k1 := (cell_of_row _ _ 1 _ _ _ hstr.blk).trans rfl
        have hrown := hrow.own
        obtain ⟨pq, cq, eq⟩ := row_form hrown
        have hmz := hstr.mz_ok all.length
        by_cases hlt : j < all.length
        · have hlt' : (j : Int) < (all.length : Int) := by omega
          obtain ⟨f, rfl⟩ : ∃ f', f = f' + 1 := ⟨f - 1, by omega⟩
          rw [rulesR_step (by simp; omega), tail_drop] at hXr
          have c2 := on_any h0 hstr 2 wRule
          rw [on_word h0 (by decide) j] at c2
          by_cases hR : isT wRule (all.drop j) = true
          · have hj1 := isT_len (by decide) hR
            rw [if_pos hR] at hXr
            rw [hR] at c2
            have hrow0 := hrow
            subst eq
            clear hR hrown
            go_wp2_with fail
            refine cg.mono ?_
            rintro e w' ⟨rfl, hw'⟩
            subst w'
            go_wp2_with fail
            refine c2.mono ?_
            rintro e w4 ⟨rfl, hb4⟩
            have h4 := hstr.below hb4 h0
            have y1 := frozen_of_row _ _ 1 _ _ h4.blk
            have k4 := (cell_of_row _ _ 1 _ _ _ h4.blk).trans rfl
            have h5 := h4.set h0 hj1
            have hk5 := (Kept.of_below (g := g) hb4).trans (Kept.set w4 g 1 (.int .i64 ((j + 1 : Nat) : Int)))
            have hrow5 := hrow0.kept hk5 hgl
            have hkp5 := hkp.trans hk5
            have ei : (j : Int) + 1 = ((j + 1 : Nat) : Int) := by omega
            have hj6 : (j : Int) ≤ 6000 := by omega
            clear c2 cg hb4 h4 hk5 hrow hrow0 hkp k0 k1 hstr
            generalize hvv : ((j + 1 : Nat) : Int) = vv at *
            generalize hw5 : w4.setCell ⟨g, 1, none⟩ (.int .i64 vv) = w5 at *
            by_cases hm : us.length = 40
            · rw [if_pos (by simpa using hm)] at hXr
              have hm' : (40 : Int) ≤ (us.length : Int) := by omega
              have cn := next_any h0 h5
              have cs := fun (W : World) (hW : WSt all l.length g (.slice pv all.length cv) W (j + 1) m 0 0) => stop_good h0 hW 5 (atP l.length (all.drop (j + 1)))
              have HS1 : Hid (Stp (us.length < 40) X (nextR l.length f (us.map (fun p => p.1)) (all.drop (j + 1))) 5 (atP l.length (all.drop (j + 1)))) := ⟨fun _ => hXr.symm, fun h => absurd h (by decide)⟩
              unfold tokV at cn
              generalize hat1 : atP l.length (all.drop (j + 1)) = at1 at *
              clear hXr hm
              go_wp2_with fail
              refine cn.mono ?_
              rintro e w6 ⟨rfl, hb6⟩
              have h6' := h5.below hb6 h0
              have hrow6 := hrow5.kept (Kept.of_below (g := g) hb6) hgl
              have hkp6 := hkp5.trans (Kept.of_below hb6)
              clear cn hb6 hrow5 hkp5 h5
              go_wp2_with fail
              refine (cs _ h6').mono ?_
              rintro e w7 ⟨rfl, hW, hk7⟩
              have hrowW := hrow6.kept hk7 hgl
              have hkpW := hkp6.trans hk7
              obtain ⟨er1, hW, HS1⟩ : ∃ (er1 : Int), WSt all l.length g (.slice pv all.length cv) w7 (j + 1) m er1 (at1 : Int) ∧ Hid (Stp (us.length < 40) X (nextR l.length f (us.map (fun p => p.1)) (all.drop (j + 1))) er1 at1) := ⟨5, hW, HS1⟩
              clear cs h6' hrow6 hkp6 hk7 hm' hat1
              obtain ⟨nm, hnm⟩ : ∃ q, textP (all.drop (j + 1)) = q := ⟨_, rfl⟩
              have cG : Calls Tryd.prog 26 #[.pointer (some ⟨g, 0, none⟩), .int .i64 1] w7 (fun e w' => (∃ t0 t1 t2 : Int, e = .returned (.agg #[.int .i64 t0, .int .i64 t1, .int .i64 t2, .string ⟨nm.toArray⟩])) ∧ Kept g w7 w' ∧ ∃ (er2 : Int) (at2 i2 : Nat), WSt all l.length g (.slice pv all.length cv) w' i2 m er2 (at2 : Int) ∧ Stp (us.length < 40 ∧ kindP (all.drop (j + 1)) = 1 ∧ i2 = j + 1 + 1) X (nextR l.length f (us.map (fun p => p.1)) (all.drop (j + 1))) er2 at2) := by
                refine (get_any h0 hW 1 (by decide)).mono ?_
                rintro e w' ⟨rfl, hk, hb, hn, hg⟩
                exact ⟨⟨_, _, _, by rw [← hnm]; rfl⟩, hk, stp_get HS1.out hb hn hg⟩
              clear HS1 hW
              go_wp2_with fail
              refine cG.mono ?_
              rintro e w8 ⟨⟨t0, t1, t2, rfl⟩, hk8, er2, at2, i2, h8, hS2⟩
              have HS2 : Hid (Stp (us.length < 40 ∧ kindP (all.drop (j + 1)) = 1 ∧ i2 = j + 1 + 1) X (nextR l.length f (us.map (fun p => p.1)) (all.drop (j + 1))) er2 at2) := hS2
              have hbT : Below w8.heap.size w8 (w8.alloc (.cells #[.int .i64 t0, .int .i64 t1, .int .i64 t2, .string ⟨nm.toArray⟩] 30)) := (Below.refl _ _).alloc (Nat.le_refl _) _
              have h9 := h8.below hbT h0
              have hx9 := heap_alloc_new w8 (.cells #[.int .i64 t0, .int .i64 t1, .int .i64 t2, .string ⟨nm.toArray⟩] 30)
              have hk9 := hk8.trans (Kept.of_below hbT)
              have hrow9 := hrowW.kept hk9 hgl
              have hkp9 := hkpW.trans hk9
              have hs9 := (hkpW.trans hk8).size
              clear cG hS2 hbT h8 hk8 hk9 hrowW hkpW
              generalize hw9 : w8.alloc (.cells #[.int .i64 t0, .int .i64 t1, .int .i64 t2, .string ⟨nm.toArray⟩] 30) = w9 at *
              have cN : Calls Tryd.prog 27 #[.pointer (some ⟨g, 0, none⟩), .string ⟨#[61]⟩] w9 (fun e w' => e = .returned (.tuple #[]) ∧ Kept g w9 w' ∧ ∃ (er2 : Int) (at2 i3 : Nat), WSt all l.length g (.slice pv all.length cv) w' i3 m er2 (at2 : Int) ∧ Stp (us.length < 40 ∧ kindP (all.drop (j + 1)) = 1 ∧ isT wIs (all.drop (j + 1 + 1)) = true ∧ i3 = j + 1 + 1 + 1) X (nextR l.length f (us.map (fun p => p.1)) (all.drop (j + 1))) er2 at2) := by
                refine (need_one h0 h9 wIs (by decide) (by decide)).mono ?_
                rintro e w' ⟨rfl, hk, hb, hg, hn⟩
                exact ⟨rfl, hk, stp_is HS2.out hb hg hn⟩
              clear HS2 h9
              go_wp2_with fail
              refine cN.mono ?_
              rintro e w10 ⟨rfl, hk10, er3, at3, i3, h10, hS3⟩
              have HS3 : Hid (Stp (us.length < 40 ∧ kindP (all.drop (j + 1)) = 1 ∧ isT wIs (all.drop (j + 1 + 1)) = true ∧ i3 = j + 1 + 1 + 1) X (nextR l.length f (us.map (fun p => p.1)) (all.drop (j + 1))) er3 at3) := hS3
              have k3 := (cell_of_row _ _ 3 _ _ _ h10.blk).trans rfl
              have y3 := frozen_of_row _ _ 3 _ _ h10.blk
              have h11 : WSt all l.length g (.slice pv all.length cv) (w10.setCell ⟨g, 3, none⟩ (.int .i64 0)) i3 0 er3 (at3 : Int) := h10.setN h0 0
              have hk11 := hk10.trans (Kept.set w10 g 3 (.int .i64 0))
              have hx11 := hk11.at hx9 (by omega)
              have hrow11 := hrow9.kept hk11 hgl
              have hkp11 := hkp9.trans hk11
              clear cN hS3 h10 hk10 hk11 hx9 hrow9 hkp9 hw9
              generalize hw11 : w10.setCell ⟨g, 3, none⟩ (.int .i64 0) = w11 at *
              have cS : Calls Tryd.prog 28 #[.pointer (some ⟨g, 0, none⟩), .int .i64 0, .int .i64 1] w11 (fun e w' => ∃ (a b c : Int) (x : ByteArray) (p : Option Addr) (q r : Nat), e = .returned (.agg #[.int .i64 a, .int .i64 b, .int .i64 c, .string x, .slice p q r]) ∧ Kept g w11 w' ∧
                  ((∃ (er4 : Int) (at4 i4 m4 : Nat), er4 ≠ 0 ∧ X = .error (er4, at4) ∧ WSt all l.length g (.slice pv all.length cv) w' i4 m4 er4 (at4 : Int)) ∨
                  (∃ (ex : Ex) (i4 n4 d : Nat), us.length < 40 ∧ kindP (all.drop (j + 1)) = 1 ∧ isT wIs (all.drop (j + 1 + 1)) = true ∧ rd l.length 0 1 ex0 (all.drop (j + 1 + 1 + 1)) 0 = .ok (ex, all.drop i4, n4) ∧ (nextR l.length f (us.map (fun p => p.1)) (all.drop (j + 1))) = X ∧ WSt all l.length g (.slice pv all.length cv) w' i4 n4 0 0 ∧ a = ex.kind ∧ b = ex.a ∧ c = ex.b ∧ x = ⟨ex.name.toArray⟩ ∧ q = ex.kids.length ∧ KidsAt (fun k => w11.heap.size ≤ k) d w' (.slice p ex.kids.length r) ex.kids ∧ hgt ex ≤ 600))) := by
                refine (sum_one h0 h11 (by omega) (fun h => by rw [(HS3.out.2 h).1]; rfl)).mono ?_
                rintro e w' ⟨a, b, c, x, p, q, r, rfl, hk, hb, hg⟩
                exact ⟨a, b, c, x, p, q, r, rfl, hk, stp_sum HS3.out hb hg⟩
              clear HS3 h11
              go_wp2_with fail
              refine cS.mono ?_
              rintro e w12 ⟨a, b, c, x, p, q, r, rfl, hk12, hbg⟩
              have hs11 := hkp11.size
              have hs12 := hk12.size
              have hlx := lt_of_block hx11
              have hbX : Below w12.heap.size w12 (w12.alloc (.cells #[.int .i64 a, .int .i64 b, .int .i64 c, .string x, .slice p q r] 60)) := (Below.refl _ _).alloc (Nat.le_refl _) _
              have hk13 := hk12.trans (Kept.of_below hbX)
              have hx13 := hk13.at hx11 (by omega)
              have he13 := heap_alloc_new w12 (.cells #[.int .i64 a, .int .i64 b, .int .i64 c, .string x, .slice p q r] 60)
              have hrow13 := hrow11.kept hk13 hgl
              have hkp13 := hkp11.trans hk13
              clear cS hx11 hrow11 hkp11 hw11 hk13
              rcases hbg with ⟨er4, at4, i4, m4, hne4, hX4, h12⟩ | ⟨ex, i4, n4, d, h39, hK, hI, hRd, hY, h12, rfl, rfl, rfl, rfl, rfl, hkd, hh⟩
              · have h13 := h12.below hbX h0
                have cg4 := good_any h13
                rw [show (er4 == 0) = false by simpa using hne4] at cg4
                have cN4 := need_bad h0 h13 hne4 wSemi
                have HS6 : Hid ((er4 ≠ 0 → X = .error (er4, at4)) ∧ (er4 = 0 → at4 = 0 ∧ ∃ (ex : Ex) (d f : Nat), a = ex.kind ∧ b = ex.a ∧ c = ex.b ∧ x = ⟨ex.name.toArray⟩ ∧ q = ex.kids.length ∧ KidsAt (fun k => w3.heap.size ≤ k) d w12 (.slice p ex.kids.length r) ex.kids ∧ rulesR l.length f (us.map (fun p => p.1) ++ [(nm, ex)]) (all.drop i4) = X ∧ (all.drop i4).length < f ∧ us.length < 40)) := ⟨fun _ => hX4, fun h => absurd h hne4⟩
                clear h12 hbX hX4 hk12
                generalize hw13 : w12.alloc (.cells #[.int .i64 a, .int .i64 b, .int .i64 c, .string x, .slice p q r] 60) = w13 at *
                go_wp2_with fail
                refine cg4.mono ?_
                rintro e w' ⟨rfl, hw'⟩
                subst w'
                go_wp2_with fail
                refine cN4.mono ?_
                rintro e w14 ⟨rfl, h14, hk14⟩
                have hx14 := hk14.at hx13 (by omega)
                have he14 := hk14.at he13 (by omega)
                have hrow14 := hrow13.kept hk14 hgl
                have hkp14 := hkp13.trans hk14
                have HJ6 : Hid (j < i4 ∨ er4 ≠ 0) := .inr hne4
                replace HS6 : Hid ((er4 ≠ 0 → X = .error (er4, at4)) ∧ (er4 = 0 → at4 = 0 ∧ ∃ (ex : Ex) (d f : Nat), a = ex.kind ∧ b = ex.a ∧ c = ex.b ∧ x = ⟨ex.name.toArray⟩ ∧ q = ex.kids.length ∧ KidsAt (fun k => w3.heap.size ≤ k) d w14 (.slice p ex.kids.length r) ex.kids ∧ rulesR l.length f (us.map (fun p => p.1) ++ [(nm, ex)]) (all.drop i4) = X ∧ (all.drop i4).length < f ∧ us.length < 40)) := ⟨HS6.out.1, fun h => absurd h hne4⟩
                clear cg4 cN4 h13 hx13 he13 hrow13 hkp13 hk14 hw13 hne4
                have hb15 : Below w14.heap.size w14 (w14.alloc (.cells #[.string ⟨nm.toArray⟩, .int .i64 a, .int .i64 b, .int .i64 c, .string x, .slice p q r] 64)) := (Below.refl _ _).alloc (Nat.le_refl _) _
                have hrow15 := hrow14.kept (Kept.of_below (g := g) hb15) hgl
                have hkp15 := hkp14.trans (Kept.of_below hb15)
                have h15 := h14.below hb15 h0
                have hx15 := heap_alloc_new w14 (.cells #[.string ⟨nm.toArray⟩, .int .i64 a, .int .i64 b, .int .i64 c, .string x, .slice p q r] 64)
                have hs15 := hkp15.size
                have kt := (cell_of_row _ _ 3 _ _ _ hx14).trans rfl
                have HS7 : Hid ((er4 ≠ 0 → X = .error (er4, at4)) ∧ (er4 = 0 → at4 = 0 ∧ ∃ (ex : Ex) (d f : Nat), a = ex.kind ∧ b = ex.a ∧ c = ex.b ∧ x = ⟨ex.name.toArray⟩ ∧ q = ex.kids.length ∧ KidsAt (fun k => w3.heap.size ≤ k) d (w14.alloc (.cells #[.string ⟨nm.toArray⟩, .int .i64 a, .int .i64 b, .int .i64 c, .string x, .slice p q r] 64)) (.slice p ex.kids.length r) ex.kids ∧ rulesR l.length f (us.map (fun p => p.1) ++ [(nm, ex)]) (all.drop i4) = X ∧ (all.drop i4).length < f ∧ us.length < 40)) := by
                  refine ⟨HS6.out.1, fun he => ?_⟩
                  obtain ⟨h1, ex, d, f, e1, e2, e3, e4, e5, hk, h2⟩ := HS6.out.2 he
                  exact ⟨h1, ex, d, f, e1, e2, e3, e4, e5, hk.kept (fun k _ hl => hb15.block k hl), h2⟩
                have HJ : Hid (j < i4 ∨ er4 ≠ 0) := HJ6
                clear HS6 hrow14 hkp14 h14 hb15 HJ6
                generalize hw15 : w14.alloc (.cells #[.string ⟨nm.toArray⟩, .int .i64 a, .int .i64 b, .int .i64 c, .string x, .slice p q r] 64) = w15 at *
                go_wp2_with (first
                  | (refine wpList_load_row rfl 60 _ rfl _ rfl _ _ _ _ he14 exprType rfl (by kernel_rfl) ?_; clear he14)
                  | (at_builtin; refine wpList_append_own _ rfl _ _ 33 rfl w3.heap.size 64 i0 (.agg #[.string ⟨#[]⟩, .int .i64 0, .int .i64 0, .int .i64 0, .string ⟨#[]⟩, .slice none 0 0]) 6 80 rulesType hi hz0 hz1 hz2 rfl (by decide) (.slice pq us.length cq) us.length (flatR us) rfl hrow15.own ⟨w14.heap.size, 0, none⟩ 1 1 [.string ⟨nm.toArray⟩, .int .i64 a, .int .i64 b, .int .i64 c, .string x, .slice p q r] rfl rfl ?c1 ?c2 ?c3 ?c4 ?c5 ?_))
                case c1 =>
                  intro j u' hj
                  match j, hj with
                  | 0, hj => simp at hj; subst hj; exact (cell_of_row _ _ _ _ _ _ hx15).trans rfl
                  | 1, hj => simp at hj; subst hj; exact (cell_of_row _ _ _ _ _ _ hx15).trans rfl
                  | 2, hj => simp at hj; subst hj; exact (cell_of_row _ _ _ _ _ _ hx15).trans rfl
                  | 3, hj => simp at hj; subst hj; exact (cell_of_row _ _ _ _ _ _ hx15).trans rfl
                  | 4, hj => simp at hj; subst hj; exact (cell_of_row _ _ _ _ _ _ hx15).trans rfl
                  | 5, hj => simp at hj; subst hj; exact (cell_of_row _ _ _ _ _ _ hx15).trans rfl
                case c2 => intro u hu; simp at hu; rcases hu with rfl | rfl | rfl | rfl | rfl | rfl <;> rfl
                case c3 => unfold maxLen; omega
                case c4 => omega
                case c5 => exact hs15
                intro v' w16 hown' hgrow _
                obtain ⟨hrel', hmz1, hmz2⟩ := rulesW_next h0 hst hrow15 hkp15 hgrow h15 hown' HS7.out
                have HR : Hid (RulesW all l.length g (.slice pv all.length cv) w3 X v' w16) := hrel'
                have HM : Hid (mzOf all.length g w16 < mzOf all.length g wr) := by
                  show _ < _
                  rw [hmz]
                  by_cases he : er4 = 0
                  · have := hmz2 he
                    have := HJ.out.resolve_right (fun h => h he)
                    omega
                  · have := hmz1 he
                    omega
                clear hown' hgrow hrow15 hkp15 h15 hx15 hw15 hrel' hmz1 hmz2
                go_wp2_with fail
                go_roundw
                case rel => exact HR.out
                case measure => exact HM.out

              · have h13 := h12.below hbX h0
                have cg4 := good_any h13
                have hkd13 : KidsAt (fun k => w3.heap.size ≤ k) d (w12.alloc (.cells #[.int .i64 ex.kind, .int .i64 ex.a, .int .i64 ex.b, .string ⟨ex.name.toArray⟩, .slice p ex.kids.length r] 60)) (.slice p ex.kids.length r) ex.kids := (hkd.kept (fun k _ hl => hbX.block k hl)).mono (fun k hk => by omega)
                have cD := deep_any _ d ex (.slice p ex.kids.length r) _ hkd13 (by omega)
                unfold exV at cD
                have hij : j + 1 + 1 + 1 ≤ i4 := rd_pos (by omega) hRd h12.le (Nat.le_refl _) (by have := isT_len (by decide) hI; omega)
                clear hkd h12 hbX
                generalize hw13 : w12.alloc (.cells #[.int .i64 ex.kind, .int .i64 ex.a, .int .i64 ex.b, .string ⟨ex.name.toArray⟩, .slice p ex.kids.length r] 60) = w13 at *
                by_cases h4 : 40 < hgt ex
                · have h4' : (40 : Int) < (hgt ex : Int) := by omega
                  have HE : Hid (X = .error (4, atP l.length (all.drop i4))) := by
                    show _ = _
                    rw [← hY]; exact next_deep hK hI hRd h4
                  have cn := fun (W : World) (hW : WSt all l.length g (.slice pv all.length cv) W i4 n4 0 0) => next_any h0 hW
                  have cs := fun (W : World) (hW : WSt all l.length g (.slice pv all.length cv) W i4 n4 0 0) => stop_good h0 hW 4 (atP l.length (all.drop i4))
                  unfold tokV at cn
                  generalize hat4 : atP l.length (all.drop i4) = at4 at *
                  have cN4 := fun (W : World) (hW : WSt all l.length g (.slice pv all.length cv) W i4 n4 4 (at4 : Int)) => need_bad h0 hW (by decide) wSemi
                  have hh6 : (hgt ex : Int) ≤ 600 := by omega
                  generalize hgt ex = H at *
                  clear hK hI hRd hY hkd13 hat4
                  go_wp2_with fail
                  refine cg4.mono ?_
                  rintro e w' ⟨rfl, hw'⟩
                  subst w'
                  have e0 := (cell_of_row _ _ 0 _ _ _ he13).trans rfl
                  have e1 := (cell_of_row _ _ 1 _ _ _ he13).trans rfl
                  have e2 := (cell_of_row _ _ 2 _ _ _ he13).trans rfl
                  have e3 := (cell_of_row _ _ 3 _ _ _ he13).trans rfl
                  have e4 := (cell_of_row _ _ 4 _ _ _ he13).trans rfl
                  go_wp2_with fail
                  clear e0 e1 e2 e3 e4
                  refine cD.mono ?_
                  rintro e wD ⟨rfl, hbD⟩
                  have hD := h13.below hbD h0
                  have hkD := Kept.of_below (g := g) hbD
                  clear cg4 cD hbD hw13
                  go_wp2_with fail
                  refine (cn _ hD).mono ?_
                  rintro e wE ⟨rfl, hbE⟩
                  have hE := hD.below hbE h0
                  have hkE := hkD.trans (Kept.of_below hbE)
                  clear cn hbE hD hkD
                  go_wp2_with fail
                  refine (cs _ hE).mono ?_
                  rintro e wF ⟨rfl, hF, hkF'⟩
                  have hkF := hkE.trans hkF'
                  clear cs hkF' hE hkE
                  go_wp2_with fail
                  refine (cN4 _ hF).mono ?_
                  rintro e w14 ⟨rfl, h14', hk14'⟩
                  have hk14 := hkF.trans hk14'
                  obtain ⟨er5, h14, HS6, HJ6⟩ : ∃ er5 : Int, WSt all l.length g (.slice pv all.length cv) w14 i4 n4 er5 (at4 : Int) ∧ Hid ((er5 ≠ 0 → X = .error (er5, at4)) ∧ (er5 = 0 → at4 = 0 ∧ ∃ (ex' : Ex) (d f : Nat), ex.kind = ex'.kind ∧ ex.a = ex'.a ∧ ex.b = ex'.b ∧ (⟨ex.name.toArray⟩ : ByteArray) = ⟨ex'.name.toArray⟩ ∧ ex.kids.length = ex'.kids.length ∧ KidsAt (fun k => w3.heap.size ≤ k) d w14 (.slice p ex'.kids.length r) ex'.kids ∧ rulesR l.length f (us.map (fun p => p.1) ++ [(nm, ex')]) (all.drop i4) = X ∧ (all.drop i4).length < f ∧ us.length < 40)) ∧ Hid (j < i4 ∨ er5 ≠ 0) := ⟨4, h14', ⟨fun _ => HE.out, fun h => absurd h (by decide)⟩, .inr (by decide)⟩
                  have hx14 := hk14.at hx13 (by omega)
                  have he14 := hk14.at he13 (by omega)
                  have hrow14 := hrow13.kept hk14 hgl
                  have hkp14 := hkp13.trans hk14
                  clear cN4 h14' hk14' hk14 hkF hF hx13 he13 hrow13 hkp13 h13 HE
                  have hb15 : Below w14.heap.size w14 (w14.alloc (.cells #[.string ⟨nm.toArray⟩, .int .i64 ex.kind, .int .i64 ex.a, .int .i64 ex.b, .string ⟨ex.name.toArray⟩, .slice p ex.kids.length r] 64)) := (Below.refl _ _).alloc (Nat.le_refl _) _
                  have hrow15 := hrow14.kept (Kept.of_below (g := g) hb15) hgl
                  have hkp15 := hkp14.trans (Kept.of_below hb15)
                  have h15 := h14.below hb15 h0
                  have hx15 := heap_alloc_new w14 (.cells #[.string ⟨nm.toArray⟩, .int .i64 ex.kind, .int .i64 ex.a, .int .i64 ex.b, .string ⟨ex.name.toArray⟩, .slice p ex.kids.length r] 64)
                  have hs15 := hkp15.size
                  have kt := (cell_of_row _ _ 3 _ _ _ hx14).trans rfl
                  have HS7 : Hid ((er5 ≠ 0 → X = .error (er5, at4)) ∧ (er5 = 0 → at4 = 0 ∧ ∃ (ex' : Ex) (d f : Nat), ex.kind = ex'.kind ∧ ex.a = ex'.a ∧ ex.b = ex'.b ∧ (⟨ex.name.toArray⟩ : ByteArray) = ⟨ex'.name.toArray⟩ ∧ ex.kids.length = ex'.kids.length ∧ KidsAt (fun k => w3.heap.size ≤ k) d (w14.alloc (.cells #[.string ⟨nm.toArray⟩, .int .i64 ex.kind, .int .i64 ex.a, .int .i64 ex.b, .string ⟨ex.name.toArray⟩, .slice p ex.kids.length r] 64)) (.slice p ex'.kids.length r) ex'.kids ∧ rulesR l.length f (us.map (fun p => p.1) ++ [(nm, ex')]) (all.drop i4) = X ∧ (all.drop i4).length < f ∧ us.length < 40)) := by
                    refine ⟨HS6.out.1, fun he => ?_⟩
                    obtain ⟨h1, ex', d, f, e1, e2, e3, e4, e5, hk, h2⟩ := HS6.out.2 he
                    exact ⟨h1, ex', d, f, e1, e2, e3, e4, e5, hk.kept (fun k _ hl => hb15.block k hl), h2⟩
                  have HJ : Hid (j < i4 ∨ er5 ≠ 0) := HJ6
                  clear HS6 hrow14 hkp14 h14 hb15 HJ6
                  generalize hw15 : w14.alloc (.cells #[.string ⟨nm.toArray⟩, .int .i64 ex.kind, .int .i64 ex.a, .int .i64 ex.b, .string ⟨ex.name.toArray⟩, .slice p ex.kids.length r] 64) = w15 at *
                  go_wp2_with (first
                    | (refine wpList_load_row rfl 60 _ rfl _ rfl _ _ _ _ he14 exprType rfl (by kernel_rfl) ?_; clear he14)
                    | (at_builtin; refine wpList_append_own _ rfl _ _ 33 rfl w3.heap.size 64 i0 (.agg #[.string ⟨#[]⟩, .int .i64 0, .int .i64 0, .int .i64 0, .string ⟨#[]⟩, .slice none 0 0]) 6 80 rulesType hi hz0 hz1 hz2 rfl (by decide) (.slice pq us.length cq) us.length (flatR us) rfl hrow15.own ⟨w14.heap.size, 0, none⟩ 1 1 [.string ⟨nm.toArray⟩, .int .i64 ex.kind, .int .i64 ex.a, .int .i64 ex.b, .string ⟨ex.name.toArray⟩, .slice p ex.kids.length r] rfl rfl ?c1 ?c2 ?c3 ?c4 ?c5 ?_))
                  case c1 =>
                    intro j u' hj
                    match j, hj with
                    | 0, hj => simp at hj; subst hj; exact (cell_of_row _ _ _ _ _ _ hx15).trans rfl
                    | 1, hj => simp at hj; subst hj; exact (cell_of_row _ _ _ _ _ _ hx15).trans rfl
                    | 2, hj => simp at hj; subst hj; exact (cell_of_row _ _ _ _ _ _ hx15).trans rfl
                    | 3, hj => simp at hj; subst hj; exact (cell_of_row _ _ _ _ _ _ hx15).trans rfl
                    | 4, hj => simp at hj; subst hj; exact (cell_of_row _ _ _ _ _ _ hx15).trans rfl
                    | 5, hj => simp at hj; subst hj; exact (cell_of_row _ _ _ _ _ _ hx15).trans rfl
                  case c2 => intro u hu; simp at hu; rcases hu with rfl | rfl | rfl | rfl | rfl | rfl <;> rfl
                  case c3 => unfold maxLen; omega
                  case c4 => omega
                  case c5 => exact hs15
                  intro v' w16 hown' hgrow _
                  obtain ⟨hrel', hmz1, hmz2⟩ := rulesW_next h0 hst hrow15 hkp15 hgrow h15 hown' HS7.out
                  have HR : Hid (RulesW all l.length g (.slice pv all.length cv) w3 X v' w16) := hrel'
                  have HM : Hid (mzOf all.length g w16 < mzOf all.length g wr) := by
                    show _ < _
                    rw [hmz]
                    by_cases he : er5 = 0
                    · have := hmz2 he
                      have := HJ.out.resolve_right (fun h => h he)
                      omega
                    · have := hmz1 he
                      omega
                  clear hown' hgrow hrow15 hkp15 h15 hx15 hw15 hrel' hmz1 hmz2
                  go_wp2_with fail
                  go_roundw
                  case rel => exact HR.out
                  case measure => exact HM.out

                · have h4' : ¬ (40 : Int) < (hgt ex : Int) := by omega
                  have HKD : Hid (KidsAt (fun k => w3.heap.size ≤ k) d w13 (.slice p ex.kids.length r) ex.kids) := hkd13
                  have HNX : Hid ((isT wSemi (all.drop i4) = false → X = .error (2, atP l.length (all.drop i4))) ∧ (isT wSemi (all.drop i4) = true → rulesR l.length f (us.map (fun p => p.1) ++ [(nm, ex)]) (all.drop (i4 + 1)) = X)) := by
                    refine ⟨fun h5 => ?_, fun h5 => ?_⟩
                    · rw [← hY]; exact next_semi hK hI hRd h4 h5
                    · rw [← hY, next_ok hK hI hRd h4 h5, hnm]
                  have cN4 := fun (W : World) (hW : WSt all l.length g (.slice pv all.length cv) W i4 n4 0 0) => need_one h0 hW wSemi (by decide) (by decide)
                  have hh6 : (hgt ex : Int) ≤ 600 := by omega
                  generalize hgt ex = H at *
                  clear hK hI hRd hY hkd13
                  go_wp2_with fail
                  refine cg4.mono ?_
                  rintro e w' ⟨rfl, hw'⟩
                  subst w'
                  have e0 := (cell_of_row _ _ 0 _ _ _ he13).trans rfl
                  have e1 := (cell_of_row _ _ 1 _ _ _ he13).trans rfl
                  have e2 := (cell_of_row _ _ 2 _ _ _ he13).trans rfl
                  have e3 := (cell_of_row _ _ 3 _ _ _ he13).trans rfl
                  have e4 := (cell_of_row _ _ 4 _ _ _ he13).trans rfl
                  go_wp2_with fail
                  clear e0 e1 e2 e3 e4
                  refine cD.mono ?_
                  rintro e wD ⟨rfl, hbD⟩
                  have hD := h13.below hbD h0
                  have hkD := Kept.of_below (g := g) hbD
                  clear cg4 cD hbD hw13
                  go_wp2_with fail
                  refine (cN4 _ hD).mono ?_
                  rintro e w14 ⟨rfl, hk14', -, hy, hn⟩
                  have hk14 := hkD.trans hk14'
                  obtain ⟨er5, at5, i5, h14, HS6, HJ6⟩ : ∃ (er5 : Int) (at5 i5 : Nat), WSt all l.length g (.slice pv all.length cv) w14 i5 n4 er5 (at5 : Int) ∧ Hid ((er5 ≠ 0 → X = .error (er5, at5)) ∧ (er5 = 0 → at5 = 0 ∧ ∃ (ex' : Ex) (d f : Nat), ex.kind = ex'.kind ∧ ex.a = ex'.a ∧ ex.b = ex'.b ∧ (⟨ex.name.toArray⟩ : ByteArray) = ⟨ex'.name.toArray⟩ ∧ ex.kids.length = ex'.kids.length ∧ KidsAt (fun k => w3.heap.size ≤ k) d w14 (.slice p ex'.kids.length r) ex'.kids ∧ rulesR l.length f (us.map (fun p => p.1) ++ [(nm, ex')]) (all.drop i5) = X ∧ (all.drop i5).length < f ∧ us.length < 40)) ∧ Hid (j < i5 ∨ er5 ≠ 0) := by
                    cases hT : isT wSemi (all.drop i4) with
                    | true => exact ⟨0, 0, i4 + 1, hy (by trivial) hT, ⟨fun h => absurd rfl h, fun _ => ⟨rfl, ex, d, f, rfl, rfl, rfl, rfl, rfl, hk14.kids (fun k hk => by omega) HKD.out, HNX.out.2 hT, by simp only [List.length_drop] at hf ⊢; omega, h39⟩⟩, .inl (by omega)⟩
                    | false => exact ⟨2, _, i4, hn (by trivial) hT, ⟨fun _ => HNX.out.1 hT, fun h => absurd h (by decide)⟩, .inr (by decide)⟩
                  have hx14 := hk14.at hx13 (by omega)
                  have he14 := hk14.at he13 (by omega)
                  have hrow14 := hrow13.kept hk14 hgl
                  have hkp14 := hkp13.trans hk14
                  clear cN4 hk14' hk14 hkD hD hx13 he13 hrow13 hkp13 h13 HKD HNX hy hn
                  have hb15 : Below w14.heap.size w14 (w14.alloc (.cells #[.string ⟨nm.toArray⟩, .int .i64 ex.kind, .int .i64 ex.a, .int .i64 ex.b, .string ⟨ex.name.toArray⟩, .slice p ex.kids.length r] 64)) := (Below.refl _ _).alloc (Nat.le_refl _) _
                  have hrow15 := hrow14.kept (Kept.of_below (g := g) hb15) hgl
                  have hkp15 := hkp14.trans (Kept.of_below hb15)
                  have h15 := h14.below hb15 h0
                  have hx15 := heap_alloc_new w14 (.cells #[.string ⟨nm.toArray⟩, .int .i64 ex.kind, .int .i64 ex.a, .int .i64 ex.b, .string ⟨ex.name.toArray⟩, .slice p ex.kids.length r] 64)
                  have hs15 := hkp15.size
                  have kt := (cell_of_row _ _ 3 _ _ _ hx14).trans rfl
                  have HS7 : Hid ((er5 ≠ 0 → X = .error (er5, at5)) ∧ (er5 = 0 → at5 = 0 ∧ ∃ (ex' : Ex) (d f : Nat), ex.kind = ex'.kind ∧ ex.a = ex'.a ∧ ex.b = ex'.b ∧ (⟨ex.name.toArray⟩ : ByteArray) = ⟨ex'.name.toArray⟩ ∧ ex.kids.length = ex'.kids.length ∧ KidsAt (fun k => w3.heap.size ≤ k) d (w14.alloc (.cells #[.string ⟨nm.toArray⟩, .int .i64 ex.kind, .int .i64 ex.a, .int .i64 ex.b, .string ⟨ex.name.toArray⟩, .slice p ex.kids.length r] 64)) (.slice p ex'.kids.length r) ex'.kids ∧ rulesR l.length f (us.map (fun p => p.1) ++ [(nm, ex')]) (all.drop i5) = X ∧ (all.drop i5).length < f ∧ us.length < 40)) := by
                    refine ⟨HS6.out.1, fun he => ?_⟩
                    obtain ⟨h1, ex', d, f, e1, e2, e3, e4, e5, hk, h2⟩ := HS6.out.2 he
                    exact ⟨h1, ex', d, f, e1, e2, e3, e4, e5, hk.kept (fun k _ hl => hb15.block k hl), h2⟩
                  have HJ : Hid (j < i5 ∨ er5 ≠ 0) := HJ6
                  clear HS6 hrow14 hkp14 h14 hb15 HJ6
                  generalize hw15 : w14.alloc (.cells #[.string ⟨nm.toArray⟩, .int .i64 ex.kind, .int .i64 ex.a, .int .i64 ex.b, .string ⟨ex.name.toArray⟩, .slice p ex.kids.length r] 64) = w15 at *
                  go_wp2_with (first
                    | (refine wpList_load_row rfl 60 _ rfl _ rfl _ _ _ _ he14 exprType rfl (by kernel_rfl) ?_; clear he14)
                    | (at_builtin; refine wpList_append_own _ rfl _ _ 33 rfl w3.heap.size 64 i0 (.agg #[.string ⟨#[]⟩, .int .i64 0, .int .i64 0, .int .i64 0, .string ⟨#[]⟩, .slice none 0 0]) 6 80 rulesType hi hz0 hz1 hz2 rfl (by decide) (.slice pq us.length cq) us.length (flatR us) rfl hrow15.own ⟨w14.heap.size, 0, none⟩ 1 1 [.string ⟨nm.toArray⟩, .int .i64 ex.kind, .int .i64 ex.a, .int .i64 ex.b, .string ⟨ex.name.toArray⟩, .slice p ex.kids.length r] rfl rfl ?c1 ?c2 ?c3 ?c4 ?c5 ?_))
                  case c1 =>
                    intro j u' hj
                    match j, hj with
                    | 0, hj => simp at hj; subst hj; exact (cell_of_row _ _ _ _ _ _ hx15).trans rfl
                    | 1, hj => simp at hj; subst hj; exact (cell_of_row _ _ _ _ _ _ hx15).trans rfl
                    | 2, hj => simp at hj; subst hj; exact (cell_of_row _ _ _ _ _ _ hx15).trans rfl
                    | 3, hj => simp at hj; subst hj; exact (cell_of_row _ _ _ _ _ _ hx15).trans rfl
                    | 4, hj => simp at hj; subst hj; exact (cell_of_row _ _ _ _ _ _ hx15).trans rfl
                    | 5, hj => simp at hj; subst hj; exact (cell_of_row _ _ _ _ _ _ hx15).trans rfl
                  case c2 => intro u hu; simp at hu; rcases hu with rfl | rfl | rfl | rfl | rfl | rfl <;> rfl
                  case c3 => unfold maxLen; omega
                  case c4 => omega
                  case c5 => exact hs15
                  intro v' w16 hown' hgrow _
                  obtain ⟨hrel', hmz1, hmz2⟩ := rulesW_next h0 hst hrow15 hkp15 hgrow h15 hown' HS7.out
                  have HR : Hid (RulesW all l.length g (.slice pv all.length cv) w3 X v' w16) := hrel'
                  have HM : Hid (mzOf all.length g w16 < mzOf all.length g wr) := by
                    show _ < _
                    rw [hmz]
                    by_cases he : er5 = 0
                    · have := hmz2 he
                      have := HJ.out.resolve_right (fun h => h he)
                      omega
                    · have := hmz1 he
                      omega
                  clear hown' hgrow hrow15 hkp15 h15 hx15 hw15 hrel' hmz1 hmz2
                  go_wp2_with fail
                  go_roundw
                  case rel => exact HR.out
                  case measure => exact HM.out
            · rw [if_neg (by simpa using hm)] at hXr
              have hm' : ¬ (40 : Int) ≤ (us.length : Int) := by omega
              obtain ⟨er1, at1, hW, HS1⟩ : ∃ (er1 : Int) (at1 : Nat), WSt all l.length g (.slice pv all.length cv) w5 (j + 1) m er1 (at1 : Int) ∧ Hid (Stp (us.length < 40) X (nextR l.length f (us.map (fun p => p.1)) (all.drop (j + 1))) er1 at1) := ⟨0, 0, h5, ⟨fun h => absurd rfl h, fun _ => ⟨rfl, hXr, by omega⟩⟩⟩
              have hrowW := hrow5
              have hkpW := hkp5
              clear hXr hm hrow5 hkp5 h5
              obtain ⟨nm, hnm⟩ : ∃ q, textP (all.drop (j + 1)) = q := ⟨_, rfl⟩
              have cG : Calls Tryd.prog 26 #[.pointer (some ⟨g, 0, none⟩), .int .i64 1] w5 (fun e w' => (∃ t0 t1 t2 : Int, e = .returned (.agg #[.int .i64 t0, .int .i64 t1, .int .i64 t2, .string ⟨nm.toArray⟩])) ∧ Kept g w5 w' ∧ ∃ (er2 : Int) (at2 i2 : Nat), WSt all l.length g (.slice pv all.length cv) w' i2 m er2 (at2 : Int) ∧ Stp (us.length < 40 ∧ kindP (all.drop (j + 1)) = 1 ∧ i2 = j + 1 + 1) X (nextR l.length f (us.map (fun p => p.1)) (all.drop (j + 1))) er2 at2) := by
                refine (get_any h0 hW 1 (by decide)).mono ?_
                rintro e w' ⟨rfl, hk, hb, hn, hg⟩
                exact ⟨⟨_, _, _, by rw [← hnm]; rfl⟩, hk, stp_get HS1.out hb hn hg⟩
              clear HS1 hW
              go_wp2_with fail
              refine cG.mono ?_
              rintro e w8 ⟨⟨t0, t1, t2, rfl⟩, hk8, er2, at2, i2, h8, hS2⟩
              have HS2 : Hid (Stp (us.length < 40 ∧ kindP (all.drop (j + 1)) = 1 ∧ i2 = j + 1 + 1) X (nextR l.length f (us.map (fun p => p.1)) (all.drop (j + 1))) er2 at2) := hS2
              have hbT : Below w8.heap.size w8 (w8.alloc (.cells #[.int .i64 t0, .int .i64 t1, .int .i64 t2, .string ⟨nm.toArray⟩] 30)) := (Below.refl _ _).alloc (Nat.le_refl _) _
              have h9 := h8.below hbT h0
              have hx9 := heap_alloc_new w8 (.cells #[.int .i64 t0, .int .i64 t1, .int .i64 t2, .string ⟨nm.toArray⟩] 30)
              have hk9 := hk8.trans (Kept.of_below hbT)
              have hrow9 := hrowW.kept hk9 hgl
              have hkp9 := hkpW.trans hk9
              have hs9 := (hkpW.trans hk8).size
              clear cG hS2 hbT h8 hk8 hk9 hrowW hkpW
              generalize hw9 : w8.alloc (.cells #[.int .i64 t0, .int .i64 t1, .int .i64 t2, .string ⟨nm.toArray⟩] 30) = w9 at *
              have cN : Calls Tryd.prog 27 #[.pointer (some ⟨g, 0, none⟩), .string ⟨#[61]⟩] w9 (fun e w' => e = .returned (.tuple #[]) ∧ Kept g w9 w' ∧ ∃ (er2 : Int) (at2 i3 : Nat), WSt all l.length g (.slice pv all.length cv) w' i3 m er2 (at2 : Int) ∧ Stp (us.length < 40 ∧ kindP (all.drop (j + 1)) = 1 ∧ isT wIs (all.drop (j + 1 + 1)) = true ∧ i3 = j + 1 + 1 + 1) X (nextR l.length f (us.map (fun p => p.1)) (all.drop (j + 1))) er2 at2) := by
                refine (need_one h0 h9 wIs (by decide) (by decide)).mono ?_
                rintro e w' ⟨rfl, hk, hb, hg, hn⟩
                exact ⟨rfl, hk, stp_is HS2.out hb hg hn⟩
              clear HS2 h9
              go_wp2_with fail
              refine cN.mono ?_
              rintro e w10 ⟨rfl, hk10, er3, at3, i3, h10, hS3⟩
              have HS3 : Hid (Stp (us.length < 40 ∧ kindP (all.drop (j + 1)) = 1 ∧ isT wIs (all.drop (j + 1 + 1)) = true ∧ i3 = j + 1 + 1 + 1) X (nextR l.length f (us.map (fun p => p.1)) (all.drop (j + 1))) er3 at3) := hS3
              have k3 := (cell_of_row _ _ 3 _ _ _ h10.blk).trans rfl
              have y3 := frozen_of_row _ _ 3 _ _ h10.blk
              have h11 : WSt all l.length g (.slice pv all.length cv) (w10.setCell ⟨g, 3, none⟩ (.int .i64 0)) i3 0 er3 (at3 : Int) := h10.setN h0 0
              have hk11 := hk10.trans (Kept.set w10 g 3 (.int .i64 0))
              have hx11 := hk11.at hx9 (by omega)
              have hrow11 := hrow9.kept hk11 hgl
              have hkp11 := hkp9.trans hk11
              clear cN hS3 h10 hk10 hk11 hx9 hrow9 hkp9 hw9
              generalize hw11 : w10.setCell ⟨g, 3, none⟩ (.int .i64 0) = w11 at *
              have cS : Calls Tryd.prog 28 #[.pointer (some ⟨g, 0, none⟩), .int .i64 0, .int .i64 1] w11 (fun e w' => ∃ (a b c : Int) (x : ByteArray) (p : Option Addr) (q r : Nat), e = .returned (.agg #[.int .i64 a, .int .i64 b, .int .i64 c, .string x, .slice p q r]) ∧ Kept g w11 w' ∧
                  ((∃ (er4 : Int) (at4 i4 m4 : Nat), er4 ≠ 0 ∧ X = .error (er4, at4) ∧ WSt all l.length g (.slice pv all.length cv) w' i4 m4 er4 (at4 : Int)) ∨
                  (∃ (ex : Ex) (i4 n4 d : Nat), us.length < 40 ∧ kindP (all.drop (j + 1)) = 1 ∧ isT wIs (all.drop (j + 1 + 1)) = true ∧ rd l.length 0 1 ex0 (all.drop (j + 1 + 1 + 1)) 0 = .ok (ex, all.drop i4, n4) ∧ (nextR l.length f (us.map (fun p => p.1)) (all.drop (j + 1))) = X ∧ WSt all l.length g (.slice pv all.length cv) w' i4 n4 0 0 ∧ a = ex.kind ∧ b = ex.a ∧ c = ex.b ∧ x = ⟨ex.name.toArray⟩ ∧ q = ex.kids.length ∧ KidsAt (fun k => w11.heap.size ≤ k) d w' (.slice p ex.kids.length r) ex.kids ∧ hgt ex ≤ 600))) := by
                refine (sum_one h0 h11 (by omega) (fun h => by rw [(HS3.out.2 h).1]; rfl)).mono ?_
                rintro e w' ⟨a, b, c, x, p, q, r, rfl, hk, hb, hg⟩
                exact ⟨a, b, c, x, p, q, r, rfl, hk, stp_sum HS3.out hb hg⟩
              clear HS3 h11
              go_wp2_with fail
              refine cS.mono ?_
              rintro e w12 ⟨a, b, c, x, p, q, r, rfl, hk12, hbg⟩
              have hs11 := hkp11.size
              have hs12 := hk12.size
              have hlx := lt_of_block hx11
              have hbX : Below w12.heap.size w12 (w12.alloc (.cells #[.int .i64 a, .int .i64 b, .int .i64 c, .string x, .slice p q r] 60)) := (Below.refl _ _).alloc (Nat.le_refl _) _
              have hk13 := hk12.trans (Kept.of_below hbX)
              have hx13 := hk13.at hx11 (by omega)
              have he13 := heap_alloc_new w12 (.cells #[.int .i64 a, .int .i64 b, .int .i64 c, .string x, .slice p q r] 60)
              have hrow13 := hrow11.kept hk13 hgl
              have hkp13 := hkp11.trans hk13
              clear cS hx11 hrow11 hkp11 hw11 hk13
              rcases hbg with ⟨er4, at4, i4, m4, hne4, hX4, h12⟩ | ⟨ex, i4, n4, d, h39, hK, hI, hRd, hY, h12, rfl, rfl, rfl, rfl, rfl, hkd, hh⟩
              · have h13 := h12.below hbX h0
                have cg4 := good_any h13
                rw [show (er4 == 0) = false by simpa using hne4] at cg4
                have cN4 := need_bad h0 h13 hne4 wSemi
                have HS6 : Hid ((er4 ≠ 0 → X = .error (er4, at4)) ∧ (er4 = 0 → at4 = 0 ∧ ∃ (ex : Ex) (d f : Nat), a = ex.kind ∧ b = ex.a ∧ c = ex.b ∧ x = ⟨ex.name.toArray⟩ ∧ q = ex.kids.length ∧ KidsAt (fun k => w3.heap.size ≤ k) d w12 (.slice p ex.kids.length r) ex.kids ∧ rulesR l.length f (us.map (fun p => p.1) ++ [(nm, ex)]) (all.drop i4) = X ∧ (all.drop i4).length < f ∧ us.length < 40)) := ⟨fun _ => hX4, fun h => absurd h hne4⟩
                clear h12 hbX hX4 hk12
                generalize hw13 : w12.alloc (.cells #[.int .i64 a, .int .i64 b, .int .i64 c, .string x, .slice p q r] 60) = w13 at *
                go_wp2_with fail
                refine cg4.mono ?_
                rintro e w' ⟨rfl, hw'⟩
                subst w'
                go_wp2_with fail
                refine cN4.mono ?_
                rintro e w14 ⟨rfl, h14, hk14⟩
                have hx14 := hk14.at hx13 (by omega)
                have he14 := hk14.at he13 (by omega)
                have hrow14 := hrow13.kept hk14 hgl
                have hkp14 := hkp13.trans hk14
                have HJ6 : Hid (j < i4 ∨ er4 ≠ 0) := .inr hne4
                replace HS6 : Hid ((er4 ≠ 0 → X = .error (er4, at4)) ∧ (er4 = 0 → at4 = 0 ∧ ∃ (ex : Ex) (d f : Nat), a = ex.kind ∧ b = ex.a ∧ c = ex.b ∧ x = ⟨ex.name.toArray⟩ ∧ q = ex.kids.length ∧ KidsAt (fun k => w3.heap.size ≤ k) d w14 (.slice p ex.kids.length r) ex.kids ∧ rulesR l.length f (us.map (fun p => p.1) ++ [(nm, ex)]) (all.drop i4) = X ∧ (all.drop i4).length < f ∧ us.length < 40)) := ⟨HS6.out.1, fun h => absurd h hne4⟩
                clear cg4 cN4 h13 hx13 he13 hrow13 hkp13 hk14 hw13 hne4
                have hb15 : Below w14.heap.size w14 (w14.alloc (.cells #[.string ⟨nm.toArray⟩, .int .i64 a, .int .i64 b, .int .i64 c, .string x, .slice p q r] 64)) := (Below.refl _ _).alloc (Nat.le_refl _) _
                have hrow15 := hrow14.kept (Kept.of_below (g := g) hb15) hgl
                have hkp15 := hkp14.trans (Kept.of_below hb15)
                have h15 := h14.below hb15 h0
                have hx15 := heap_alloc_new w14 (.cells #[.string ⟨nm.toArray⟩, .int .i64 a, .int .i64 b, .int .i64 c, .string x, .slice p q r] 64)
                have hs15 := hkp15.size
                have kt := (cell_of_row _ _ 3 _ _ _ hx14).trans rfl
                have HS7 : Hid ((er4 ≠ 0 → X = .error (er4, at4)) ∧ (er4 = 0 → at4 = 0 ∧ ∃ (ex : Ex) (d f : Nat), a = ex.kind ∧ b = ex.a ∧ c = ex.b ∧ x = ⟨ex.name.toArray⟩ ∧ q = ex.kids.length ∧ KidsAt (fun k => w3.heap.size ≤ k) d (w14.alloc (.cells #[.string ⟨nm.toArray⟩, .int .i64 a, .int .i64 b, .int .i64 c, .string x, .slice p q r] 64)) (.slice p ex.kids.length r) ex.kids ∧ rulesR l.length f (us.map (fun p => p.1) ++ [(nm, ex)]) (all.drop i4) = X ∧ (all.drop i4).length < f ∧ us.length < 40)) := by
                  refine ⟨HS6.out.1, fun he => ?_⟩
                  obtain ⟨h1, ex, d, f, e1, e2, e3, e4, e5, hk, h2⟩ := HS6.out.2 he
                  exact ⟨h1, ex, d, f, e1, e2, e3, e4, e5, hk.kept (fun k _ hl => hb15.block k hl), h2⟩
                have HJ : Hid (j < i4 ∨ er4 ≠ 0) := HJ6
                clear HS6 hrow14 hkp14 h14 hb15 HJ6
                generalize hw15 : w14.alloc (.cells #[.string ⟨nm.toArray⟩, .int .i64 a, .int .i64 b, .int .i64 c, .string x, .slice p q r] 64) = w15 at *
                go_wp2_with (first
                  | (refine wpList_load_row rfl 60 _ rfl _ rfl _ _ _ _ he14 exprType rfl (by kernel_rfl) ?_; clear he14)
                  | (at_builtin; refine wpList_append_own _ rfl _ _ 33 rfl w3.heap.size 64 i0 (.agg #[.string ⟨#[]⟩, .int .i64 0, .int .i64 0, .int .i64 0, .string ⟨#[]⟩, .slice none 0 0]) 6 80 rulesType hi hz0 hz1 hz2 rfl (by decide) (.slice pq us.length cq) us.length (flatR us) rfl hrow15.own ⟨w14.heap.size, 0, none⟩ 1 1 [.string ⟨nm.toArray⟩, .int .i64 a, .int .i64 b, .int .i64 c, .string x, .slice p q r] rfl rfl ?c1 ?c2 ?c3 ?c4 ?c5 ?_))
                case c1 =>
                  intro j u' hj
                  match j, hj with
                  | 0, hj => simp at hj; subst hj; exact (cell_of_row _ _ _ _ _ _ hx15).trans rfl
                  | 1, hj => simp at hj; subst hj; exact (cell_of_row _ _ _ _ _ _ hx15).trans rfl
                  | 2, hj => simp at hj; subst hj; exact (cell_of_row _ _ _ _ _ _ hx15).trans rfl
                  | 3, hj => simp at hj; subst hj; exact (cell_of_row _ _ _ _ _ _ hx15).trans rfl
                  | 4, hj => simp at hj; subst hj; exact (cell_of_row _ _ _ _ _ _ hx15).trans rfl
                  | 5, hj => simp at hj; subst hj; exact (cell_of_row _ _ _ _ _ _ hx15).trans rfl
                case c2 => intro u hu; simp at hu; rcases hu with rfl | rfl | rfl | rfl | rfl | rfl <;> rfl
                case c3 => unfold maxLen; omega
                case c4 => omega
                case c5 => exact hs15
                intro v' w16 hown' hgrow _
                obtain ⟨hrel', hmz1, hmz2⟩ := rulesW_next h0 hst hrow15 hkp15 hgrow h15 hown' HS7.out
                have HR : Hid (RulesW all l.length g (.slice pv all.length cv) w3 X v' w16) := hrel'
                have HM : Hid (mzOf all.length g w16 < mzOf all.length g wr) := by
                  show _ < _
                  rw [hmz]
                  by_cases he : er4 = 0
                  · have := hmz2 he
                    have := HJ.out.resolve_right (fun h => h he)
                    omega
                  · have := hmz1 he
                    omega
                clear hown' hgrow hrow15 hkp15 h15 hx15 hw15 hrel' hmz1 hmz2
                go_wp2_with fail
                go_roundw
                case rel => exact HR.out
                case measure => exact HM.out

              · have h13 := h12.below hbX h0
                have cg4 := good_any h13
                have hkd13 : KidsAt (fun k => w3.heap.size ≤ k) d (w12.alloc (.cells #[.int .i64 ex.kind, .int .i64 ex.a, .int .i64 ex.b, .string ⟨ex.name.toArray⟩, .slice p ex.kids.length r] 60)) (.slice p ex.kids.length r) ex.kids := (hkd.kept (fun k _ hl => hbX.block k hl)).mono (fun k hk => by omega)
                have cD := deep_any _ d ex (.slice p ex.kids.length r) _ hkd13 (by omega)
                unfold exV at cD
                have hij : j + 1 + 1 + 1 ≤ i4 := rd_pos (by omega) hRd h12.le (Nat.le_refl _) (by have := isT_len (by decide) hI; omega)
                clear hkd h12 hbX
                generalize hw13 : w12.alloc (.cells #[.int .i64 ex.kind, .int .i64 ex.a, .int .i64 ex.b, .string ⟨ex.name.toArray⟩, .slice p ex.kids.length r] 60) = w13 at *
                by_cases h4 : 40 < hgt ex
                · have h4' : (40 : Int) < (hgt ex : Int) := by omega
                  have HE : Hid (X = .error (4, atP l.length (all.drop i4))) := by
                    show _ = _
                    rw [← hY]; exact next_deep hK hI hRd h4
                  have cn := fun (W : World) (hW : WSt all l.length g (.slice pv all.length cv) W i4 n4 0 0) => next_any h0 hW
                  have cs := fun (W : World) (hW : WSt all l.length g (.slice pv all.length cv) W i4 n4 0 0) => stop_good h0 hW 4 (atP l.length (all.drop i4))
                  unfold tokV at cn
                  generalize hat4 : atP l.length (all.drop i4) = at4 at *
                  have cN4 := fun (W : World) (hW : WSt all l.length g (.slice pv all.length cv) W i4 n4 4 (at4 : Int)) => need_bad h0 hW (by decide) wSemi
                  have hh6 : (hgt ex : Int) ≤ 600 := by omega
                  generalize hgt ex = H at *
                  clear hK hI hRd hY hkd13 hat4
                  go_wp2_with fail
                  refine cg4.mono ?_
                  rintro e w' ⟨rfl, hw'⟩
                  subst w'
                  have e0 := (cell_of_row _ _ 0 _ _ _ he13).trans rfl
                  have e1 := (cell_of_row _ _ 1 _ _ _ he13).trans rfl
                  have e2 := (cell_of_row _ _ 2 _ _ _ he13).trans rfl
                  have e3 := (cell_of_row _ _ 3 _ _ _ he13).trans rfl
                  have e4 := (cell_of_row _ _ 4 _ _ _ he13).trans rfl
                  go_wp2_with fail
                  clear e0 e1 e2 e3 e4
                  refine cD.mono ?_
                  rintro e wD ⟨rfl, hbD⟩
                  have hD := h13.below hbD h0
                  have hkD := Kept.of_below (g := g) hbD
                  clear cg4 cD hbD hw13
                  go_wp2_with fail
                  refine (cn _ hD).mono ?_
                  rintro e wE ⟨rfl, hbE⟩
                  have hE := hD.below hbE h0
                  have hkE := hkD.trans (Kept.of_below hbE)
                  clear cn hbE hD hkD
                  go_wp2_with fail
                  refine (cs _ hE).mono ?_
                  rintro e wF ⟨rfl, hF, hkF'⟩
                  have hkF := hkE.trans hkF'
                  clear cs hkF' hE hkE
                  go_wp2_with fail
                  refine (cN4 _ hF).mono ?_
                  rintro e w14 ⟨rfl, h14', hk14'⟩
                  have hk14 := hkF.trans hk14'
                  obtain ⟨er5, h14, HS6, HJ6⟩ : ∃ er5 : Int, WSt all l.length g (.slice pv all.length cv) w14 i4 n4 er5 (at4 : Int) ∧ Hid ((er5 ≠ 0 → X = .error (er5, at4)) ∧ (er5 = 0 → at4 = 0 ∧ ∃ (ex' : Ex) (d f : Nat), ex.kind = ex'.kind ∧ ex.a = ex'.a ∧ ex.b = ex'.b ∧ (⟨ex.name.toArray⟩ : ByteArray) = ⟨ex'.name.toArray⟩ ∧ ex.kids.length = ex'.kids.length ∧ KidsAt (fun k => w3.heap.size ≤ k) d w14 (.slice p ex'.kids.length r) ex'.kids ∧ rulesR l.length f (us.map (fun p => p.1) ++ [(nm, ex')]) (all.drop i4) = X ∧ (all.drop i4).length < f ∧ us.length < 40)) ∧ Hid (j < i4 ∨ er5 ≠ 0) := ⟨4, h14', ⟨fun _ => HE.out, fun h => absurd h (by decide)⟩, .inr (by decide)⟩
                  have hx14 := hk14.at hx13 (by omega)
                  have he14 := hk14.at he13 (by omega)
                  have hrow14 := hrow13.kept hk14 hgl
                  have hkp14 := hkp13.trans hk14
                  clear cN4 h14' hk14' hk14 hkF hF hx13 he13 hrow13 hkp13 h13 HE
                  have hb15 : Below w14.heap.size w14 (w14.alloc (.cells #[.string ⟨nm.toArray⟩, .int .i64 ex.kind, .int .i64 ex.a, .int .i64 ex.b, .string ⟨ex.name.toArray⟩, .slice p ex.kids.length r] 64)) := (Below.refl _ _).alloc (Nat.le_refl _) _
                  have hrow15 := hrow14.kept (Kept.of_below (g := g) hb15) hgl
                  have hkp15 := hkp14.trans (Kept.of_below hb15)
                  have h15 := h14.below hb15 h0
                  have hx15 := heap_alloc_new w14 (.cells #[.string ⟨nm.toArray⟩, .int .i64 ex.kind, .int .i64 ex.a, .int .i64 ex.b, .string ⟨ex.name.toArray⟩, .slice p ex.kids.length r] 64)
                  have hs15 := hkp15.size
                  have kt := (cell_of_row _ _ 3 _ _ _ hx14).trans rfl
                  have HS7 : Hid ((er5 ≠ 0 → X = .error (er5, at4)) ∧ (er5 = 0 → at4 = 0 ∧ ∃ (ex' : Ex) (d f : Nat), ex.kind = ex'.kind ∧ ex.a = ex'.a ∧ ex.b = ex'.b ∧ (⟨ex.name.toArray⟩ : ByteArray) = ⟨ex'.name.toArray⟩ ∧ ex.kids.length = ex'.kids.length ∧ KidsAt (fun k => w3.heap.size ≤ k) d (w14.alloc (.cells #[.string ⟨nm.toArray⟩, .int .i64 ex.kind, .int .i64 ex.a, .int .i64 ex.b, .string ⟨ex.name.toArray⟩, .slice p ex.kids.length r] 64)) (.slice p ex'.kids.length r) ex'.kids ∧ rulesR l.length f (us.map (fun p => p.1) ++ [(nm, ex')]) (all.drop i4) = X ∧ (all.drop i4).length < f ∧ us.length < 40)) := by
                    refine ⟨HS6.out.1, fun he => ?_⟩
                    obtain ⟨h1, ex', d, f, e1, e2, e3, e4, e5, hk, h2⟩ := HS6.out.2 he
                    exact ⟨h1, ex', d, f, e1, e2, e3, e4, e5, hk.kept (fun k _ hl => hb15.block k hl), h2⟩
                  have HJ : Hid (j < i4 ∨ er5 ≠ 0) := HJ6
                  clear HS6 hrow14 hkp14 h14 hb15 HJ6
                  generalize hw15 : w14.alloc (.cells #[.string ⟨nm.toArray⟩, .int .i64 ex.kind, .int .i64 ex.a, .int .i64 ex.b, .string ⟨ex.name.toArray⟩, .slice p ex.kids.length r] 64) = w15 at *
                  go_wp2_with (first
                    | (refine wpList_load_row rfl 60 _ rfl _ rfl _ _ _ _ he14 exprType rfl (by kernel_rfl) ?_; clear he14)
                    | (at_builtin; refine wpList_append_own _ rfl _ _ 33 rfl w3.heap.size 64 i0 (.agg #[.string ⟨#[]⟩, .int .i64 0, .int .i64 0, .int .i64 0, .string ⟨#[]⟩, .slice none 0 0]) 6 80 rulesType hi hz0 hz1 hz2 rfl (by decide) (.slice pq us.length cq) us.length (flatR us) rfl hrow15.own ⟨w14.heap.size, 0, none⟩ 1 1 [.string ⟨nm.toArray⟩, .int .i64 ex.kind, .int .i64 ex.a, .int .i64 ex.b, .string ⟨ex.name.toArray⟩, .slice p ex.kids.length r] rfl rfl ?c1 ?c2 ?c3 ?c4 ?c5 ?_))
                  case c1 =>
                    intro j u' hj
                    match j, hj with
                    | 0, hj => simp at hj; subst hj; exact (cell_of_row _ _ _ _ _ _ hx15).trans rfl
                    | 1, hj => simp at hj; subst hj; exact (cell_of_row _ _ _ _ _ _ hx15).trans rfl
                    | 2, hj => simp at hj; subst hj; exact (cell_of_row _ _ _ _ _ _ hx15).trans rfl
                    | 3, hj => simp at hj; subst hj; exact (cell_of_row _ _ _ _ _ _ hx15).trans rfl
                    | 4, hj => simp at hj; subst hj; exact (cell_of_row _ _ _ _ _ _ hx15).trans rfl
                    | 5, hj => simp at hj; subst hj; exact (cell_of_row _ _ _ _ _ _ hx15).trans rfl
                  case c2 => intro u hu; simp at hu; rcases hu with rfl | rfl | rfl | rfl | rfl | rfl <;> rfl
                  case c3 => unfold maxLen; omega
                  case c4 => omega
                  case c5 => exact hs15
                  intro v' w16 hown' hgrow _
                  obtain ⟨hrel', hmz1, hmz2⟩ := rulesW_next h0 hst hrow15 hkp15 hgrow h15 hown' HS7.out
                  have HR : Hid (RulesW all l.length g (.slice pv all.length cv) w3 X v' w16) := hrel'
                  have HM : Hid (mzOf all.length g w16 < mzOf all.length g wr) := by
                    show _ < _
                    rw [hmz]
                    by_cases he : er5 = 0
                    · have := hmz2 he
                      have := HJ.out.resolve_right (fun h => h he)
                      omega
                    · have := hmz1 he
                      omega
                  clear hown' hgrow hrow15 hkp15 h15 hx15 hw15 hrel' hmz1 hmz2
                  go_wp2_with fail
                  go_roundw
                  case rel => exact HR.out
                  case measure => exact HM.out

                · have h4' : ¬ (40 : Int) < (hgt ex : Int) := by omega
                  have HKD : Hid (KidsAt (fun k => w3.heap.size ≤ k) d w13 (.slice p ex.kids.length r) ex.kids) := hkd13
                  have HNX : Hid ((isT wSemi (all.drop i4) = false → X = .error (2, atP l.length (all.drop i4))) ∧ (isT wSemi (all.drop i4) = true → rulesR l.length f (us.map (fun p => p.1) ++ [(nm, ex)]) (all.drop (i4 + 1)) = X)) := by
                    refine ⟨fun h5 => ?_, fun h5 => ?_⟩
                    · rw [← hY]; exact next_semi hK hI hRd h4 h5
                    · rw [← hY, next_ok hK hI hRd h4 h5, hnm]
                  have cN4 := fun (W : World) (hW : WSt all l.length g (.slice pv all.length cv) W i4 n4 0 0) => need_one h0 hW wSemi (by decide) (by decide)
                  have hh6 : (hgt ex : Int) ≤ 600 := by omega
                  generalize hgt ex = H at *
                  clear hK hI hRd hY hkd13
                  go_wp2_with fail
                  refine cg4.mono ?_
                  rintro e w' ⟨rfl, hw'⟩
                  subst w'
                  have e0 := (cell_of_row _ _ 0 _ _ _ he13).trans rfl
                  have e1 := (cell_of_row _ _ 1 _ _ _ he13).trans rfl
                  have e2 := (cell_of_row _ _ 2 _ _ _ he13).trans rfl
                  have e3 := (cell_of_row _ _ 3 _ _ _ he13).trans rfl
                  have e4 := (cell_of_row _ _ 4 _ _ _ he13).trans rfl
                  go_wp2_with fail
                  clear e0 e1 e2 e3 e4
                  refine cD.mono ?_
                  rintro e wD ⟨rfl, hbD⟩
                  have hD := h13.below hbD h0
                  have hkD := Kept.of_below (g := g) hbD
                  clear cg4 cD hbD hw13
                  go_wp2_with fail
                  refine (cN4 _ hD).mono ?_
                  rintro e w14 ⟨rfl, hk14', -, hy, hn⟩
                  have hk14 := hkD.trans hk14'
                  obtain ⟨er5, at5, i5, h14, HS6, HJ6⟩ : ∃ (er5 : Int) (at5 i5 : Nat), WSt all l.length g (.slice pv all.length cv) w14 i5 n4 er5 (at5 : Int) ∧ Hid ((er5 ≠ 0 → X = .error (er5, at5)) ∧ (er5 = 0 → at5 = 0 ∧ ∃ (ex' : Ex) (d f : Nat), ex.kind = ex'.kind ∧ ex.a = ex'.a ∧ ex.b = ex'.b ∧ (⟨ex.name.toArray⟩ : ByteArray) = ⟨ex'.name.toArray⟩ ∧ ex.kids.length = ex'.kids.length ∧ KidsAt (fun k => w3.heap.size ≤ k) d w14 (.slice p ex'.kids.length r) ex'.kids ∧ rulesR l.length f (us.map (fun p => p.1) ++ [(nm, ex')]) (all.drop i5) = X ∧ (all.drop i5).length < f ∧ us.length < 40)) ∧ Hid (j < i5 ∨ er5 ≠ 0) := by
                    cases hT : isT wSemi (all.drop i4) with
                    | true => exact ⟨0, 0, i4 + 1, hy (by trivial) hT, ⟨fun h => absurd rfl h, fun _ => ⟨rfl, ex, d, f, rfl, rfl, rfl, rfl, rfl, hk14.kids (fun k hk => by omega) HKD.out, HNX.out.2 hT, by simp only [List.length_drop] at hf ⊢; omega, h39⟩⟩, .inl (by omega)⟩
                    | false => exact ⟨2, _, i4, hn (by trivial) hT, ⟨fun _ => HNX.out.1 hT, fun h => absurd h (by decide)⟩, .inr (by decide)⟩
                  have hx14 := hk14.at hx13 (by omega)
                  have he14 := hk14.at he13 (by omega)
                  have hrow14 := hrow13.kept hk14 hgl
                  have hkp14 := hkp13.trans hk14
                  clear cN4 hk14' hk14 hkD hD hx13 he13 hrow13 hkp13 h13 HKD HNX hy hn
                  have hb15 : Below w14.heap.size w14 (w14.alloc (.cells #[.string ⟨nm.toArray⟩, .int .i64 ex.kind, .int .i64 ex.a, .int .i64 ex.b, .string ⟨ex.name.toArray⟩, .slice p ex.kids.length r] 64)) := (Below.refl _ _).alloc (Nat.le_refl _) _
                  have hrow15 := hrow14.kept (Kept.of_below (g := g) hb15) hgl
                  have hkp15 := hkp14.trans (Kept.of_below hb15)
                  have h15 := h14.below hb15 h0
                  have hx15 := heap_alloc_new w14 (.cells #[.string ⟨nm.toArray⟩, .int .i64 ex.kind, .int .i64 ex.a, .int .i64 ex.b, .string ⟨ex.name.toArray⟩, .slice p ex.kids.length r] 64)
                  have hs15 := hkp15.size
                  have kt := (cell_of_row _ _ 3 _ _ _ hx14).trans rfl
                  have HS7 : Hid ((er5 ≠ 0 → X = .error (er5, at5)) ∧ (er5 = 0 → at5 = 0 ∧ ∃ (ex' : Ex) (d f : Nat), ex.kind = ex'.kind ∧ ex.a = ex'.a ∧ ex.b = ex'.b ∧ (⟨ex.name.toArray⟩ : ByteArray) = ⟨ex'.name.toArray⟩ ∧ ex.kids.length = ex'.kids.length ∧ KidsAt (fun k => w3.heap.size ≤ k) d (w14.alloc (.cells #[.string ⟨nm.toArray⟩, .int .i64 ex.kind, .int .i64 ex.a, .int .i64 ex.b, .string ⟨ex.name.toArray⟩, .slice p ex.kids.length r] 64)) (.slice p ex'.kids.length r) ex'.kids ∧ rulesR l.length f (us.map (fun p => p.1) ++ [(nm, ex')]) (all.drop i5) = X ∧ (all.drop i5).length < f ∧ us.length < 40)) := by
                    refine ⟨HS6.out.1, fun he => ?_⟩
                    obtain ⟨h1, ex', d, f, e1, e2, e3, e4, e5, hk, h2⟩ := HS6.out.2 he
                    exact ⟨h1, ex', d, f, e1, e2, e3, e4, e5, hk.kept (fun k _ hl => hb15.block k hl), h2⟩
                  have HJ : Hid (j < i5 ∨ er5 ≠ 0) := HJ6
                  clear HS6 hrow14 hkp14 h14 hb15 HJ6
                  generalize hw15 : w14.alloc (.cells #[.string ⟨nm.toArray⟩, .int .i64 ex.kind, .int .i64 ex.a, .int .i64 ex.b, .string ⟨ex.name.toArray⟩, .slice p ex.kids.length r] 64) = w15 at *
                  go_wp2_with (first
                    | (refine wpList_load_row rfl 60 _ rfl _ rfl _ _ _ _ he14 exprType rfl (by kernel_rfl) ?_; clear he14)
                    | (at_builtin; refine wpList_append_own _ rfl _ _ 33 rfl w3.heap.size 64 i0 (.agg #[.string ⟨#[]⟩, .int .i64 0, .int .i64 0, .int .i64 0, .string ⟨#[]⟩, .slice none 0 0]) 6 80 rulesType hi hz0 hz1 hz2 rfl (by decide) (.slice pq us.length cq) us.length (flatR us) rfl hrow15.own ⟨w14.heap.size, 0, none⟩ 1 1 [.string ⟨nm.toArray⟩, .int .i64 ex.kind, .int .i64 ex.a, .int .i64 ex.b, .string ⟨ex.name.toArray⟩, .slice p ex.kids.length r] rfl rfl ?c1 ?c2 ?c3 ?c4 ?c5 ?_))
                  case c1 =>
                    intro j u' hj
                    match j, hj with
                    | 0, hj => simp at hj; subst hj; exact (cell_of_row _ _ _ _ _ _ hx15).trans rfl
                    | 1, hj => simp at hj; subst hj; exact (cell_of_row _ _ _ _ _ _ hx15).trans rfl
                    | 2, hj => simp at hj; subst hj; exact (cell_of_row _ _ _ _ _ _ hx15).trans rfl
                    | 3, hj => simp at hj; subst hj; exact (cell_of_row _ _ _ _ _ _ hx15).trans rfl
                    | 4, hj => simp at hj; subst hj; exact (cell_of_row _ _ _ _ _ _ hx15).trans rfl
                    | 5, hj => simp at hj; subst hj; exact (cell_of_row _ _ _ _ _ _ hx15).trans rfl
                  case c2 => intro u hu; simp at hu; rcases hu with rfl | rfl | rfl | rfl | rfl | rfl <;> rfl
                  case c3 => unfold maxLen; omega
                  case c4 => omega
                  case c5 => exact hs15
                  intro v' w16 hown' hgrow _
                  obtain ⟨hrel', hmz1, hmz2⟩ := rulesW_next h0 hst hrow15 hkp15 hgrow h15 hown' HS7.out
                  have HR : Hid (RulesW all l.length g (.slice pv all.length cv) w3 X v' w16) := hrel'
                  have HM : Hid (mzOf all.length g w16 < mzOf all.length g wr) := by
                    show _ < _
                    rw [hmz]
                    by_cases he : er5 = 0
                    · have := hmz2 he
                      have := HJ.out.resolve_right (fun h => h he)
                      omega
                    · have := hmz1 he
                      omega
                  clear hown' hgrow hrow15 hkp15 h15 hx15 hw15 hrel' hmz1 hmz2
                  go_wp2_with fail
                  go_roundw
                  case rel => exact HR.out
                  case measure => exact HM.out
          · have hR' : isT wRule (all.drop j) = false := by simpa using hR
            rw [if_neg hR] at hXr
            rw [hR'] at c2
            have cn := fun (W : World) (hW : WSt all l.length g (.slice pv all.length cv) W j m 0 0) => next_any h0 hW
            have cs := fun (W : World) (hW : WSt all l.length g (.slice pv all.length cv) W j m 0 0) => stop_good h0 hW 2 (atP l.length (all.drop j))
            unfold tokV at cn
            have HE : Hid (X = .error (2, atP l.length (all.drop j))) := hXr.symm
            generalize hat1 : atP l.length (all.drop j) = at1 at *
            clear hXr hR hR' hat1
            go_wp2_with fail
            refine cg.mono ?_
            rintro e w' ⟨rfl, hw'⟩
            subst w'
            go_wp2_with fail
            refine c2.mono ?_
            rintro e w4 ⟨rfl, hb4⟩
            have h4 := hstr.below hb4 h0
            have hkp4 := hkp.trans (Kept.of_below hb4)
            go_wp2_with fail
            refine (cn _ h4).mono ?_
            rintro e w5 ⟨rfl, hb5⟩
            have h5 := h4.below hb5 h0
            have hkp5 := hkp4.trans (Kept.of_below hb5)
            go_wp2_with fail
            refine (cs _ h5).mono ?_
            rintro e w6 ⟨rfl, hB, hk6⟩
            have hkpB := hkp5.trans hk6
            have hneB : (2 : Int) ≠ 0 := by decide
            clear cg c2 cn cs h4 h5 hkp4 hkp5 hk6 hb4 hb5 k0 k1 hstr hkp hrow hrown
            generalize hE1 : (2 : Int) = erB at *
            clear hE1
            have cgB := good_any hB
            rw [show (erB == 0) = false by simpa using hneB] at cgB
            have HP : Hid (∀ w', PTells l w w' (.slice none 0 0) erB (at1 : Int)) := fun w' => HT.out erB at1 w' HE.out
            have hrF := hkpB.at hr3 (by omega)
            have hbF := below_of_kept hb3w (by omega) hkpB
            have k4 := (cell_of_row _ _ 4 _ _ _ hB.blk).trans rfl
            have k5 := (cell_of_row _ _ 5 _ _ _ hB.blk).trans rfl
            have z0 := (cell_of_row _ _ 0 _ _ _ hrF).trans rfl
            have z1 := (cell_of_row _ _ 1 _ _ _ hrF).trans rfl
            have y0 := frozen_of_row _ _ 0 _ _ hrF
            have y1 := frozen_of_row _ _ 1 _ _ hrF
            have hmF : ((w6.setCell ⟨w.heap.size, 0, none⟩ (.int .i64 erB)).setCell ⟨w.heap.size, 1, none⟩ (.int .i64 (at1 : Int))).heap[w.heap.size]? = some (.cells #[.int .i64 erB, .int .i64 (at1 : Int)] 26 (0, 0)) := heap_setCell_same _ _ 1 _ _ _ (heap_setCell_same _ _ 0 _ _ _ hrF)
            have hbS := (hbF.setCell (p := ⟨w.heap.size, 0, none⟩) (Nat.le_refl _) (.int .i64 erB)).setCell (p := ⟨w.heap.size, 1, none⟩) (Nat.le_refl _) (.int .i64 (at1 : Int))
            go_wp2_with fail
            refine cgB.mono ?_
            rintro e w' ⟨rfl, hw'⟩
            subst w'
            clear cgB
            go_wp2_with fail
            go_region
            go_wp2_with fail
            exact rparse_post w.heap.size (.slice none 0 0) erB (at1 : Int) rfl rfl rfl hmF ⟨⟨_, _, _, rfl, HP.out _⟩, below_drewN hbS 1⟩
        · have hlt' : ¬ (j : Int) < (all.length : Int) := by omega
          rw [rulesR_end (by simp; omega)] at hXr
          have hrF := hkp.at hr3 (by omega)
          have hbF := below_of_kept hb3w (by omega) hkp
          have HP : Hid (∀ cs, PTells l w (wr.setRow w.heap.size cs) u7 0 0) := fun cs => HU.out us u7 _ hXr.symm h40 (hrow.later (fun k hk => setRow_other _ _ _ _ (by omega)) (by omega))
          clear hXr hrow hrown eq hkp
          go_wp2_with fail
          refine cg.mono ?_
          rintro e w' ⟨rfl, hw'⟩
          subst w'
          have cg2 := good_any hstr
          go_wp2_with fail
          refine cg2.mono ?_
          rintro e w' ⟨rfl, hw'⟩
          subst w'
          clear cg cg2 hstr k0 k1
          go_wp2_with (refine wpList_store_row rfl 26 _ _ rfl _ _ rfl rfl _ _ hrF (by kernel_rfl) (by simp) (by simp [Value.oneCell']) ?_)
          exact rparse_post w.heap.size u7 0 0 rfl rfl rfl (setRow_heap _ _ _ _ _ _ hrF) ⟨⟨_, _, _, rfl, HP.out _⟩, below_setRow hbF (Nat.le_refl _) _⟩
      · have cg := good_any hstr
        rw [show (er == 0) = false by simpa using hne] at cg
        have HE : Hid (X = .error (er, at1)) := hXe
        clear hXe
        go_wp2_with fail
        refine cg.mono ?_
        rintro e w' ⟨rfl, hw'⟩
        subst w'
        have hB := hstr
        have hkpB := hkp
        have hneB := hne
        clear cg hstr hkp hne
        have cgB := good_any hB
        rw [show (er == 0) = false by simpa using hneB] at cgB
        have HP : Hid (∀ w', PTells l w w' (.slice none 0 0) er (at1 : Int)) := fun w' => HT.out er at1 w' HE.out
        have hrF := hkpB.at hr3 (by omega)
        have hbF := below_of_kept hb3w (by omega) hkpB
        have k4 := (cell_of_row _ _ 4 _ _ _ hB.blk).trans rfl
        have k5 := (cell_of_row _ _ 5 _ _ _ hB.blk).trans rfl
        have z0 := (cell_of_row _ _ 0 _ _ _ hrF).trans rfl
        have z1 := (cell_of_row _ _ 1 _ _ _ hrF).trans rfl
        have y0 := frozen_of_row _ _ 0 _ _ hrF
        have y1 := frozen_of_row _ _ 1 _ _ hrF
        have hmF : ((wr.setCell ⟨w.heap.size, 0, none⟩ (.int .i64 er)).setCell ⟨w.heap.size, 1, none⟩ (.int .i64 (at1 : Int))).heap[w.heap.size]? = some (.cells #[.int .i64 er, .int .i64 (at1 : Int)] 26 (0, 0)) := heap_setCell_same _ _ 1 _ _ _ (heap_setCell_same _ _ 0 _ _ _ hrF)
        have hbS := (hbF.setCell (p := ⟨w.heap.size, 0, none⟩) (Nat.le_refl _) (.int .i64 er)).setCell (p := ⟨w.heap.size, 1, none⟩) (Nat.le_refl _) (.int .i64 (at1 : Int))
        go_wp2_with fail
        refine cgB.mono ?_
        rintro e w' ⟨rfl, hw'⟩
        subst w'
        clear cgB
        go_wp2_with fail
        go_region
        go_wp2_with fail
        exact rparse_post w.heap.size (.slice none 0 0) er (at1 : Int) rfl rfl rfl hmF ⟨⟨_, _, _, rfl, HP.out _⟩, below_drewN hbS 1⟩
  · have HP : Hid (∀ w', PTells l w w' (.slice none 0 0) er at_) := fun w' => by
      rcases hx with ⟨h1, h2, h3, h4⟩ | ⟨ts, k, h1, h2, h3, h4, h5, h6, h7⟩ | ⟨ts, k, h1, h2, h3, h4, h5, h6⟩
      · exact .inl ⟨h1, rfl, h3, h4⟩
      · exact .inr (.inl ⟨ts, k, h1, h2, h3, h4, rfl, h6, h7⟩)
      · exact absurd h5 he
    have hne : (er != 0) = true := by simpa using he
    have d0 := (cell_of_row _ _ 0 _ _ _ hf2).trans rfl
    have d1 := (cell_of_row _ _ 1 _ _ _ hf2).trans rfl
    have z0 := (cell_of_row _ _ 0 _ _ _ hr2).trans rfl
    have z1 := (cell_of_row _ _ 1 _ _ _ hr2).trans rfl
    have y0 := frozen_of_row _ _ 0 _ _ hr2
    have y1 := frozen_of_row _ _ 1 _ _ hr2
    clear hx he
    generalize hW2 : w1.alloc (.cells #[.int .i64 er, .int .i64 at_] 26) = w2 at *
    have hmF : ((w2.setCell ⟨w.heap.size, 0, none⟩ (.int .i64 er)).setCell ⟨w.heap.size, 1, none⟩ (.int .i64 at_)).heap[w.heap.size]? = some (.cells #[.int .i64 er, .int .i64 at_] 26 (0, 0)) := heap_setCell_same _ _ 1 _ _ _ (heap_setCell_same _ _ 0 _ _ _ hr2)
    have hbS := (hb2w.setCell (p := ⟨w.heap.size, 0, none⟩) (Nat.le_refl _) (.int .i64 er)).setCell (p := ⟨w.heap.size, 1, none⟩) (Nat.le_refl _) (.int .i64 at_)
    go_wp2_with fail
    go_region
    go_wp2_with fail
    exact rparse_post w.heap.size (.slice none 0 0) er at_ rfl rfl rfl hmF ⟨⟨_, _, _, rfl, HP.out _⟩, below_drewN hbS 1⟩
end Go.Proofs.YtggcepicghibjacDoor
