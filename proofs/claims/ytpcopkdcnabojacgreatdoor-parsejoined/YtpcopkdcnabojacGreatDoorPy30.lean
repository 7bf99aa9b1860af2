/- What the law ParseJoined comes to. -/
import Derived.Test.YtpcopkdcnabojacGreatDoorPy29
import Derived.Test.YtpcopkdcnabojacGreatDoorPy18
import Derived.Test.YtpcopkdcnabojacGreatDoorPy26
import Derived.Test.YtpcopkdcnabojacGreatDoorCards
import Derived.Test.YtpcopkdcnabojacGreatDoorTie
import Derived.ProofKit
import Derived.LaidMore
import Derived.OpenShut
import Derived.Stop.Joined
import Derived.SevenTiedAt
import Derived.Lib.SmallJoins
import Derived.Lib.LaidTab
namespace Go.Proofs.YtpcopkdcnabojacGreatDoor
open Go.RowKit Lx

theorem flatR_append : ∀ a b : List (Ru × Value), flatR (a ++ b) = flatR a ++ flatR b
  | [], _ => rfl
  | p :: a, b => by simp [flatR, flatR_append a b]
theorem ptells_form {l : List UInt8} {w0 w : World} {v : Value} {er at_ : Int} (h : PTells l w0 w v er at_) : ∃ p n c, v = .slice p n c ∧ n ≤ 40 ∧ ∀ us, RowR w0 w v us → us.length = n := by
  have aux : ∀ us : List (Ru × Value), RowR w0 w (.slice none 0 0) us → us.length = 0 := fun us hu => by
    obtain ⟨p, c, e⟩ := row_form hu.own
    injection e with _ e2
    exact e2.symm
  rcases h with ⟨_, rfl, _⟩ | ⟨_, _, _, _, _, _, rfl, _⟩ | ⟨_, _, _, _, _, _, _, _, rfl, _⟩ | ⟨_, _, us, _, _, _, _, h40, hr, _⟩
  · exact ⟨none, 0, 0, rfl, by omega, aux⟩
  · exact ⟨none, 0, 0, rfl, by omega, aux⟩
  · exact ⟨none, 0, 0, rfl, by omega, aux⟩
  · obtain ⟨p, c, e⟩ := row_form hr.own
    refine ⟨p, us.length, c, e, h40, fun us' hr' => ?_⟩
    obtain ⟨p', c', e'⟩ := row_form hr'.own
    rw [e] at e'
    injection e' with _ e2
    exact e2.symm
theorem kidsR_later {B : Nat → Prop} {w w' : World} {us : List (Ru × Value)} (h : ∀ p ∈ us, ∃ d, KidsAt B d w p.2 p.1.2.kids) (hb : Below w.heap.size w w') : KidsR B w' us := fun p hp => by
  obtain ⟨d, hd⟩ := h p hp
  exact ⟨d, hd.kept fun k _ hl => hb.block k hl⟩
theorem flatR_one (us : List (Ru × Value)) (hf : ∀ p ∈ us, ∃ q n c, p.2 = .slice q n c) : ∀ u ∈ flatR us, u.oneCell' = true := by
  induction us with
  | nil => intro u hu; simp [flatR] at hu
  | cons p us ih =>
    intro u hu
    obtain ⟨q, n, c, e⟩ := hf p List.mem_cons_self
    simp only [flatR, e, List.mem_cons] at hu
    rcases hu with rfl | rfl | rfl | rfl | rfl | rfl | hu
    · rfl
    · rfl
    · rfl
    · rfl
    · rfl
    · rfl
    · exact ih (fun p hp => hf p (List.mem_cons_of_mem _ hp)) u hu
set_option maxRecDepth 100000 in
set_option maxHeartbeats 8000000 in
theorem pjoined_walk (s t : ByteArray) (hls : s.size ≤ 140737488355328) (hlt : t.size ≤ 140737488355328) (w : World) (hPT : PTb w.heap.size w) :
    Calls Tryz.prog 5 #[.string s, .string t] w fun e w' => e = .returned (.bool true) ∧ Below w.heap.size w w' := by
  obtain ⟨l, hs⟩ : ∃ l, s.data.toList = l := ⟨_, rfl⟩
  obtain ⟨m, ht⟩ : ∃ m, t.data.toList = m := ⟨_, rfl⟩
  have hzs : s.size = l.length := by rw [← hs, Lib.size_eq]
  have hzt : t.size = m.length := by rw [← ht, Lib.size_eq]
  have c0 := alive4_any w hPT
  have c1 := fun (W : World) (hW : Below w.heap.size w W) => parse_any s l hs (by omega) W (hPT W hW).1 (hPT W hW).2.1
  have c2 := fun (W : World) (hW : Below w.heap.size w W) => parse_any t m ht (by omega) W (hPT W hW).1 (hPT W hW).2.1
  have c3 := fun (W : World) (hW : Below w.heap.size w W) => parse_any (s ++ ⟨#[10]⟩ ++ t) (l ++ 10 :: m) (by rw [cat_data, hs, ht]) (by simp; omega) W (hPT W hW).1 (hPT W hW).2.1
  obtain ⟨i0, hi, hz0, hz1, hz2⟩ := info_parts ruleInfo
  have hsI : (s.size : Int) ≤ 140737488355328 := by omega
  have htI : (t.size : Int) ≤ 140737488355328 := by omega
  clear hPT hs ht
  go_enter Tryz.func5, Tryz.ntmps5
  go_wp2_with fail
  refine c0.mono ?_
  rintro e w0 ⟨rfl, hb0⟩
  have d1 := c1 w0 hb0
  clear c0 c1
  go_wp2_with fail
  refine d1.mono ?_
  rintro e w1 ⟨⟨v1, er1, at1, rfl, h1⟩, hb1⟩
  obtain ⟨p1, n1, k1, rfl, hn1, hu1⟩ := ptells_form h1
  have hb1w := hb0.trans (hb1.mono hb0.size)
  have hb1a := hb1w.alloc hb1w.size (.cells #[.int .i64 er1, .int .i64 at1] 26)
  have hf1 := heap_alloc_new w1 (.cells #[.int .i64 er1, .int .i64 at1] 26)
  have bx := (Below.refl _ w1).alloc (Nat.le_refl _) (.cells #[.int .i64 er1, .int .i64 at1] 26)
  have d2 := c2 _ hb1a
  clear d1 c2
  go_wp2_with fail
  refine d2.mono ?_
  rintro e w2 ⟨⟨v2, er2, at2, rfl, h2⟩, hb2⟩
  obtain ⟨p2, n2, k2, rfl, hn2, hu2⟩ := ptells_form h2
  have hb2w := hb1a.trans (hb2.mono hb1a.size)
  have hb2a := hb2w.alloc hb2w.size (.cells #[.int .i64 er2, .int .i64 at2] 26)
  have hf1b := (Below.heap_alloc w2 (.cells #[.int .i64 er2, .int .i64 at2] 26) _ (lt_of_block ((hb2.block _ (lt_of_block hf1)).trans hf1))).trans ((hb2.block _ (lt_of_block hf1)).trans hf1)
  have hf2 := heap_alloc_new w2 (.cells #[.int .i64 er2, .int .i64 at2] 26)
  have by2 := bx.trans (hb2.mono bx.size)
  have b12 := by2.alloc by2.size (.cells #[.int .i64 er2, .int .i64 at2] 26)
  have b22 := (Below.refl _ w2).alloc (Nat.le_refl _) (.cells #[.int .i64 er2, .int .i64 at2] 26)
  clear d2 hf1 hb1a hb1w hb2w bx by2 hb2 hb1 hb0
  generalize hW2 : w2.alloc (.cells #[.int .i64 er2, .int .i64 at2] 26) = W2 at *
  have a0 := (cell_of_row _ _ 0 _ _ _ hf1b).trans rfl
  have b0 := (cell_of_row _ _ 0 _ _ _ hf2).trans rfl
  by_cases e1 : er1 = 0
  · subst e1
    by_cases e2 : er2 = 0
    · subst e2
      by_cases hl6 : l.length + m.length + 1 ≤ 6000
      · have hg6 : ¬ (6000 : Int) < (s.size : Int) + (t.size : Int) + 1 := by omega
        by_cases h40 : n1 + n2 ≤ 40
        · have hg40 : ¬ (40 : Int) < (n1 : Int) + (n2 : Int) := by omega
          have hn1I : (n1 : Int) ≤ 40 := by omega
          have hn2I : (n2 : Int) ≤ 40 := by omega
          clear hzs hzt
          have q1 : ¬ 9223372036854775807 < s.size + 1 := by omega
          have q2 : ¬ 9223372036854775807 < s.size + 1 + t.size := by omega
          have d3 := c3 W2 hb2a
          clear c3
          go_wp2_with fail
          refine d3.mono ?_
          rintro e w3 ⟨⟨v3, er3, at3, rfl, h3⟩, hb3⟩
          obtain ⟨rfl, us1, us2, us3, r1, r2, r3, hmap⟩ := ptells_joined h1 h2 h3 (by omega) (fun us us' ha hb => by have := hu1 us ha; have := hu2 us' hb; omega)
          obtain ⟨p3, n3, k3, rfl, hn3, hu3⟩ := ptells_form h3
          have bF := (Below.refl _ w3).alloc (Nat.le_refl _) (.cells #[.int .i64 0, .int .i64 at3] 26)
          have hf3 := heap_alloc_new w3 (.cells #[.int .i64 0, .int .i64 at3] 26)
          have hb3w := hb2a.trans ((hb3.trans (bF.mono hb3.size)).mono hb2a.size)
          have b1F := b12.trans ((hb3.trans (bF.mono hb3.size)).mono b12.size)
          have b2F := b22.trans ((hb3.trans (bF.mono hb3.size)).mono b22.size)
          generalize hWF : w3.alloc (.cells #[.int .i64 0, .int .i64 at3] 26) = wF at *
          have g0 := (cell_of_row _ _ 0 _ _ _ hf3).trans rfl
          have m1 := hu1 us1 r1
          have m2 := hu2 us2 r2
          have m3 := hu3 us3 r3
          have oa := owns_below r1.own b1F
          have ob := owns_below r2.own b2F
          have oc := rrow_of_owns (owns_below r3.own bF) (by omega)
          rw [m1] at oa
          rw [m2] at ob
          have f1 := flatR_one us1 (fun p hp => by
            obtain ⟨d, hd⟩ := r1.kids p hp
            obtain ⟨q, c, e⟩ := hd.form
            exact ⟨q, _, c, e⟩)
          have f2 := flatR_one us2 (fun p hp => by
            obtain ⟨d, hd⟩ := r2.kids p hp
            obtain ⟨q, c, e⟩ := hd.form
            exact ⟨q, _, c, e⟩)
          have K1 := kidsR_later r1.kids b1F
          have K2 := kidsR_later r2.kids b2F
          have K3 := kidsR_later r3.kids bF
          have o0 := World.ownsRow_made (base := wF.heap.size) (e := 45) (size := 6) wF #[] 0 (Nat.le_refl _) (by unfold maxLen; omega) rfl
          have bG := (Below.refl _ wF).alloc (Nat.le_refl _) (.cells #[] 45)
          have oa1 := oa.alloc (.cells #[] 45)
          have hsz1 : (wF.alloc (.cells #[] 45)).heap.size = wF.heap.size + 1 := by simp
          clear d3 h1 h2 h3 r1 r2 r3 a0 b0 hf1b hf2 hf3 hb3 bF b1F b2F b12 b22 oa hu1 hu2 hu3
          go_wp2_with (at_builtin; refine wpList_append_rows_g (by rfl) _ _ 22 rfl wF.heap.size w0.heap.size 45 i0 (.agg #[.string ⟨#[]⟩, .int .i64 0, .int .i64 0, .int .i64 0, .string ⟨#[]⟩, .slice none 0 0]) 6 80 rulesType hi hz0 hz1 hz2 rfl (by decide) (.slice (some ⟨wF.heap.size, 0, none⟩) 0 0) 0 [] rfl o0 (.slice p1 n1 k1) n1 (flatR us1) rfl oa1 f1 (by unfold maxLen; omega) (by omega) (by omega) ?_)
          intro v5 w5 o5 g5
          have bel5 : Below wF.heap.size wF w5 := bG.grown g5 (by omega) (fun k hk => by
            have e : wF.heap.size = k := Option.some.inj hk
            omega)
          obtain ⟨Bb, ob5⟩ : ∃ Bb, w5.ownsRow Bb 45 6 (.slice p2 n2 k2) n2 (flatR us2) := ⟨_, owns_below ob bel5⟩
          have s5 := bel5.size
          clear g5 o0 oa1 bG ob hsz1 f1 g0
          go_wp2_with (at_builtin; refine wpList_append_rows_g (by rfl) _ _ 22 rfl wF.heap.size Bb 45 i0 (.agg #[.string ⟨#[]⟩, .int .i64 0, .int .i64 0, .int .i64 0, .string ⟨#[]⟩, .slice none 0 0]) 6 80 rulesType hi hz0 hz1 hz2 rfl (by decide) v5 n1 (flatR us1) rfl o5 (.slice p2 n2 k2) n2 (flatR us2) rfl ob5 f2 (by unfold maxLen; omega) (by omega) (by omega) ?_)
          intro v6 w6 o6 g6
          have bel6 : Below wF.heap.size wF w6 := bel5.grown g6 (by omega) (fun k hk => (o5.lt k hk).1)
          rw [← flatR_append, ← m1, ← m2, ← List.length_append] at o6
          have cS := same_any (fun k => w3.heap.size ≤ k ∨ True) (fun _ => True) us3 (us1 ++ us2) (.slice p3 n3 k3) v6 w6 (oc.below bel6) (rrow_of_owns o6 (by simp; omega)) (fun p hp => by
              obtain ⟨d, hd⟩ := K3 p hp
              exact ⟨d, (hd.mono fun _ _ => .inr trivial).kept fun k _ hl => bel6.block k hl⟩) (fun p hp => by
              rcases List.mem_append.1 hp with hp | hp
              · obtain ⟨d, hd⟩ := K1 p hp
                exact ⟨d, (hd.mono fun _ _ => trivial).kept fun k _ hl => bel6.block k hl⟩
              · obtain ⟨d, hd⟩ := K2 p hp
                exact ⟨d, (hd.mono fun _ _ => trivial).kept fun k _ hl => bel6.block k hl⟩) (by rw [hmap, List.map_append])
          have hb6w := hb3w.trans (bel6.mono hb3w.size)
          clear o6 g6 o5 ob5 bel5 bel6 K1 K2 K3 oc f2
          go_wp2_with fail
          refine cS.mono ?_
          rintro e w7 ⟨rfl, hb7⟩
          have hb7w := hb6w.trans (hb7.mono hb6w.size)
          clear cS hb7 hb6w
          go_wp2_with fail
          go_ret
          exact ⟨rfl, hb7w⟩
        · have hg40 : (40 : Int) < (n1 : Int) + (n2 : Int) := by omega
          have hn1I : (n1 : Int) ≤ 40 := by omega
          have hn2I : (n2 : Int) ≤ 40 := by omega
          clear h1 h2 hu1 hu2 c3 hzs hzt
          go_wp2_with fail
          go_ret
          exact ⟨rfl, hb2a⟩
      · have hg6 : (6000 : Int) < (s.size : Int) + (t.size : Int) + 1 := by omega
        clear h1 h2 hu1 hu2 c3 hzs hzt
        go_wp2_with fail
        go_ret
        exact ⟨rfl, hb2a⟩
    · have hne2 : (er2 != 0) = true := by simpa using e2
      clear h1 h2 hu1 hu2 c3 e2
      go_wp2_with fail
      go_ret
      exact ⟨rfl, hb2a⟩
  · have hne1 : (er1 != 0) = true := by simpa using e1
    clear h1 h2 hu1 hu2 c3 e1
    go_wp2_with fail
    go_ret
    exact ⟨rfl, hb2a⟩
end Go.Proofs.YtpcopkdcnabojacGreatDoor

/- What the condition on the five listed tables gives the walks, and the start that meets it. -/
namespace Go.Proofs.YtpcopkdcnabojacGreatDoor
open Go.ChangeShapes Go.WideShapes Go.ChangeAt Go.WideMaps Go.WideElems Go.RowKit Go.Joins Lx

/-- The listed variables. -/
abbrev laid5 : List (String × DataW Unit) := Rows.parseJoinedRow.laid
def len5 : String := (Rows.parseJoinedRow.named.getD 0 default)
def day5 : String := (Rows.parseJoinedRow.named.getD 1 default)
theorem own5 : ownKnob Tryz.prog.godebug = none := by kernel_rfl
theorem gPow : Tryz.prog.globalNamed powName = some 2 := by kernel_rfl
theorem tPow : (Tryz.prog.globals[2]?).map (·.type) = some 127 := by kernel_rfl
theorem gLen5 : Tryz.prog.globalNamed len5 = some 1 := by kernel_rfl
theorem tLen5 : (Tryz.prog.globals[1]?).map (·.type) = some 120 := by kernel_rfl
theorem gDay5 : Tryz.prog.globalNamed day5 = some 0 := by kernel_rfl
theorem tDay5 : (Tryz.prog.globals[0]?).map (·.type) = some 91 := by kernel_rfl
theorem cI5 : Tryz.prog.cellsOf 3 = 1 := by kernel_rfl
theorem cU5 : Tryz.prog.cellsOf 114 = 1 := by kernel_rfl
theorem cL5 : Tryz.prog.cellsOf 120 = 12 := by kernel_rfl
theorem cP5 : Tryz.prog.cellsOf 127 = 20 := by kernel_rfl
theorem cS5 : Tryz.prog.cellsOf 9 = 1 := by kernel_rfl
theorem cD5 : Tryz.prog.cellsOf 91 = 7 := by kernel_rfl
theorem door5_met (os : Os) (args : Array Value) : laidMetH Tryz.prog laid5 ((World.doorLaid Tryz.prog 400 os).forCall (fun _ _ => 0) ⟨#[], args, []⟩).memory :=
  laidMetH_of_parts3 (fuel := 8) (laidMet_of_run' 8 (by kernel_rfl) (by kernel_rfl)) (by kernel_rfl) (by kernel_rfl)
/-- A cell of an array of strings, where the array reads as these texts. -/
theorem str_cell5 {H : Type} {enc : TypeId × Value → H} {P : Program} {w : World} {base : Nat} {sp : Nat → Bool} {held : Bool} {t e : TypeId} {n : Nat} {cs : List Value} {zs : List (List UInt8)} {p : List MemPlace} (ht : P.underlying t = some (.array n e)) (he : P.underlying e = some .string) (hce : P.cellsOf e = 1) (hct : P.cellsOf t = n) :
    ∀ fuel, DataW.trod enc P w base sp held fuel t cs = some (.agg (zs.map fun z => .lit (.string z)), p) → ∀ (i : Nat) (z : List UInt8), zs[i]? = some z → cs[i]? = some (.string ⟨z.toArray⟩)
  | 0, h, _, _, _ => by simp [DataW.trod] at h
  | fuel + 1, h, i, z, hz => by
    simp only [DataW.trod, ht, hce, hct, Nat.mul_one] at h
    split at h
    · obtain ⟨xs, hm, hx⟩ := Option.map_eq_some_iff.1 h
      have h1 : xs.map (fun x => x.1) = zs.map fun z => (DataW.lit (.string z) : DataW H) := by simpa using congrArg Prod.fst hx
      have h2 : (xs.map fun x => x.1)[i]? = some (DataW.lit (.string z) : DataW H) := by rw [h1, List.getElem?_map, hz]; rfl
      rw [List.getElem?_map] at h2
      obtain ⟨x, hx1, hx2⟩ := Option.map_eq_some_iff.1 h2
      have hin : i < n := by
        have a := (List.getElem?_eq_some_iff.1 hx1).1
        have b := Lib.mapM_length hm
        simp at b; omega
      obtain ⟨b, hb, hf⟩ := Lib.mapM_at hm i i (by simp [hin])
      obtain ⟨s, hc, rfl, _⟩ := DataW.trod_string he hf
      rw [hb] at hx1
      obtain rfl := Option.some.inj hx1
      have hs : s.data.toList = z := by simpa using hx2
      have h3 := congrArg (fun l : List Value => l[0]?) hc
      have h4 : cs[i]? = some (.string s) := by simpa [List.getElem?_take, List.getElem?_drop] using h3
      rw [h4, ← hs]
    · cases h
theorem tabs_of_laid {W : World} (h : laidMetH Tryz.prog laid5 W) : CTab W ∧ DTab W ∧ PowT W := by
  rw [MakeChecks.laidMetH_plain _ _ _ (by kernel_rfl)] at h
  obtain ⟨ps, ⟨_, _, _, _, _, _, _, _, _, _, ⟨_, _, _, _, _, _, _, _, _, _, ⟨g1, t1, cs1, fuel1, p1, q1, hg1, ht1, hv1, hd1, ⟨g2, t2, cs2, fuel2, p2, q2, hg2, ht2, hv2, hd2, ⟨g3, t3, cs3, fuel3, p3, q3, hg3, ht3, hv3, hd3, _, _⟩, _⟩, _⟩, _⟩, _⟩, _⟩ := h
  obtain rfl := Option.some.inj (gPow.symm.trans hg1)
  obtain rfl := Option.some.inj (tPow.symm.trans ht1)
  obtain rfl := Option.some.inj (gLen5.symm.trans hg2)
  obtain rfl := Option.some.inj (tLen5.symm.trans ht2)
  obtain rfl := Option.some.inj (gDay5.symm.trans hg3)
  obtain rfl := Option.some.inj (tDay5.symm.trans ht3)
  refine ⟨?_, ?_, ?_⟩
  · have e2 := Lib.cells_of_tab (zs := tab) Tryz.underlying120 Tryz.underlying3 cI5 cL5 hd2
    have t : Lib.TabIs Tryz.prog W len5 .i64 tab := by
      unfold Lib.TabIs
      rw [← e2]; exact hv2
    intro i hi
    exact t.cell gLen5 i (by simpa [tab] using hi)
  · intro j hj
    have hz : wDays[j]? = some (wDays.getD j []) := by
      rw [List.getD_eq_getElem?_getD, List.getElem?_eq_getElem (by exact hj)]; rfl
    have hc := str_cell5 (zs := wDays) Tryz.underlying91 Tryz.underlying9 cS5 cD5 fuel3 hd3 j _ hz
    have := World.var?_cell gDay5 hv3 j
    rw [this]
    simpa using hc
  · have e1 := Lib.cells_of_tab (zs := Lib.pow10Tab) Tryz.underlying127 Tryz.underlying114 cU5 cP5 hd1
    unfold PowT Lib.TabIs
    rw [← e1]; exact hv1
theorem ptb_of_laid {W : World} (h : laidMetH Tryz.prog laid5 W) : PTb W.heap.size W := by
  obtain ⟨h1, h2, h3⟩ := tabs_of_laid h
  exact fun w' hb => ⟨h1.below hb, fun j hj => cell_later hb (h2 j hj), tab_stays gPow h3 hb (Nat.le_refl _)⟩
end Go.Proofs.YtpcopkdcnabojacGreatDoor
