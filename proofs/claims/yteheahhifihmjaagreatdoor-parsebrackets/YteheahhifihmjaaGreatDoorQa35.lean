/- The text that alive asks of: its tokens, its rule and its text again: plain. -/
import Derived.Test.YteheahhifihmjaaGreatDoorQa34
import Derived.Test.YteheahhifihmjaaGreatDoorQa32
import Derived.Test.YteheahhifihmjaaGreatDoorQa28
import Derived.Test.YteheahhifihmjaaGreatDoorQa33
namespace Go.Proofs.YteheahhifihmjaaGreatDoor
open Go.RowKit Lx

def alS : List UInt8 := [114, 117, 108, 101, 32, 97, 32, 61, 32, 119, 101, 101, 107, 108, 121, 32, 109, 111, 110, 44, 116, 117, 101, 58, 32, 40, 48, 57, 58, 48, 48, 45, 49, 50, 58, 48, 48, 32, 43, 32, 98, 41, 32, 115, 104, 105, 102, 116, 32, 45, 53, 59]
def alX : Ex := ⟨4, 3, 0, [], [⟨9, -5, 0, [], [⟨6, 0, 0, [], [⟨3, 540, 720, [], []⟩, ⟨10, 0, 0, [98], []⟩]⟩]⟩]⟩
def alT : List Tk := ((iterN alS 19).getD ([], 0)).1
theorem al_iter : iterN alS 19 = some (alT, 52) := by kernel_rfl
theorem al_lexed : Lexed alS alT 52 := ⟨19, al_iter⟩
theorem al_rules : rulesR alS.length (alT.length + 1) [] alT = .ok [([97], alX)] := by kernel_rfl
theorem al_shape : (shapeP alX 1 0).1 = 0 := by
  simp only [alX, shapeP_eq, shapeL_cons, shapeL_nil]
  decide
theorem al_wrong : wrongR [([97], alX)] = (0, 0) := by
  unfold wrongR wrongL ruleP
  rw [al_shape]
  decide
theorem al_text : textE alX 0 = [119, 101, 101, 107, 108, 121, 32, 109, 111, 110, 44, 116, 117, 101, 58, 32, 40, 48, 57, 58, 48, 48, 45, 49, 50, 58, 48, 48, 32, 43, 32, 98, 41, 32, 115, 104, 105, 102, 116, 32, 45, 53] := by
  have e3 : textE ⟨3, 540, 720, [], []⟩ 0 = [48, 57, 58, 48, 48, 45, 49, 50, 58, 48, 48] := by rw [textE_eq, bare_3 rfl]; decide
  have e10 : textE ⟨10, 0, 0, [98], []⟩ 1 = [98] := by rw [textE_eq, bare_10 rfl]; decide
  have e6 : textE ⟨6, 0, 0, [], [⟨3, 540, 720, [], []⟩, ⟨10, 0, 0, [98], []⟩]⟩ 3 = [40, 48, 57, 58, 48, 48, 45, 49, 50, 58, 48, 48, 32, 43, 32, 98, 41] := by
    rw [textE_eq, bare_6 rfl]
    dsimp only
    rw [kidT_at (k := ⟨3, 540, 720, [], []⟩) rfl, kidT_at (k := ⟨10, 0, 0, [98], []⟩) rfl, e3, e10]
    decide
  have e9 : textE ⟨9, -5, 0, [], [⟨6, 0, 0, [], [⟨3, 540, 720, [], []⟩, ⟨10, 0, 0, [98], []⟩]⟩]⟩ 2 = [40, 48, 57, 58, 48, 48, 45, 49, 50, 58, 48, 48, 32, 43, 32, 98, 41, 32, 115, 104, 105, 102, 116, 32, 45, 53] := by
    rw [textE_eq, bare_9 rfl]
    dsimp only
    rw [kidT_at (k := ⟨6, 0, 0, [], [⟨3, 540, 720, [], []⟩, ⟨10, 0, 0, [98], []⟩]⟩) rfl, e6]
    decide +kernel
  rw [alX, textE_eq, bare_4 rfl]
  dsimp only
  rw [kidT_at (k := ⟨9, -5, 0, [], [⟨6, 0, 0, [], [⟨3, 540, 720, [], []⟩, ⟨10, 0, 0, [98], []⟩]⟩]⟩) rfl, e9]
  decide +kernel
theorem al_print : printP [([97], alX)] = (alS ++ [10], 0, 0) := by
  have e : rulesT [([97], alX)] = alS ++ [10] := by
    rw [rulesT, rulesT, ruleT, al_text]; rfl
  unfold printP
  rw [al_wrong, if_neg (by decide), e, if_neg (by decide)]
end Go.Proofs.YteheahhifihmjaaGreatDoor

/- What parse.Print comes to. -/
namespace Go.Proofs.YteheahhifihmjaaGreatDoor
open Go.RowKit Lx

set_option maxRecDepth 100000 in
set_option maxHeartbeats 4000000 in
theorem print_any (us : List (Ru × Value)) (v : Value) (w : World) (h : InR w v us) (hPT : PTb w.heap.size w) : Calls Tryz.prog 7 #[v] w (OutP (us.map (fun p => p.1)) w) := by
  have hform : ∃ p c, v = .slice p us.length c := by
    rcases h.row with ⟨rfl, p, c, hv⟩ | ⟨g, o, c, hv, _⟩
    · exact ⟨p, c, hv⟩
    · exact ⟨_, c, hv⟩
  obtain ⟨p, c, rfl⟩ := hform
  have hb0 := (Below.refl w.heap.size w).alloc (Nat.le_refl _) (.cells #[.int .i64 0, .int .i64 0] 26)
  have hr0 := heap_alloc_new w (.cells #[.int .i64 0, .int .i64 0] 26)
  have cW := wrong_any us (.slice p us.length c) _ (h.below hb0)
  generalize hwF : w.alloc (.cells #[.int .i64 0, .int .i64 0] 26) = wF at *
  generalize hL : us.map (fun p => p.1) = L at *
  generalize hX : wrongR L = X at *
  go_enter Tryz.func7, Tryz.ntmps7
  go_wp2_with fail
  refine cW.mono ?_
  rintro r w1 ⟨rfl, hb1⟩
  have hb1w := hb0.trans (hb1.mono hb0.size)
  have hr1 := (hb1.block _ (lt_of_block hr0)).trans hr0
  have hbB := (Below.refl w1.heap.size w1).alloc (Nat.le_refl _) (.cells #[.int .i64 X.1, .int .i64 (X.2 : Int)] 26)
  have hb2w := hb1w.trans (hbB.mono hb1w.size)
  have hf2 := heap_alloc_new w1 (.cells #[.int .i64 X.1, .int .i64 (X.2 : Int)] 26)
  have hr2 := (hbB.block _ (lt_of_block hr1)).trans hr1
  have hIN2 := h.below hb2w
  have HIN : Hid (InR _ (.slice p us.length c) us) := hIN2
  clear cW hb1 hr1 h hr0 hb0 hwF hIN2 hbB
  generalize hW2 : w1.alloc (.cells #[.int .i64 X.1, .int .i64 (X.2 : Int)] 26) = w2 at *
  by_cases he : X.1 ≠ 0
  · have HP : Hid (printP L = ([], X)) := by
      show _ = _
      unfold printP
      rw [hX, if_pos he]
    have hne : (X.1 != 0) = true := by simpa using he
    have d0 := (cell_of_row _ _ 0 _ _ _ hf2).trans rfl
    have d1 := (cell_of_row _ _ 1 _ _ _ hf2).trans rfl
    have z0 := (cell_of_row _ _ 0 _ _ _ hr2).trans rfl
    have z1 := (cell_of_row _ _ 1 _ _ _ hr2).trans rfl
    have y0 := frozen_of_row _ _ 0 _ _ hr2
    have y1 := frozen_of_row _ _ 1 _ _ hr2
    have hmF : ((w2.setCell ⟨w.heap.size, 0, none⟩ (.int .i64 X.1)).setCell ⟨w.heap.size, 1, none⟩ (.int .i64 (X.2 : Int))).heap[w.heap.size]? = some (.cells #[.int .i64 X.1, .int .i64 (X.2 : Int)] 26 (0, 0)) := heap_setCell_same _ _ 1 _ _ _ (heap_setCell_same _ _ 0 _ _ _ hr2)
    have hbS := (hb2w.setCell (p := ⟨w.heap.size, 0, none⟩) (Nat.le_refl _) (.int .i64 X.1)).setCell (p := ⟨w.heap.size, 1, none⟩) (Nat.le_refl _) (.int .i64 (X.2 : Int))
    clear he HIN hPT hX
    go_wp2_with fail
    go_region
    go_wp2_with fail
    refine two_post (by kernel_rfl) w.heap.size (.string ⟨#[]⟩) X.1 (X.2 : Int) rfl rfl rfl hmF ⟨?_, below_drewN hbS 1⟩
    rw [HP.out]
  · have he0 : X.1 = 0 := by simpa using he
    obtain ⟨h40, hok⟩ := wrongR_ok (l := L) (by rw [hX]; exact he0)
    have hLl : L.length = us.length := by rw [← hL, List.length_map]
    have HP : Hid (printP L = if 6000 < (rulesT L).length then ([], 4, 0) else (rulesT L, 0, 0)) := by
      show _ = _
      unfold printP
      rw [hX, if_neg he]
    obtain ⟨er, at_⟩ := X
    dsimp only at *
    subst he0
    have d0 := (cell_of_row _ _ 0 _ _ _ hf2).trans rfl
    have hbC := (Below.refl w2.heap.size w2).alloc (Nat.le_refl _) (.cells #[.pointer none, .slice none 0 0] 46)
    have hs3 : BSt w2.heap.size w2.heap.size [] (w2.alloc (.cells #[.pointer none, .slice none 0 0] 46)) := Lib.IsBuilderF.of (Lib.fresh_isBuilder _ _ w2)
    have hPT2 : PTb w2.heap.size w2 := fun w' hw => hPT w' (hb2w.trans (hw.mono hb2w.size))
    clear he hf2 hPT hX
    have hPT := hPT2
    clear hPT2
    go_wp2_with fail
    clear hW2 d0
    generalize hW3 : w2.alloc (.cells #[.pointer none, .slice none 0 0] 46) = w3 at *
    go_loopw [16] (fun t wr => ∃ j : Nat, t = .int .i64 (j : Int) ∧ j ≤ us.length ∧ BSt w2.heap.size w2.heap.size (rulesT (L.take j)) wr ∧ Below w2.heap.size w2 wr) (fun t _ => us.length - (intOf t).toNat)
    case atStart => exact ⟨0, rfl, by omega, hs3, hbC⟩
    case round =>
      obtain ⟨j, rfl, hj, hs, hbr⟩ := hrel
      have hj0 : (0 : Int) ≤ (j : Int) := by omega
      have hj4 : (j : Int) ≤ 40 := by omega
      by_cases hlt : j < us.length
      · have hlt' : (j : Int) < (us.length : Int) := by omega
        obtain ⟨⟨u, sk⟩, hjk⟩ : ∃ k, us[j]? = some k := ⟨us[j], List.getElem?_eq_getElem hlt⟩
        have hju : L[j]? = some u := by rw [← hL, List.getElem?_map, hjk]; rfl
        have hin := HIN.out.all _ (List.mem_of_getElem? hjk)
        obtain ⟨_, _, dd, hkk⟩ := hin
        obtain ⟨pk, ck, hsk⟩ := hkk.form
        dsimp only at hsk hkk
        subst hsk
        rcases HIN.out.row with ⟨hh, _⟩ | ⟨g, o, c', hsl, _, hcells⟩
        · rw [hh] at hlt; simp at hlt
        injection hsl with e1 e2 e3
        subst e1
        subst e3
        obtain ⟨d0, d1, d2, d3, d4, d5⟩ := hcells j _ hjk
        dsimp only at d0 d1 d2 d3 d4 d5
        have f0 := (hbr.cell (block_lt_of_cell d0)).trans d0
        have f1 := (hbr.cell (block_lt_of_cell d1)).trans d1
        have f2 := (hbr.cell (block_lt_of_cell d2)).trans d2
        have f3 := (hbr.cell (block_lt_of_cell d3)).trans d3
        have f4 := (hbr.cell (block_lt_of_cell d4)).trans d4
        have f5 := (hbr.cell (block_lt_of_cell d5)).trans d5
        have hur := hok u (List.mem_of_getElem? hju)
        have hnl := name_len hur.1
        have htl := hur.2.len 0
        have hSj : Hid (rulesT (L.take (j + 1)) = rulesT (L.take j) ++ ruleT u) := by show _ = _; rw [take_snoc hju, rulesT_snoc]
        have hjl : (rulesT (L.take j)).length ≤ 40000 * 40 := by
          have h1 := rulesT_len (l := L.take j) (fun x hx => hok x (List.mem_of_mem_take hx))
          have h2 : (L.take j).length ≤ 40 := by rw [List.length_take]; omega
          exact Nat.le_trans h1 (Nat.mul_le_mul_left _ h2)
        have hbB : Below wr.heap.size wr (wr.alloc (.cells #[.string ⟨u.1.toArray⟩, .int .i64 u.2.kind, .int .i64 u.2.a, .int .i64 u.2.b, .string ⟨u.2.name.toArray⟩, .slice pk u.2.kids.length ck] 40)) := (Below.refl _ _).alloc (Nat.le_refl _) _
        have hxB := heap_alloc_new wr (.cells #[.string ⟨u.1.toArray⟩, .int .i64 u.2.kind, .int .i64 u.2.a, .int .i64 u.2.b, .string ⟨u.2.name.toArray⟩, .slice pk u.2.kids.length ck] 40)
        have hsB := hs.below hbB
        have hkB : BK w2.heap.size w2.heap.size wr _ := BK.of_below hbB hs.le
        have P1 := put_any ([114, 117, 108, 101, 32] ++ u.1 ++ [32, 61, 32]) hsB (by simp; omega)
        have q1 : ¬ 9223372036854775807 < 5 + u.1.length := by omega
        have q2 : ¬ 9223372036854775807 < 5 + u.1.length + 3 := by omega
        clear d0 d1 d2 d3 d4 d5 hcells hjk hju hbB
        generalize hwB : wr.alloc (.cells #[.string ⟨u.1.toArray⟩, .int .i64 u.2.kind, .int .i64 u.2.a, .int .i64 u.2.b, .string ⟨u.2.name.toArray⟩, .slice pk u.2.kids.length ck] 40) = wB at *
        have x0 := (cell_of_row _ _ 0 _ _ _ hxB).trans rfl
        simp only [List.cons_append, List.nil_append] at P1
        go_wp2_with fail
        refine P1.mono ?_
        rintro r w4 ⟨rfl, hs4, hk4⟩
        have hx4 := hk4.others _ _ hxB (by intro q; have := Option.some.inj q; have := hs.lt; omega) (by intro cc fz q; cases q)
        have hkB4 := hkB.trans hk4
        have hb4 : Below w2.heap.size w2 w4 := hbr.trans hkB4.below
        have P2 := write_all (B := w2.heap.size) (b := w2.heap.size) dd u.2 (.slice pk u.2.kids.length ck) w4 _ 0 (hkk.kept fun k hk _ => hb4.block k hk) hur.2 (hPT.on hb4) hs4 (by omega) (by simp; omega)
        unfold exV at P2
        have x1 := (cell_of_row _ _ 1 _ _ _ hx4).trans rfl
        have x2 := (cell_of_row _ _ 2 _ _ _ hx4).trans rfl
        have x3 := (cell_of_row _ _ 3 _ _ _ hx4).trans rfl
        have x4 := (cell_of_row _ _ 4 _ _ _ hx4).trans rfl
        have x5 := (cell_of_row _ _ 5 _ _ _ hx4).trans rfl
        clear P1 hxB hx4 hsB hkB hk4 hwB x0 f0 f1 f2 f3 f4 f5 hkk
        go_wp2_with fail
        refine P2.mono ?_
        rintro r w5 ⟨rfl, hs5, hk5⟩
        have P3 := put_any [59, 10] hs5 (by simp; omega)
        clear P2 x1 x2 x3 x4 x5
        go_wp2_with fail
        refine P3.mono ?_
        rintro r w6 ⟨rfl, hs6, hk6⟩
        clear P3
        go_wp2_with fail
        go_roundw
        case rel => exact ⟨j + 1, by go_num, by omega, by rw [hSj.out]; simpa [ruleT] using hs6, hb4.trans (hk5.trans hk6).below⟩
        case measure => simp [intOf]; omega
      · have hlt' : ¬ (j : Int) < (us.length : Int) := by omega
        have hjL : L.take j = L := List.take_of_length_le (by omega)
        rw [hjL] at hs
        have cL := blen w2.heap.size w2.heap.size _ wr hs
        rw [Lib.byteCells_length] at cL
        have hrr := (hbr.block _ (lt_of_block hr2)).trans hr2
        have hbrw := hb2w.trans (hbr.mono hb2w.size)
        by_cases h6 : 6000 < (rulesT L).length
        · have h6' : (6000 : Int) < ((rulesT L).length : Int) := by omega
          have HQ : Hid (printP L = ([], 4, 0)) := by show _ = _; rw [HP.out, if_pos h6]
          clear HP h6 hs
          generalize (rulesT L).length = n6 at *
          go_wp2_with fail
          refine cL.mono ?_
          rintro r w7 ⟨rfl, rfl⟩
          clear cL
          go_wp2_with (refine wpList_store_row rfl 26 _ _ rfl _ _ rfl rfl _ _ hrr (by kernel_rfl) (by simp) (by simp [Value.oneCell']) ?_)
          refine two_post (by kernel_rfl) w.heap.size (.string ⟨#[]⟩) 4 0 rfl rfl rfl (setRow_heap _ _ _ _ _ _ hrr) ⟨?_, below_setRow hbrw (Nat.le_refl _) _⟩
          rw [HQ.out]
          rfl
        · have h6' : ¬ (6000 : Int) < ((rulesT L).length : Int) := by omega
          have HQ : Hid (printP L = (rulesT L, 0, 0)) := by show _ = _; rw [HP.out, if_neg h6]
          have cS := bstr w2.heap.size w2.heap.size (rulesT L) wr hs hs.le
          clear HP h6 hs
          generalize hR : rulesT L = R at *
          go_wp2_with fail
          refine cL.mono ?_
          rintro r w7 ⟨rfl, rfl⟩
          clear cL
          go_wp2_with fail
          refine cS.mono ?_
          rintro r w8 ⟨rfl, _, hb8, _⟩
          clear cS
          have hrq := (hb8.block _ (by have := hb2w.size; have := lt_of_block hr2; omega)).trans hrr
          have hbqw := hbrw.trans (hb8.mono hb2w.size)
          go_wp2_with (refine wpList_store_row rfl 26 _ _ rfl _ _ rfl rfl _ _ hrq (by kernel_rfl) (by simp) (by simp [Value.oneCell']) ?_)
          refine two_post (by kernel_rfl) w.heap.size (.string ⟨R.toArray⟩) 0 0 rfl rfl rfl (setRow_heap _ _ _ _ _ _ hrq) ⟨?_, below_setRow hbqw (Nat.le_refl _) _⟩
          rw [HQ.out]
          rfl
end Go.Proofs.YteheahhifihmjaaGreatDoor

/- What the laws' own question of parse comes to: true. -/
namespace Go.Proofs.YteheahhifihmjaaGreatDoor
open Go.RowKit Lx

/-- The names of a tree are not too long. -/
def NmOK : Nat → List Ex → Prop
  | 0, _ => True
  | d + 1, ks => ∀ (j : Nat) (k : Ex), ks[j]? = some k → k.name.length ≤ 9223372036854775807 ∧ NmOK d k.kids
theorem nm_nil : ∀ d, NmOK d []
  | 0 => trivial
  | d + 1 => fun j k h => by simp at h
theorem nm_cons {k : Ex} {ks : List Ex} (h1 : k.name.length ≤ 9223372036854775807) (h2 : ∀ d, NmOK d k.kids) (h3 : ∀ d, NmOK d ks) : ∀ d, NmOK d (k :: ks)
  | 0 => trivial
  | d + 1 => fun j q h => by
    cases j with
    | zero =>
      simp at h
      subst h
      exact ⟨h1, h2 d⟩
    | succ j => exact h3 (d + 1) j q (by simpa using h)
theorem kidsB_of_at {B : Nat → Prop} : ∀ {d : Nat} {w : World} {sl : Value} {ks : List Ex}, KidsAt B d w sl ks → NmOK d ks → KidsB (fun k => k < w.heap.size) d w sl ks
  | 0, _, _, _, h, _ => h
  | d + 1, w, sl, ks, h, hn => by
    rcases h with h | ⟨g, o, c, hB, hs, hl, hk⟩
    · exact .inl h
    · by_cases h0 : ks = []
      · subst h0
        exact .inl ⟨rfl, _, c, hs⟩
      · obtain ⟨k0, hk0⟩ : ∃ k, ks[0]? = some k := by
          cases ks with
          | nil => exact absurd rfl h0
          | cons x l => exact ⟨x, rfl⟩
        obtain ⟨_, q0, _⟩ := hk 0 k0 hk0
        refine .inr ⟨g, o, c, block_lt_of_cell q0, hs, hl, fun j k hj => ?_⟩
        obtain ⟨sk, c0, c1, c2, c3, c4, r⟩ := hk j k hj
        obtain ⟨n1, n2⟩ := hn j k hj
        exact ⟨n1, sk, c0, c1, c2, c3, c4, kidsB_of_at r n2⟩
/-- Rules that were made, as rules that come in. -/
theorem inR_of_row {w0 w : World} {v : Value} {us : List (Ru × Value)} (h : RowR w0 w v us) (hl : us.length ≤ 40) (hn : ∀ p ∈ us, p.1.1.length ≤ 9223372036854775807 ∧ p.1.2.name.length ≤ 9223372036854775807 ∧ ∀ d, NmOK d p.1.2.kids) : InR w v us := by
  refine ⟨rrow_of_owns h.own (by omega), by omega, fun p hp => ?_⟩
  obtain ⟨d, hd⟩ := h.kids p hp
  obtain ⟨n1, n2, n3⟩ := hn p hp
  exact ⟨n1, n2, d, kidsB_of_at hd (n3 d)⟩
theorem al_names : ∀ d, NmOK d alX.kids :=
  nm_cons (by decide) (nm_cons (by decide) (nm_cons (by decide) nm_nil (nm_cons (by decide) nm_nil nm_nil)) nm_nil) nm_nil
/-- What Parse tells of the text. -/
theorem al_tells {w0 w : World} {v : Value} {er at_ : Int} (h : PTells alS w0 w v er at_) : er = 0 ∧ ∃ sl, RowR w0 w v [(([97], alX), sl)] := by
  have hk : ¬ (52 < alS.length ∧ (firstT (alS.drop 52)).err = 0) := fun h => absurd h.1 (by decide)
  rcases h with ⟨h, _⟩ | ⟨ts, k, _, h2, h3, h4, _⟩ | ⟨ts, k, er', at', _, h2, h3, h4, _⟩ | ⟨ts, k, us, _, h2, h3, h4, _, h6, h7, _⟩
  · exact absurd h (by decide)
  · obtain ⟨_, e⟩ := lexed_one al_lexed h2 hk (fun h => h4 h.2)
    subst e
    exact absurd h3 (by decide)
  · obtain ⟨e, _⟩ := lexed_one al_lexed h2 hk (fun h => h3 h.1)
    subst e
    rw [al_rules] at h4; cases h4
  · obtain ⟨e, _⟩ := lexed_one al_lexed h2 hk (fun h => h3 h.1)
    subst e
    rw [al_rules] at h4
    have e2 := Except.ok.inj h4
    match us, e2 with
    | [(u, sl)], e2 =>
      simp at e2
      subst e2
      exact ⟨h7, sl, h6⟩
set_option maxRecDepth 100000 in
set_option maxHeartbeats 2000000 in
theorem alive4_any (w : World) (hPT : PTb w.heap.size w) : Calls Tryz.prog 6 #[] w fun e w' => e = .returned (.bool true) ∧ Below w.heap.size w w' := by
  have hp0 := hPT w (Below.refl _ _)
  have c1 := parse_any ⟨alS.toArray⟩ alS (by simp) (by decide) w hp0.1 hp0.2.1
  unfold alS at c1
  go_enter Tryz.func6, Tryz.ntmps6
  go_wp2_with fail
  refine c1.mono ?_
  rintro e w1 ⟨⟨v, er, at_, rfl, hx⟩, hb1⟩
  obtain ⟨rfl, sl, hr⟩ := al_tells hx
  have hin := inR_of_row hr (by simp) (fun p hp => by
    simp at hp
    subst hp
    exact ⟨by show ([97] : List UInt8).length ≤ _; decide, by show alX.name.length ≤ _; decide, al_names⟩)
  have hform := row_form hr.own
  obtain ⟨pv, cv, rfl⟩ := hform
  have hb1a := hb1.alloc hb1.size (.cells #[.int .i64 0, .int .i64 at_] 26)
  have hf1 := heap_alloc_new w1 (.cells #[.int .i64 0, .int .i64 at_] 26)
  have b1 := (Below.refl _ w1).alloc (Nat.le_refl _) (.cells #[.int .i64 0, .int .i64 at_] 26)
  have d2 := print_any _ _ _ (hin.below b1) (fun w' hw => hPT w' (hb1a.trans (hw.mono hb1a.size)))
  unfold OutP at d2
  simp only [List.map_cons, List.map_nil, al_print] at d2
  unfold alS at d2
  clear c1 hx hr hin hPT hp0 b1
  go_wp2_with fail
  refine d2.mono ?_
  rintro e w2 ⟨rfl, hb2⟩
  have hb2a := hb1a.trans (hb2.mono hb1a.size)
  have hb2b := hb2a.alloc hb2a.size (.cells #[.int .i64 0, .int .i64 0] 26)
  have hf2 := (hb2.block _ (lt_of_block hf1)).trans hf1
  have hlt2 := lt_of_block hf2
  clear d2 hb2 hf1 hb1a hb2a hb1
  have a0 := (cell_of_row _ _ 0 _ _ _ hf2).trans rfl
  go_wp2_with fail
  go_ret
  exact ⟨rfl, hb2b⟩
end Go.Proofs.YteheahhifihmjaaGreatDoor

/- What Parse tells of the text of right rules; and that what it tells is right. -/
namespace Go.Proofs.YteheahhifihmjaaGreatDoor
open Go.RowKit Lx

/-- Where the tokens are told, Parse tells their rules, or what is wrong with them. -/
theorem ptells_of {l : List UInt8} {ts : List Tk} {k : Nat} (h6 : l.length ≤ 6000) (hL : Lexed l ts k) (hk : ¬ k < l.length) {w0 w : World} {v : Value} {er at_ : Int} (h : PTells l w0 w v er at_) :
    (∃ er' at', rulesR l.length (ts.length + 1) [] ts = .error (er', at') ∧ er = er') ∨ (er = 0 ∧ ∃ us : List (Ru × Value), RowR w0 w v us ∧ us.length ≤ 40 ∧ rulesR l.length (ts.length + 1) [] ts = .ok (us.map (fun p => p.1))) := by
  rcases h with ⟨h, _⟩ | ⟨tz, kz, _, z2, z3, he, _, _, _⟩ | ⟨tz, kz, er', at', _, z2, z3, hr, _, h8, _⟩ | ⟨tz, kz, uz, z1, z2, z3, z4, z5, z6, z7, _⟩
  · omega
  · obtain ⟨_, e2⟩ := lexed_one hL z2 (fun h => hk h.1) (fun h => he h.2)
    omega
  · obtain ⟨e1, _⟩ := lexed_one hL z2 (fun h => hk h.1) (fun h => z3 h.1)
    subst e1
    exact .inl ⟨er', at', hr, h8⟩
  · obtain ⟨e1, _⟩ := lexed_one hL z2 (fun h => hk h.1) (fun h => z3 h.1)
    subst e1
    exact .inr ⟨z7, uz, z6, z5, z4⟩
/-- Right rules come back from their text. -/
theorem ptells_turn {l : List Ru} (hw : (wrongR l).1 = 0) (h6 : (rulesT l).length ≤ 6000) {w0 w : World} {v : Value} {er at_ : Int} (h : PTells (rulesT l) w0 w v er at_) :
    er = 0 ∧ ∃ us : List (Ru × Value), RowR w0 w v us ∧ us.length ≤ 40 ∧ us.map (fun p => p.1) = l.map bareR := by
  obtain ⟨ts, k, h1, h2, h3⟩ := turns_plain hw
  rcases ptells_of h6 h1 h2 h with ⟨er', at', h4, _⟩ | ⟨h4, us, h5, h7, h8⟩
  · rw [h3] at h4; cases h4
  · rw [h3] at h8
    exact ⟨h4, us, h5, h7, (Except.ok.inj h8).symm⟩
theorem re_kids {e : Ex} (h : RE e) : e.name.length ≤ 20 ∧ ∀ k ∈ e.kids, RE k := by
  obtain ⟨h1, h2⟩ := h
  obtain ⟨a1, a2⟩ := (allA_iff e).1 h1
  rw [bareE_eq] at h2
  have hn := congrArg Ex.name h2
  have hk := congrArg Ex.kids h2
  dsimp only at hn hk
  refine ⟨?_, fun k hk' => ⟨a2 k hk', ?_⟩⟩
  · unfold bareN at hn
    split at hn
    · rename_i h10
      exact (named_word ((alone_kinds a1).2.2.2.2 h10)).2.2.1
    · rw [← hn]; simp
  · have : ∀ l : List Ex, l.map bareE = l → ∀ k ∈ l, bareE k = k := by
      intro l
      induction l with
      | nil => intro _ k hk; cases hk
      | cons q l ih =>
        intro h k hk
        simp only [List.map_cons, List.cons.injEq] at h
        rcases List.mem_cons.1 hk with rfl | hk
        · exact h.1
        · exact ih h.2 k hk
    exact this _ hk k hk'
theorem nm_of_re : ∀ (d : Nat) (ks : List Ex), (∀ k ∈ ks, RE k) → NmOK d ks
  | 0, _, _ => trivial
  | d + 1, ks, h => fun j k hj => by
    obtain ⟨h1, h2⟩ := re_kids (h k (List.mem_of_getElem? hj))
    exact ⟨by omega, nm_of_re d k.kids h2⟩
/-- No name of rules is too long. -/
def NmR (us : List (Ru × Value)) : Prop := ∀ p ∈ us, p.1.1.length ≤ 9223372036854775807 ∧ p.1.2.name.length ≤ 9223372036854775807 ∧ ∀ d, NmOK d p.1.2.kids
theorem NmR.same {us us' : List (Ru × Value)} (h : NmR us) (e : us'.map (fun p => p.1) = us.map (fun p => p.1)) : NmR us' := fun p hp => by
  have : p.1 ∈ us.map (fun p => p.1) := by rw [← e]; exact List.mem_map.2 ⟨p, hp, rfl⟩
  obtain ⟨q, hq, hqp⟩ := List.mem_map.1 this
  rw [← hqp]
  exact h q hq
/-- What Parse tells is right. -/
theorem ptells_right {l : List UInt8} {w0 w : World} {v : Value} {at_ : Int} (h : PTells l w0 w v 0 at_) :
    ∃ us : List (Ru × Value), RowR w0 w v us ∧ us.length ≤ 40 ∧ wrongR (us.map (fun p => p.1)) = (0, 0) ∧ (us.map (fun p => p.1)).map bareR = us.map (fun p => p.1) ∧ NmR us := by
  obtain ⟨ts, k, us, x1, x2, x3, x4, x5, x6, _⟩ := ptells_ok h
  have hr := rulesR_right _ _ _ _ (lexed_good x2) (fun u hu => by cases hu) x4
  refine ⟨us, x6, x5, wrongR_none (by simpa using x5) fun u hu => (hr u hu).1, ?_, fun p hp => ?_⟩
  · have : ∀ m : List Ru, (∀ u ∈ m, bareR u = u) → m.map bareR = m := by
      intro m
      induction m with
      | nil => intro _; rfl
      | cons q m ih => intro h; rw [List.map_cons, h q List.mem_cons_self, ih fun u hu => h u (List.mem_cons_of_mem _ hu)]
    exact this _ fun u hu => (hr u hu).2
  · obtain ⟨r1, r2⟩ := hr p.1 (List.mem_map.2 ⟨p, hp, rfl⟩)
    obtain ⟨o1, o2, _, _⟩ := ruleP_ok r1
    have hE : bareE p.1.2 = p.1.2 := congrArg Prod.snd r2
    obtain ⟨k1, k2⟩ := re_kids ⟨o2, hE⟩
    have := (named_word o1).2.2.1
    exact ⟨by omega, by omega, fun d => nm_of_re d _ k2⟩
theorem ptells_bad {l : List UInt8} {w0 w : World} {v : Value} {er at_ : Int} (h : PTells l w0 w v er at_) (he : er ≠ 0) : v = .slice none 0 0 := by
  rcases h with ⟨_, h, _⟩ | ⟨_, _, _, _, _, _, h, _⟩ | ⟨_, _, _, _, _, _, _, _, h, _⟩ | ⟨_, _, _, _, _, _, _, _, _, h, _⟩
  · exact h
  · exact h
  · exact h
  · exact absurd h he
end Go.Proofs.YteheahhifihmjaaGreatDoor
