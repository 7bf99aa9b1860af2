/- All code is measured; which is too much; code in memory. -/
import Derived.Test.YtpmobjgnmidolaaGreatDoorDz27
import Derived.Test.YtpmobjgnmidolaaGreatDoorDz28
import Derived.Test.YtpmobjgnmidolaaGreatDoorDz06
import Derived.Test.YtpmobjgnmidolaaGreatDoorDz08
import Derived.Test.YtpmobjgnmidolaaGreatDoorDz10
import Derived.Test.YtpmobjgnmidolaaGreatDoorDz22
import Derived.Test.YtpmobjgnmidolaaGreatDoorDz18
import Derived.Test.YtpmobjgnmidolaaGreatDoorDz21
namespace Go.Proofs.YtpmobjgnmidolaaGreatDoor
open Go.RowKit Lx Vx Msk
theorem measure_any (C : List (List In)) (ρ : Nat → Nat) (mea : Nat → Int × Int) (hR : Ranked C ρ) (hsm : Small (withM C mea)) (n go c : Nat) (hn : n = C.length) (hn9 : n ≤ 1000) (sv : Nat → Value) (Ss : Nat → List (In × Value)) (hS : ∀ k, k < n → (Ss k).map (fun u => u.1) = C.getD k []) (hL : ∀ k, k < n → 1 ≤ (Ss k).length ∧ (Ss k).length ≤ 700) (hV : ∀ k, k < n → ∀ u ∈ Ss k, ∃ p m c, u.2 = .slice p m c) (hme : ∀ i, i < n → mea i = reck C mea i) (h1 : ∀ i, i < n → 1 ≤ (mea i).2) :
    ∀ (r i : Nat), ρ i ≤ r → i < n → ∀ (H T : Nat → Int) (w : World), MeSt go n sv H T w → (∀ q, q < n → InsQ w (sv q) (Ss q)) → (∀ q, q < n → ρ q ≤ ρ i → Okm mea H T q) → Calls Tryz.prog 12 #[.slice (some ⟨go, 0, none⟩) n c, .int .i64 (i : Int)] w (OutM mea ρ go n sv i H T w) := by
  intro r
  induction r with
  | zero =>
    intro i hr hi H T w hm hq hok
    exact measure_step C ρ mea hR hsm n go c hn hn9 sv Ss hS hL hV i hi (hme i hi) (h1 i hi) (fun k _ hk => by omega) H T w hm hq hok
  | succ r ih =>
    intro i hr hi H T w hm hq hok
    exact measure_step C ρ mea hR hsm n go c hn hn9 sv Ss hS hL hV i hi (hme i hi) (h1 i hi) (fun k hkn hk H T w hm hq hok => ih k (by omega) hkn H T w hm hq hok) H T w hm hq hok
def much (m : Int × Int) : Bool := decide (100 < m.1) || decide (20000 < m.2)
def fstM (m : Nat → Int × Int) : Nat → Nat → Int
  | 0, _ => -1
  | k + 1, j => if much (m j) = true then (j : Int) else fstM m k (j + 1)
set_option maxRecDepth 100000 in
set_option maxHeartbeats 1000000 in
theorem tooMuch_any (p : Option Addr) (ln c : Nat) (h t : Int) (w : World) (hl : ln ≤ 700) :
    Calls Tryz.prog 14 #[.agg #[.slice p ln c, .int .i64 h, .int .i64 t]] w fun e w' => e = .returned (.bool (much (h, t))) ∧ Below w.heap.size w w' := by
  have bA := (Below.refl w.heap.size w).alloc (Nat.le_refl _) (.cells #[.slice p ln c, .int .i64 h, .int .i64 t] 32)
  have nA := heap_alloc_new w (.cells #[.slice p ln c, .int .i64 h, .int .i64 t] 32)
  generalize hwA : w.alloc (.cells #[.slice p ln c, .int .i64 h, .int .i64 t] 32) = wA at *
  have z0 := (cell_of_row _ _ 0 _ _ _ nA).trans rfl
  have z1 := (cell_of_row _ _ 1 _ _ _ nA).trans rfl
  have z2 := (cell_of_row _ _ 2 _ _ _ nA).trans rfl
  have hl1 : (ln : Int) ≤ 700 := by omega
  by_cases h1 : 100 < h
  · have HM : Hid (much (h, t) = true) := by show _ = _; simp [much, h1]
    rw [HM.out]
    clear nA hl
    go_enter Tryz.func14, Tryz.ntmps14
    go_wp2_with fail
    go_ret
    exact ⟨rfl, bA⟩
  · by_cases h2 : 20000 < t
    · have HM : Hid (much (h, t) = true) := by show _ = _; simp [much, h2]
      rw [HM.out]
      clear nA hl
      go_enter Tryz.func14, Tryz.ntmps14
      go_wp2_with fail
      go_ret
      exact ⟨rfl, bA⟩
    · have HM : Hid (much (h, t) = false) := by show _ = _; simp [much, h1, h2]
      rw [HM.out]
      have hl2 : ¬ (2000 : Int) < (ln : Int) := by omega
      clear nA
      go_enter Tryz.func14, Tryz.ntmps14
      go_wp2_with fail
      go_ret
      exact ⟨rfl, bA⟩
set_option maxRecDepth 100000 in
set_option maxHeartbeats 1000000 in
theorem indexMuch_any (n go c : Nat) (sv : Nat → Value) (m : Nat → Int × Int) (w : World) (hm : MeSt go n sv (fun k => (m k).1) (fun k => (m k).2) w) (hsv : ∀ k, k < n → ∃ p ln c, sv k = .slice p ln c ∧ ln ≤ 700) (hn : n ≤ 1000) :
    Calls Tryz.prog 13 #[.slice (some ⟨go, 0, none⟩) n c, .func (.func 14) #[] #[]] w fun e w' => e = .returned (.int .i64 (fstM m n 0)) ∧ Below w.heap.size w w' := by
  have HM := hidv hm
  have HSV := hidv hsv
  have hn1 : (n : Int) ≤ 1000 := by omega
  clear hm hsv
  go_enter Tryz.func13, Tryz.ntmps13
  go_wp2_with fail
  go_loopw [5, 8] (fun _ t wr => ∃ j : Nat, t = .int .i64 (j : Int) ∧ j ≤ n ∧ fstM m n 0 = fstM m (n - j) j ∧ Below w.heap.size w wr) (fun _ t _ => n - (intOf t).toNat)
  case atStart => exact ⟨0, rfl, by omega, by rw [Nat.sub_zero], Below.refl _ _⟩
  case round =>
    obtain ⟨j, rfl, hj, hX, hb⟩ := hrel
    have hj0 : (0 : Int) ≤ (j : Int) := by omega
    by_cases hlt : j < n
    · have hlt' : (j : Int) < (n : Int) := by omega
      obtain ⟨c0, c1, c2, _, _⟩ := (HM.out.below hb).cells hlt
      obtain ⟨ps, ln, cs, hs, hl⟩ := HSV.out j hlt
      rw [hs] at c0
      rw [show n - j = (n - (j + 1)) + 1 by omega, fstM] at hX
      have cT := tooMuch_any ps ln cs (m j).1 (m j).2 wr hl
      have HX := hidv hX
      generalize hmy : much ((m j).1, (m j).2) = y at cT
      have HMY : Hid (much (m j) = y) := hmy
      generalize (m j).1 = mh at *
      generalize (m j).2 = mt at *
      clear hs hX hmy
      go_wp2_with fail
      refine cT.mono ?_
      rintro e w1 ⟨rfl, b1⟩
      have hb1 := hb.trans (b1.mono hb.size)
      clear cT b1 hb c0 c1 c2
      cases y with
      | true =>
        have HE : Hid (fstM m n 0 = (j : Int)) := by show _ = _; rw [HX.out, if_pos HMY.out]
        clear HX HMY
        go_wp2_with fail
        go_ret
        exact ⟨by (rw [HE.out]) <;> rfl, hb1⟩
      | false =>
        have HE : Hid (fstM m n 0 = fstM m (n - (j + 1)) (j + 1)) := by show _ = _; rw [HX.out, if_neg (by rw [HMY.out]; simp)]
        clear HX HMY
        go_wp2_with fail
        go_roundw
        case rel => exact ⟨j + 1, by go_num, by omega, HE.out, hb1⟩
        case measure => simp [intOf]; omega
    · have hlt' : ¬ (j : Int) < (n : Int) := by omega
      have HX : Hid (fstM m n 0 = -1) := by
        show _ = _
        rw [hX, show n - j = 0 by omega]
        rfl
      clear hX
      go_wp2_with fail
      go_ret
      exact ⟨by (rw [HX.out]) <;> rfl, hb⟩
theorem code_calls {num : List UInt8 → Int} : ∀ (N : Nat) (e : Ex), SizeOf.sizeOf e ≤ N → OKE e → ∀ (b : Nat) (x : In), x ∈ codeE num e b → x.op = 8 → ∃ nm ∈ nms e, x.a = num nm
  | 0, e, hN, _, _, _, _, _ => by cases e; simp at hN
  | N + 1, e, hN, h, b, x, hx, ho => by
    have ih : ∀ k ∈ e.kids, ∀ b, x ∈ codeE num k b → ∃ nm ∈ nms e, x.a = num nm := fun k hk b hxk => by
      obtain ⟨nm, h1, h2⟩ := code_calls N k (by have := kid_lt hk; omega) (h.kid hk) b x hxk ho
      exact ⟨nm, nms_kid hk h1, h2⟩
    cases hs : stdE e with
    | true =>
      rw [code_std hs, List.mem_singleton] at hx
      subst hx
      exact absurd ho (by show ¬ (1 : Int) = 8; omega)
    | false =>
      rcases code_kinds h hs with ⟨q, k, hk⟩ | ⟨q, k, hk⟩ | ⟨q, k, hk⟩ | q | ⟨q, k, m, hk⟩
      · rw [code_week q (by rw [hk]; rfl)] at hx
        rcases List.mem_cons.1 hx with rfl | hx
        · exact absurd ho (by show ¬ (6 : Int) = 8; omega)
        · exact ih k (by rw [hk]; simp) _ hx
      · rw [code_dates q (by rw [hk]; rfl)] at hx
        rcases List.mem_cons.1 hx with rfl | hx
        · exact absurd ho (by show ¬ (7 : Int) = 8; omega)
        · exact ih k (by rw [hk]; simp) _ hx
      · rw [code_shift hs q hk] at hx
        rcases List.mem_append.1 hx with hx | hx
        · exact ih k (by rw [hk]; simp) _ hx
        · rw [List.mem_singleton] at hx
          subst hx
          exact absurd ho (by show ¬ (5 : Int) = 8; omega)
      · rw [code_name q, List.mem_singleton] at hx
        subst hx
        exact ⟨_, nms_own q, rfl⟩
      · rw [code_pair hs q hk] at hx
        rcases List.mem_append.1 hx with hx | hx
        · rcases List.mem_append.1 hx with hx | hx
          · exact ih k (by rw [hk]; simp) _ hx
          · exact ih m (by rw [hk]; simp) _ hx
        · rw [List.mem_singleton] at hx
          subst hx
          have := opK_234 q
          exact absurd ho (by show ¬ opK e.kind = 8; omega)
theorem flat_at7 : ∀ {l : List (Int × Int)} {j : Nat}, j < l.length → (flat l)[j * 2 + 0]? = some (.int .i64 (l.getD j (0, 0)).1) ∧ (flat l)[j * 2 + 1]? = some (.int .i64 (l.getD j (0, 0)).2)
  | [], _, h => by simp at h
  | _ :: _, 0, _ => ⟨rfl, rfl⟩
  | s :: l, j + 1, h => by
    have ih := flat_at7 (l := l) (j := j) (by simpa using h)
    have e : ∀ i, (flat (s :: l))[(j + 1) * 2 + i]? = (flat l)[j * 2 + i]? := fun i => by
      show (_ :: _ :: flat l)[(j + 1) * 2 + i]? = _
      rw [show (j + 1) * 2 + i = (j * 2 + i) + 1 + 1 by omega, List.getElem?_cons_succ, List.getElem?_cons_succ]
    rw [e, e]
    exact ih
theorem SpIn.row {w : World} {v : Value} {l : List (Int × Int)} (h : SpIn w v l) : RowV w v l := by
  rcases h with h | ⟨g, c, cur, e, hl, hg, hx⟩
  · exact .inl h
  · refine .inr (.inr ⟨g, 0, c, e, hl, fun j hj => ?_⟩)
    have key : ∀ (i : Nat) (v : Value), j * 2 + i < l.length * 2 → (flat l)[j * 2 + i]? = some v → w.cell? ⟨g, 0 + j * 2 + i, none⟩ = some v := fun i v hi hv => by
      refine (cell_of_row _ _ _ _ _ _ hg).trans ?_
      rw [Nat.zero_add, ← Array.getElem?_toList]
      rw [← hx, List.getElem?_take_of_lt hi] at hv
      exact hv
    have hf := flat_at7 hj
    exact ⟨by simpa using key 0 _ (by omega) hf.1, key 1 _ (by omega) hf.2⟩
theorem insOf_own {w : World} {v : Value} {S : List (In × Value)} (h : InsQ w v S) (h1 : 1 ≤ S.length) (h9 : S.length ≤ 700) (hs : ∀ u ∈ S, SpIn w u.2 u.1.sp) : InsOf w v (S.map fun u => u.1) := by
  obtain ⟨g, c, e, hc⟩ := h.form h1
  refine ⟨S, ⟨some ⟨g, 0, none⟩, c, e, by omega, fun j u hj => ⟨(hs u (List.mem_of_getElem? hj)).row, g, 0, rfl, ?_⟩⟩, rfl⟩
  obtain ⟨d0, d1, d2, d3, d4⟩ := hc j u hj
  simp only [Nat.zero_add]
  exact ⟨d0, d1, d2, d3, d4⟩
theorem inV_own {w : World} {go n c : Nat} {sv : Nat → Value} {Ss : Nat → List (In × Value)} {C : List (List In)} {m : Nat → Int × Int} (hn : n = C.length) (hn9 : n ≤ 1000) (hm : MeSt go n sv (fun k => (m k).1) (fun k => (m k).2) w) (hq : ∀ k, k < n → InsQ w (sv k) (Ss k)) (hL : ∀ k, k < n → 1 ≤ (Ss k).length ∧ (Ss k).length ≤ 700) (hs : ∀ k, k < n → ∀ u ∈ Ss k, SpIn w u.2 u.1.sp) (hS : ∀ k, k < n → (Ss k).map (fun u => u.1) = C.getD k []) : InV w (.slice (some ⟨go, 0, none⟩) n c) (withM C m) := by
  refine ⟨(List.range n).map fun k => (⟨C.getD k [], (m k).1, (m k).2⟩, sv k), ⟨some ⟨go, 0, none⟩, c, by simp, by simp; omega, fun j u hj => ?_⟩, ?_⟩
  · rw [List.getElem?_map] at hj
    obtain ⟨k, hk, rfl⟩ := Option.map_eq_some_iff.1 hj
    obtain ⟨h1, h2⟩ := List.getElem?_eq_some_iff.1 hk
    have hkj : k = j := by rw [← h2]; simp
    subst hkj
    have hkn : k < n := by simpa using h1
    refine ⟨?_, go, 0, rfl, ?_⟩
    · have := insOf_own (hq k hkn) (hL k hkn).1 (hL k hkn).2 (hs k hkn)
      rw [hS k hkn] at this
      exact this
    · obtain ⟨c0, c1, c2, _, _⟩ := hm.cells hkn
      simp only [Nat.zero_add]
      exact ⟨c0, c1, c2⟩
  · rw [List.map_map, hn]
    rfl
end Go.Proofs.YtpmobjgnmidolaaGreatDoor

/- The code of rules, plainly; what Compile comes to. -/
namespace Go.Proofs.YtpmobjgnmidolaaGreatDoor
open Go.RowKit Lx Vx Msk
def codeL (l : List Ru) : List (List In) := l.map fun u => codeE (atP5 l) u.2 0
def cmpM (l : List Ru) : Nat → Int × Int := meaF (codeL l) (l.length + 1)
def cmpL (l : List Ru) : List Cd := withM (codeL l) (cmpM l)
def cflt (l : List Ru) : Int × Int := if (chkW l).1 ≠ 0 then ((chkW l).1, ((chkW l).2 : Int)) else if 0 ≤ fstM (cmpM l) l.length 0 then (4, fstM (cmpM l) l.length 0) else (0, 0)
theorem codeL_len (l : List Ru) : (codeL l).length = l.length := by simp [codeL]
theorem codeL_at {l : List Ru} {i : Nat} {u : Ru} (h : l[i]? = some u) : (codeL l).getD i [] = codeE (atP5 l) u.2 0 := by
  simp [codeL, List.getD, h]
theorem wrongL_rt : ∀ {l : List Ru} {i : Nat}, (wrongL l i).1 = 0 → ∀ u ∈ l, Rt u.2
  | [], _, _, u, hu => by cases hu
  | u' :: l, i, h, u, hu => by
    unfold wrongL at h
    by_cases h1 : ruleP u' ≠ 0
    · rw [if_pos h1] at h; exact absurd h h1
    · rw [if_neg h1] at h
      rcases List.mem_cons.1 hu with rfl | hu
      · have h2 : ruleP u = 0 := by simpa using h1
        unfold ruleP at h2
        split at h2
        · cases h2
        · exact h2
      · exact wrongL_rt h u hu
theorem chk_rt {l : List Ru} (h : (chkW l).1 = 0) : l.length ≤ 40 ∧ ∀ u ∈ l, Rt u.2 := by
  have h0 := (chk_lk2 h).1
  refine ⟨(wrongR_oke h0).1, ?_⟩
  unfold wrongR at h0
  split at h0
  · cases h0
  · exact wrongL_rt h0
theorem chk_nm {l : List Ru} (h : (chkW l).1 = 0) {u : Ru} (hu : u ∈ l) {x : List UInt8} (hx : x ∈ nms u.2) : 0 ≤ atP5 l x ∧ atP5 l x < l.length ∧ atP5 l x ∈ spkR l u := by
  have hm : atP5 l x ∈ spkR l u := (spoken_mem (nms u.2) []).2 (.inr ⟨x, hx, rfl⟩)
  have hb := atP5_bd l x
  have hno := (chk_lk2 h).2 u hu
  refine ⟨?_, hb.2, hm⟩
  by_cases q : 0 ≤ atP5 l x
  · exact q
  · have e : atP5 l x = -1 := by omega
    rw [e] at hm
    exact absurd hm hno
theorem muR_le (l : List Ru) (i : Nat) : muR l i ≤ l.length := by
  unfold muR usesL
  split
  · simp
  · unfold mkL
    rw [List.length_map]
    refine Nat.le_trans (List.length_filter_le _ _) ?_
    simp
theorem code_ranked {l : List Ru} (h : (chkW l).1 = 0) : Ranked (codeL l) (muR l) := by
  refine ⟨fun i j x hi hx ho => ?_⟩
  rw [codeL_len] at hi ⊢
  have hu : l[i]? = some l[i] := List.getElem?_eq_getElem hi
  rw [codeL_at hu] at hx
  have hul := List.mem_of_getElem? hu
  obtain ⟨nm, hn, hxa⟩ := code_calls _ _ (Nat.le_refl _) ((chk_rt h).2 _ hul).ok 0 x (List.mem_of_getElem? hx) ho
  obtain ⟨h0, h1, h2⟩ := chk_nm h hul hn
  rw [hxa]
  refine ⟨h0, by omega, muR_lt h hi ?_⟩
  rw [leadS_at hu]
  exact List.mem_map.2 ⟨_, h2, rfl⟩
theorem cmpM_eq {l : List Ru} (h : (chkW l).1 = 0) {i : Nat} (hi : i < l.length) : cmpM l i = reck (codeL l) (cmpM l) i := meaF_eq (code_ranked h) (N := l.length) (fun i _ => muR_le l i) (by rw [codeL_len]; exact hi)
theorem cmpM_small (l : List Ru) : Small (withM (codeL l) (cmpM l)) := meaF_small _ _
theorem codeL_bd {l : List Ru} (h : (chkW l).1 = 0) {i : Nat} (hi : i < l.length) : 1 ≤ ((codeL l).getD i []).length ∧ ((codeL l).getD i []).length ≤ 600 := by
  have hu : l[i]? = some l[i] := List.getElem?_eq_getElem hi
  have hr := (chk_rt h).2 _ (List.mem_of_getElem? hu)
  rw [codeL_at hu]
  have := code_len (atP5 l) _ _ (Nat.le_refl _) hr.ok 0
  have h6 := hr.nod
  omega
theorem cmpM_pos {l : List Ru} (h : (chkW l).1 = 0) {i : Nat} (hi : i < l.length) : 1 ≤ (cmpM l i).2 := by
  rw [cmpM_eq h hi]
  exact (reck_bd (cmpM_small l) i).2.2 (codeL_bd h hi).1
def OutC (l : List Ru) (w : World) (r : Ending) (w' : World) : Prop := ∃ v, r = .returned (.tuple #[v, .agg #[.int .i64 (cflt l).1, .int .i64 (cflt l).2]]) ∧ ((cflt l).1 = 0 → InV w' v (cmpL l)) ∧ ((cflt l).1 ≠ 0 → v = .slice none 0 0) ∧ Below w.heap.size w w'
def zcodes (n : Nat) : Array Value := madeCells #[.slice none 0 0, .int .i64 0, .int .i64 0] (n * 3)
theorem zcodes_at {n i j : Nat} (hi : i < n) (hj : j < 3) : (zcodes n)[i * 3 + j]? = (#[Value.slice none 0 0, .int .i64 0, .int .i64 0] : Array Value)[j]? := by
  have h1 : i * 3 + j < n * 3 := by omega
  have h2 : (i * 3 + j) % 3 = j := by omega
  simp only [zcodes, madeCells]
  match j, hj, h1, h2 with
  | 0, _, h1, h2 => simp at h1 h2 ⊢; simp [h1]
  | 1, _, h1, h2 => simp [h1, h2]
  | 2, _, h1, h2 => simp [h1, h2]
theorem codeInfo7 : (Tryz.prog.info? 32).map (fun i => (i.zero, i.size, i.bytes)) = some (some (.agg #[.slice none 0 0, .int .i64 0, .int .i64 0]), 3, 40) := by kernel_rfl
theorem codesType7 : Tryz.prog.underlying 24 = some (.slice 32) := by kernel_rfl
theorem make_codes (n : Nat) (hn : n ≤ 1000) (w : World) : (Instr.makeSlice 24 (.int .i64 (n : Int)) (.int .i64 (n : Int))).run Tryz.prog w = .ok (.slice (some ⟨w.heap.size, 0, none⟩) n n) (w.alloc (.cells (zcodes n) 32)) := by
  obtain ⟨i, hi, hzz⟩ := Option.map_eq_some_iff.1 codeInfo7
  simp only [Prod.mk.injEq] at hzz
  obtain ⟨hz, hs, hb⟩ := hzz
  have hr := run_make (P := Tryz.prog) w 24 32 i _ codesType7 hi hz .i64 .i64 n n (by omega) (Int.le_refl _) (by rw [hb]; omega) (by omega)
  rw [hs] at hr
  have e : (Value.agg #[.slice none 0 0, .int .i64 0, .int .i64 0]).cells = #[.slice none 0 0, .int .i64 0, .int .i64 0] := rfl
  rw [e] at hr
  simpa [zcodes] using hr
theorem MeSt.made {w : World} {go n : Nat} (h : w.heap[go]? = some (.cells (zcodes n) 32 (0, 0))) : MeSt go n (fun _ => .slice none 0 0) (fun _ => 0) (fun _ => 0) w := by
  refine ⟨_, h, by simp [zcodes, madeCells], fun i hi => ⟨?_, ?_, ?_⟩⟩
  · have := zcodes_at (j := 0) hi (by omega)
    simpa using this
  · exact (zcodes_at (j := 1) hi (by omega)).trans rfl
  · exact (zcodes_at (j := 2) hi (by omega)).trans rfl
def upV (f : Nat → Value) (i : Nat) (v : Value) : Nat → Value := fun k => if k = i then v else f k
theorem upV_at (f : Nat → Value) (i : Nat) (v : Value) : upV f i v i = v := by unfold upV; rw [if_pos rfl]
theorem upV_ne (f : Nat → Value) {i k : Nat} (v : Value) (h : k ≠ i) : upV f i v k = f k := by unfold upV; rw [if_neg h]
theorem MeSt.setV {go n : Nat} {sv : Nat → Value} {H T : Nat → Int} {w : World} (h : MeSt go n sv H T w) {i : Nat} (v : Value) (hi : i < n) : MeSt go n (upV sv i v) H T (w.setCell ⟨go, i * 3, none⟩ v) := by
  obtain ⟨cur, hg, hs, hc⟩ := h
  refine ⟨_, heap_setCell_same w go (i * 3) _ _ _ hg, by rw [Array.size_setIfInBounds]; exact hs, fun k hk => ?_⟩
  obtain ⟨c0, c1, c2⟩ := hc k hk
  refine ⟨?_, ?_, ?_⟩
  · by_cases e : k = i
    · subst e
      rw [upV_at, Array.getElem?_setIfInBounds_self_of_lt (by omega)]
    · rw [upV_ne _ _ e, Array.getElem?_setIfInBounds_ne (by omega)]; exact c0
  · rw [Array.getElem?_setIfInBounds_ne (by omega)]; exact c1
  · rw [Array.getElem?_setIfInBounds_ne (by omega)]; exact c2
theorem MeSt.frozen {go n : Nat} {sv : Nat → Value} {H T : Nat → Int} {w : World} (h : MeSt go n sv H T w) (i : Nat) : w.frozen? ⟨go, i, none⟩ = false := by
  obtain ⟨cur, hg, _⟩ := h
  exact frozen_of_row _ _ _ _ _ hg
theorem MeSt.congr {go n : Nat} {sv : Nat → Value} {H T H' T' : Nat → Int} {w : World} (h : MeSt go n sv H T w) (e : ∀ k, k < n → H k = H' k ∧ T k = T' k) : MeSt go n sv H' T' w := by
  obtain ⟨cur, hg, hs, hc⟩ := h
  refine ⟨cur, hg, hs, fun k hk => ?_⟩
  obtain ⟨c0, c1, c2⟩ := hc k hk
  obtain ⟨e1, e2⟩ := e k hk
  rw [← e1, ← e2]
  exact ⟨c0, c1, c2⟩
theorem SpIn.kept {go n : Nat} {sv : Nat → Value} {H T : Nat → Int} {w w' : World} {v : Value} {l : List (Int × Int)} (h : SpIn w v l) (hm : MeSt go n sv H T w) (hk : Kept go w w') : SpIn w' v l := by
  obtain ⟨cur', hg', _⟩ := hm
  rcases h with h | ⟨g, c, cur, e, hl, hg, hx⟩
  · exact .inl h
  · refine .inr ⟨g, c, cur, e, hl, (hk.block g (lt_of_block hg) (fun q => ?_)).trans hg, hx⟩
    have q' : g = go := Option.some.inj q
    subst q'
    rw [hg] at hg'
    injection hg' with hb
    injection hb with _ h2 _
    exact absurd h2 (by decide)
theorem below_kept {B go : Nat} {w w' w'' : World} (h : Below B w w') (hk : Kept go w' w'') (hg : B ≤ go) (hB : B ≤ w'.heap.size) : Below B w w'' :=
  ⟨hk.os.trans h.os, hk.tape.trans h.tape, hk.output.trans h.output, Nat.le_trans h.size hk.size, fun k hb => (hk.block k (Nat.lt_of_lt_of_le hb hB) (fun e => by have := Option.some.inj e; omega)).trans (h.block k hb)⟩
def Laid (l : List Ru) (w : World) (sv : Nat → Value) (Ss : Nat → List (In × Value)) (k : Nat) : Prop := InsQ w (sv k) (Ss k) ∧ (Ss k).map (fun u => u.1) = (codeL l).getD k [] ∧ ∀ u ∈ Ss k, SpIn w u.2 u.1.sp
theorem Laid.kept {l : List Ru} {go n : Nat} {sv sv' : Nat → Value} {H T : Nat → Int} {w w' : World} {Ss : Nat → List (In × Value)} {k : Nat} (h : Laid l w sv Ss k) (hm : MeSt go n sv' H T w) (hk : Kept go w w') : Laid l w' sv Ss k := ⟨h.1.kept hm hk, h.2.1, fun u hu => (h.2.2 u hu).kept hm hk⟩
theorem Laid.ext {l : List Ru} {sv sv' : Nat → Value} {w : World} {Ss Ss' : Nat → List (In × Value)} {k : Nat} (h : Laid l w sv Ss k) (e1 : sv' k = sv k) (e2 : Ss' k = Ss k) : Laid l w sv' Ss' k := by
  unfold Laid
  rw [e1, e2]
  exact h
def upS (f : Nat → List (In × Value)) (i : Nat) (v : List (In × Value)) : Nat → List (In × Value) := fun k => if k = i then v else f k
theorem upS_at (f : Nat → List (In × Value)) (i : Nat) (v : List (In × Value)) : upS f i v i = v := by unfold upS; rw [if_pos rfl]
theorem upS_ne (f : Nat → List (In × Value)) {i k : Nat} (v : List (In × Value)) (h : k ≠ i) : upS f i v k = f k := by unfold upS; rw [if_neg h]
theorem own_zero {w : World} {b size n : Nat} {e : TypeId} {v : Value} {xs : List Value} (h : w.ownsRow b e size v n xs) : w.ownsRow 0 e size v n xs := by
  obtain ⟨h1, h2⟩ := h
  rcases h2 with h2 | ⟨g, cap, cur, e, q, r⟩
  · exact ⟨h1, .inl h2⟩
  · exact ⟨h1, .inr ⟨g, cap, cur, e, Nat.zero_le _, r⟩⟩
theorem comp_post {R : Ending → World → Prop} {a : Act} {w : World} (g : Nat) (v : Value) (er at_ : Int) (hd : a.defers = []) (h2 : a.tmps.getD 2 undef = v) (h3 : a.tmps.getD 3 undef = .pointer (some ⟨g, 0, none⟩))
    (hg : w.heap[g]? = some (.cells #[.int .i64 er, .int .i64 at_] 27 (0, 0))) (hR : R (.returned (.tuple #[v, .agg #[.int .i64 er, .int .i64 at_]])) w) : bodyPost Tryz.prog Tryz.f5 R .ret a w := by
  refine bodyPost_ret (v := .tuple #[v, .agg #[.int .i64 er, .int .i64 at_]]) ?_ hd hR
  have h2' : a.tmps[2]?.getD undef = v := by simpa using h2
  have h3' : a.tmps[3]?.getD undef = .pointer (some ⟨g, 0, none⟩) := by simpa using h3
  have hv := run_loadVar_row (P := Tryz.prog) w g 27 27 _ _ _ hg faultType rfl (by kernel_rfl)
  simp [results, Tryz.results5, h2', h3', asAddr, hv]
theorem fst_bd (m : Nat → Int × Int) : ∀ (k j n : Nat), j + k ≤ n → -1 ≤ fstM m k j ∧ fstM m k j ≤ (n : Int)
  | 0, j, n, _ => by simp only [fstM]; omega
  | k + 1, j, n, h => by
    have ih := fst_bd m k (j + 1) n (by omega)
    simp only [fstM]
    split
    · omega
    · exact ih
theorem InsQ.set {w : World} {v : Value} {S : List (In × Value)} (h : InsQ w v S) {g : Nat} {c : Array Value} (hg : w.heap[g]? = some (.cells c 27 (0, 0))) (xs : Array Value) : InsQ (w.setRow g xs) v S :=
  World.ownsRow.kept h (row := some g) ⟨rfl, rfl, rfl, by simp, fun q _ hne => setRow_other w g q xs (fun e => hne (congrArg some e))⟩ (.inr fun e => own_neI h hg (by decide) e.symm)
theorem SpIn.set {w : World} {v : Value} {l : List (Int × Int)} (h : SpIn w v l) {g : Nat} {c : Array Value} (hg : w.heap[g]? = some (.cells c 27 (0, 0))) (xs : Array Value) : SpIn (w.setRow g xs) v l := by
  rcases h with h | ⟨g', c', cur, e, hl, hg', hx⟩
  · exact .inl h
  · refine .inr ⟨g', c', cur, e, hl, (setRow_other w g g' xs (fun q => ?_)).trans hg', hx⟩
    rw [q, hg] at hg'
    injection hg' with hb
    injection hb with _ h2 _
    exact absurd h2 (by decide)
end Go.Proofs.YtpmobjgnmidolaaGreatDoor

/- What is compiled is right. -/
namespace Go.Proofs.YtpmobjgnmidolaaGreatDoor
open Go.RowKit Lx Vx Msk
theorem insL_zero {n r : Nat} : ∀ (l : List In) (k : Nat), (∀ j x, l[j]? = some x → insE x (k + j) n r = 0) → insL l k n r = 0
  | [], _, _ => rfl
  | x :: l, k, h => by
    have h0 := h 0 x rfl
    rw [Nat.add_zero] at h0
    simp only [insL]
    rw [if_neg (by simpa using h0)]
    exact insL_zero l (k + 1) fun j y hy => by
      have := h (j + 1) y (by simpa using hy)
      rw [show k + (j + 1) = k + 1 + j by omega] at this
      exact this
theorem wars_rank {E : Nat → Nat → Bool} {ρ : Nat → Nat} (h : ∀ i k, E i k = true → ρ k < ρ i) : ∀ (m i k : Nat), Vx.wars E m i k = true → ρ k < ρ i
  | 0, i, k, hw => h i k hw
  | m + 1, i, k, hw => by
    simp only [Vx.wars, Bool.or_eq_true, Bool.and_eq_true] at hw
    rcases hw with hw | ⟨h1, h2⟩
    · exact wars_rank h m i k hw
    · have a := wars_rank h m i m h1
      have b := wars_rank h m m k h2
      omega
theorem fst_none {m : Nat → Int × Int} : ∀ (k j : Nat), ¬ 0 ≤ fstM m k j → ∀ i, j ≤ i → i < j + k → much (m i) = false
  | 0, _, _, i, h1, h2 => by omega
  | k + 1, j, h, i, h1, h2 => by
    simp only [fstM] at h
    by_cases hm : much (m j) = true
    · rw [if_pos hm] at h
      omega
    · rw [if_neg hm] at h
      by_cases e : i = j
      · subst e
        simpa using hm
      · exact fst_none k (j + 1) h i (by omega) (by omega)
theorem cflt_ok {l : List Ru} (h : (cflt l).1 = 0) : (chkW l).1 = 0 ∧ ∀ i, i < l.length → much (cmpM l i) = false := by
  unfold cflt at h
  by_cases h0 : (chkW l).1 ≠ 0
  · rw [if_pos h0] at h
    exact absurd h h0
  · rw [if_neg h0] at h
    refine ⟨by simpa using h0, ?_⟩
    by_cases h1 : 0 ≤ fstM (cmpM l) l.length 0
    · rw [if_pos h1] at h
      exact absurd h (by show ¬ (4 : Int) = 0; omega)
    · intro i hi
      exact fst_none _ _ h1 i (Nat.zero_le _) (by omega)
theorem cmpL_len (l : List Ru) : (cmpL l).length = l.length := by unfold cmpL; rw [withM_len, codeL_len]
theorem cmpL_at {l : List Ru} {i : Nat} (hi : i < l.length) : (cmpL l)[i]? = some ⟨(codeL l).getD i [], (cmpM l i).1, (cmpM l i).2⟩ := by
  unfold cmpL withM
  rw [List.getElem?_map, List.getElem?_range (by rw [codeL_len]; exact hi)]
  rfl
theorem cmp_well {l : List Ru} (h : (chkW l).1 = 0) {i : Nat} (hi : i < l.length) : WellV ((codeL l).getD i []) ∧ ∀ j x, ((codeL l).getD i [])[j]? = some x → insE x j ((codeL l).getD i []).length l.length = 0 := by
  have hu : l[i]? = some l[i] := List.getElem?_eq_getElem hi
  have hm := List.mem_of_getElem? hu
  rw [codeL_at hu]
  exact code_well ((chk_rt h).2 _ hm).ok fun x hx => ⟨(chk_nm h hm hx).1, (chk_nm h hm hx).2.1⟩
theorem cmp_right {l : List Ru} (h : (cflt l).1 = 0) : Right (cmpL l) := by
  obtain ⟨hc, hm⟩ := cflt_ok h
  have hlen := cmpL_len l
  have at_ : ∀ {i : Nat} {c : Cd}, (cmpL l)[i]? = some c → i < l.length ∧ c = ⟨(codeL l).getD i [], (cmpM l i).1, (cmpM l i).2⟩ := fun {i c} hx => by
    have hi : i < l.length := by rw [← hlen]; exact (List.getElem?_eq_some_iff.1 hx).1
    rw [cmpL_at hi] at hx
    exact ⟨hi, (Option.some.inj hx).symm⟩
  have lim : ∀ i, i < l.length → mxH (cmpL l) ((codeL l).getD i []) ((codeL l).getD i []).length = (cmpM l i).1 ∧ stS (cmpL l) ((codeL l).getD i []) ((codeL l).getD i []).length = (cmpM l i).2 ∧ 1 ≤ (cmpM l i).1 ∧ (cmpM l i).1 ≤ 100 ∧ 1 ≤ (cmpM l i).2 ∧ (cmpM l i).2 ≤ 20000 := fun i hi => by
    have e := cmpM_eq hc hi
    have hno := hm i hi
    unfold much at hno
    rw [Bool.or_eq_false_iff, decide_eq_false_iff_not, decide_eq_false_iff_not] at hno
    have e1 : (cmpM l i).1 = min (mxH (cmpL l) ((codeL l).getD i []) ((codeL l).getD i []).length) 101 := congrArg Prod.fst e
    have e2 : (cmpM l i).2 = min (stS (cmpL l) ((codeL l).getD i []) ((codeL l).getD i []).length) 20001 := congrArg Prod.snd e
    have hp := cmpM_pos hc hi
    have hf := (cmp_well hc hi).1.fin
    have ht := hAt_mx (cmpL l) ((codeL l).getD i []) ((codeL l).getD i []).length
    omega
  refine ⟨by rw [hlen]; exact (chk_rt hc).1, fun i c hx => ?_, fun i hi => ?_, fun i c hx => ?_⟩
  · obtain ⟨hi, rfl⟩ := at_ hx
    have hb := codeL_bd hc hi
    have hl := lim i hi
    unfold aloneE
    rw [if_neg (by intro q; exact q ⟨hb.1, Nat.le_trans hb.2 (by omega)⟩), if_neg (by intro q; exact q ⟨⟨hl.2.2.1, hl.2.2.2.1⟩, hl.2.2.2.2⟩)]
    refine insL_zero _ _ fun j x hjx => ?_
    rw [Nat.zero_add, hlen]
    exact (cmp_well hc hi).2 j x hjx
  · cases hw : Vx.wars (callE (cmpL l)) (cmpL l).length i i with
    | false => rfl
    | true =>
      have := wars_rank (ρ := muR l) (E := callE (cmpL l)) (fun i k hE => by
        unfold callE at hE
        rw [List.any_eq_true] at hE
        obtain ⟨x, hx, hxp⟩ := hE
        rw [Bool.and_eq_true, decide_eq_true_eq, decide_eq_true_eq] at hxp
        by_cases hi : i < l.length
        · have hxc : (cmpL l).getD i cd0 = ⟨(codeL l).getD i [], (cmpM l i).1, (cmpM l i).2⟩ := cd_at (cmpL_at hi)
          rw [hxc] at hx
          obtain ⟨j, hj, hjx⟩ := List.mem_iff_getElem.1 hx
          have hjx' : ((codeL l).getD i [])[j]? = some x := by rw [List.getElem?_eq_getElem hj]; exact congrArg some hjx
          have := ((code_ranked hc).lt i j x (by rw [codeL_len]; exact hi) hjx' hxp.1).2.2
          rw [hxp.2, Int.toNat_natCast] at this
          exact this
        · have : (cmpL l).getD i cd0 = cd0 := by
            have : (cmpL l)[i]? = none := List.getElem?_eq_none (by rw [hlen]; omega)
            simp [List.getD, this]
          rw [this] at hx
          cases hx) _ i i hw
      omega
  · obtain ⟨hi, rfl⟩ := at_ hx
    have hl := lim i hi
    exact ⟨(cmp_well hc hi).1, hl.1, hl.2.1⟩
end Go.Proofs.YtpmobjgnmidolaaGreatDoor

/- Code is no longer than rules are, plainly. -/
namespace Go.Proofs.YtpmobjgnmidolaaGreatDoor
open Go.RowKit Lx Vx Msk
theorem size_facts {l : List Ru} (h : (cflt l).1 = 0) {i : Nat} {u : Ru} (hu : l[i]? = some u) : ((codeL l).getD i []).length ≤ nodE u.2 ∧ (((codeL l).getD i []).length : Int) ≤ (cmpM l i).2 ∧ (stdE u.2 = true → (codeL l).getD i [] = [⟨1, 0, 0, 0, rs (mnE u.2) 1440⟩]) := by
  have hi : i < l.length := (List.getElem?_eq_some_iff.1 hu).1
  have hc := (cflt_ok h).1
  have hr := (chk_rt hc).2 _ (List.mem_of_getElem? hu)
  have hf := (cmp_right h).fit i _ (cmpL_at hi)
  have hs : stS (cmpL l) ((codeL l).getD i []) ((codeL l).getD i []).length = (cmpM l i).2 := hf.steps
  have hb := (stS_bd (cmpM_small l) ((codeL l).getD i []) ((codeL l).getD i []).length).1
  refine ⟨?_, ?_, fun hstd => ?_⟩
  · rw [codeL_at hu]
    exact (code_len (atP5 l) _ _ (Nat.le_refl _) hr.ok 0).2
  · rw [← hs]
    exact hb
  · rw [codeL_at hu, code_std hstd]
end Go.Proofs.YtpmobjgnmidolaaGreatDoor

/- What is wrong with tokens has a number that is not nought; and the rules of two texts, one behind the other. -/
namespace Lx
end Lx
namespace Go.Proofs.YtpmobjgnmidolaaGreatDoor
open Go.RowKit Lx
end Go.Proofs.YtpmobjgnmidolaaGreatDoor

/- The texts that alive asks of, and what is told of their rules: plain. -/
namespace Go.Proofs.YtpmobjgnmidolaaGreatDoor
open Go.RowKit Lx
def xN (n : UInt8) : Ex := ⟨10, 0, 0, [n], []⟩
end Go.Proofs.YtpmobjgnmidolaaGreatDoor

/- The text that the laws of code ask of first, and its code: plain. -/
namespace Go.Proofs.YtpmobjgnmidolaaGreatDoor
open Go.RowKit Lx Vx Msk
def a7S : List UInt8 := [114, 117, 108, 101, 32, 97, 32, 61, 32, 48, 57, 58, 48, 48, 45, 49, 48, 58, 48, 48, 32, 43, 32, 49, 48, 58, 48, 48, 45, 49, 49, 58, 48, 48, 59, 32, 114, 117, 108, 101, 32, 98, 32, 61, 32, 97, 32, 45, 32, 119, 101, 101, 107, 108, 121, 32, 109, 111, 110, 58, 32, 97, 59]
def a7X : Ex := ⟨6, 0, 0, [], [⟨3, 540, 600, [], []⟩, ⟨3, 600, 660, [], []⟩]⟩
def a7W : Ex := ⟨4, 1, 0, [], [xN 97]⟩
def a7Y : Ex := ⟨7, 0, 0, [], [xN 97, a7W]⟩
def a7L : List Ru := [([97], a7X), ([98], a7Y)]
def a7T : List Tk := ((iterN a7S 21).getD ([], 0)).1
theorem a7_iter : iterN a7S 21 = some (a7T, 63) := by kernel_rfl
theorem a7_rules : rulesR a7S.length (a7T.length + 1) [] a7T = .ok a7L := by kernel_rfl
theorem a7_wrong : wrongR a7L = (0, 0) := by
  have s1 : (shapeP a7X 1 0).1 = 0 := by
    simp only [a7X, shapeP_eq, shapeL_cons, shapeL_nil]
    decide
  have s2 : (shapeP a7Y 1 0).1 = 0 := by
    simp only [a7Y, a7W, xN, shapeP_eq, shapeL_cons, shapeL_nil]
    decide
  unfold wrongR a7L wrongL ruleP
  rw [s1]
  unfold wrongL ruleP
  rw [s2]
  decide
theorem a7_spk0 : spkR a7L ([97], a7X) = [] := by
  have : nms a7X = [] := by simp [a7X, nms_eq, nmsL]
  unfold spkR
  dsimp only
  rw [this]
  decide
theorem a7_spk1 : spkR a7L ([98], a7Y) = [0] := by
  have : nms a7Y = [[97], [97]] := by simp [a7Y, a7W, xN, nms_eq, nmsL]
  unfold spkR
  dsimp only
  rw [this]
  decide
theorem a7_lead : leadS a7L = fun i => ([[], [0]] : List (List Nat)).getD i [] := by
  funext i
  match i with
  | 0 => exact (leadS_at rfl).trans (by rw [a7_spk0]; rfl)
  | 1 => exact (leadS_at rfl).trans (by rw [a7_spk1]; rfl)
  | i + 2 => rfl
theorem a7_chk : chkW a7L = (0, 0) := by
  refine chk_d (by rw [a7_wrong]) ?_ ?_ ?_
  · intro i hi
    match i, hi with
    | 0, _ => decide
    | 1, _ => decide
    | i + 2, hi => exact absurd hi (by show ¬ (i + 2 < 2); omega)
  · intro i hi
    match i, hi with
    | 0, _ => show decide (-1 ∈ spkR a7L ([97], a7X)) = false; rw [a7_spk0]; decide
    | 1, _ => show decide (-1 ∈ spkR a7L ([98], a7Y)) = false; rw [a7_spk1]; decide
    | i + 2, hi => exact absurd hi (by show ¬ (i + 2 < 2); omega)
  · intro i hi
    unfold lk3
    rw [a7_lead]
    match i, hi with
    | 0, _ => decide
    | 1, _ => decide
    | i + 2, hi => exact absurd hi (by show ¬ (i + 2 < 2); omega)
theorem a7_std : stdE a7X = true := by
  have h (a b : Int) : stdE ⟨3, a, b, [], []⟩ = true := by
    rw [stdE_eq]
    rfl
  rw [stdE_eq]
  simp [a7X, h]
theorem xN_std (n : UInt8) : stdE (xN n) = false := by
  rw [stdE_eq]
  rfl
theorem a7_std1 : stdE a7Y = false := by
  rw [stdE_eq]
  simp [a7Y, xN_std]
theorem a7_c0 : (codeL a7L).getD 0 [] = [⟨1, 0, 0, 0, rs (mnE a7X) 1440⟩] := by
  rw [codeL_at (u := ([97], a7X)) rfl, code_std a7_std]
theorem a7_c1 : (codeL a7L).getD 1 [] = [⟨8, 0, 0, 0, []⟩, ⟨6, 1, 0, 3, []⟩, ⟨8, 0, 0, 0, []⟩, ⟨3, 0, 0, 0, []⟩] := by
  have e0 (b : Nat) : codeE (atP5 a7L) (xN 97) b = [⟨8, 0, 0, 0, []⟩] := code_name rfl b
  have e1 : codeE (atP5 a7L) a7W 1 = [⟨6, 1, 0, 3, []⟩, ⟨8, 0, 0, 0, []⟩] := by
    rw [code_week (k := xN 97) rfl rfl, e0]
    rfl
  rw [codeL_at (u := ([98], a7Y)) rfl, code_pair (k := xN 97) (m := a7W) a7_std1 (.inr (.inl rfl)) rfl, e0]
  show _ ++ codeE (atP5 a7L) a7W 1 ++ _ = _
  rw [e1]
  rfl
theorem a7_m0 : cmpM a7L 0 = (1, 1) := by
  rw [cmpM_eq (by rw [a7_chk]) (by decide)]
  unfold reck
  rw [a7_c0]
  rfl
theorem a7_m1 : cmpM a7L 1 = (2, 6) := by
  have h0 : (withM (codeL a7L) (cmpM a7L)).getD 0 cd0 = ⟨(codeL a7L).getD 0 [], 1, 1⟩ := by
    rw [withM_at (by decide), a7_m0]
  rw [cmpM_eq (by rw [a7_chk]) (by decide)]
  unfold reck
  rw [a7_c1]
  show (min (mxH _ _ 4) 101, min (stS _ _ 4) 20001) = _
  rw [List.getD_eq_getElem?_getD] at h0
  simp [mxH, stS, hAt, eff, h0, in0]
  try decide
theorem a7_flt : cflt a7L = (0, 0) := by
  unfold cflt
  rw [a7_chk, if_neg (by decide)]
  have : fstM (cmpM a7L) a7L.length 0 = -1 := by
    show fstM (cmpM a7L) 2 0 = -1
    unfold fstM
    rw [a7_m0, if_neg (by decide)]
    unfold fstM
    rw [a7_m1, if_neg (by decide)]
    rfl
  rw [this, if_neg (by decide)]
end Go.Proofs.YtpmobjgnmidolaaGreatDoor

/- What the laws' own question of check comes to: true. -/
namespace Go.Proofs.YtpmobjgnmidolaaGreatDoor
open Go.RowKit Lx
def NmK : Nat → List Ex → Prop
  | 0, _ => True
  | d + 1, ks => ∀ (j : Nat) (k : Ex), ks[j]? = some k → k.name.length ≤ 9223372036854775807 ∧ NmK d k.kids
theorem nmk_nil : ∀ d, NmK d []
  | 0 => trivial
  | d + 1 => fun j k h => by simp at h
theorem nmk_cons {k : Ex} {ks : List Ex} (h1 : k.name.length ≤ 9223372036854775807) (h2 : ∀ d, NmK d k.kids) (h3 : ∀ d, NmK d ks) : ∀ d, NmK d (k :: ks)
  | 0 => trivial
  | d + 1 => fun j q h => by
    cases j with
    | zero =>
      simp at h
      subst h
      exact ⟨h1, h2 d⟩
    | succ j => exact h3 (d + 1) j q (by simpa using h)
theorem kidsK_of_at {B : Nat → Prop} : ∀ {d : Nat} {w : World} {sl : Value} {ks : List Ex}, KidsAt B d w sl ks → NmK d ks → KidsB (fun k => k < w.heap.size) d w sl ks
  | 0, _, _, _, h, _ => h
  | d + 1, w, sl, ks, h, hn => by
    rcases h with h | ⟨g, o, c, hB, hs, hl, hk⟩
    · exact .inl h
    · by_cases h0 : ks = []
      · subst h0
        exact .inl ⟨rfl, _, c, hs⟩
      · obtain ⟨k0, hk0⟩ : ∃ k, ks[0]? = some k := by
          cases ks with
          | nil => exact absurd rfl h0
          | cons x l => exact ⟨x, rfl⟩
        obtain ⟨_, q0, _⟩ := hk 0 k0 hk0
        refine .inr ⟨g, o, c, block_lt_of_cell q0, hs, hl, fun j k hj => ?_⟩
        obtain ⟨sk, c0, c1, c2, c3, c4, r⟩ := hk j k hj
        obtain ⟨n1, n2⟩ := hn j k hj
        exact ⟨n1, sk, c0, c1, c2, c3, c4, kidsK_of_at r n2⟩
def NmR (L : List Ru) : Prop := ∀ p ∈ L, p.1.length ≤ 9223372036854775807 ∧ p.2.name.length ≤ 9223372036854775807 ∧ ∀ d, NmK d p.2.kids
theorem inR_of_made {w0 w : World} {v : Value} {us : List (Ru × Value)} (h : RowR w0 w v us) (hl : us.length ≤ 40) (hn : NmR (us.map (fun p => p.1))) : InR w v us := by
  refine ⟨rrow_of_owns h.own (by omega), by omega, fun p hp => ?_⟩
  obtain ⟨d, hd⟩ := h.kids p hp
  obtain ⟨n1, n2, n3⟩ := hn p.1 (List.mem_map.2 ⟨p, hp, rfl⟩)
  exact ⟨n1, n2, d, kidsK_of_at hd (n3 d)⟩
theorem tells_of {s : List UInt8} {n : Nat} {T : List Tk} {L : List Ru} (hit : iterN s n = some (T, s.length)) (hr : rulesR s.length (T.length + 1) [] T = .ok L) (h6 : s.length ≤ 6000) {w0 w : World} {v : Value} {er at_ : Int} (h : PTells s w0 w v er at_) : er = 0 ∧ ∃ us, us.map (fun p => p.1) = L ∧ us.length ≤ 40 ∧ RowR w0 w v us := by
  have hk : ¬ (s.length < s.length ∧ (firstT (s.drop s.length)).err = 0) := fun h => absurd h.1 (by omega)
  have hx : Lexed s T s.length := ⟨n, hit⟩
  rcases h with ⟨h, _⟩ | ⟨ts, k, _, h2, h3, h4, _⟩ | ⟨ts, k, er', at', _, h2, h3, h4, _⟩ | ⟨ts, k, us, _, h2, h3, h4, h5, h6', h7, _⟩
  · omega
  · obtain ⟨_, e⟩ := lexed_one hx h2 hk (fun h => h4 h.2)
    omega
  · obtain ⟨e, _⟩ := lexed_one hx h2 hk (fun h => h3 h.1)
    subst e
    rw [hr] at h4; cases h4
  · obtain ⟨e, _⟩ := lexed_one hx h2 hk (fun h => h3 h.1)
    subst e
    rw [hr] at h4
    exact ⟨h7, us, (Except.ok.inj h4).symm, h5, h6'⟩
def OutRu (L : List Ru) (w : World) (e : Ending) (w' : World) : Prop := ∃ v us, e = .returned v ∧ us.map (fun p => p.1) = L ∧ InR w' v us ∧ Below w.heap.size w w'
def PT2 (w : World) : Prop := ∀ w', Below w.heap.size w w' → CTab w' ∧ DTab w'
end Go.Proofs.YtpmobjgnmidolaaGreatDoor

/- What code.Compile comes to. -/
namespace Go.Proofs.YtpmobjgnmidolaaGreatDoor
open Go.RowKit Lx Vx Msk
set_option maxRecDepth 100000 in
set_option maxHeartbeats 8000000 in
theorem compile_any (us : List (Ru × Value)) (v : Value) (w : World) (h : InR w v us) (hT : Tab w) : Calls Tryz.prog 5 #[v] w (OutC (us.map (fun p => p.1)) w) := by
  obtain ⟨l, hl⟩ : ∃ l, us.map (fun p => p.1) = l := ⟨_, rfl⟩
  obtain ⟨n, hn⟩ : ∃ n, us.length = n := ⟨_, rfl⟩
  have hll : l.length = n := by rw [← hl, List.length_map, hn]
  obtain ⟨pv, cv, rfl⟩ := h.form
  have bA := (Below.refl w.heap.size w).alloc (Nat.le_refl _) (.cells #[.int .i64 0, .int .i64 0] 27)
  have n1 := heap_alloc_new w (.cells #[.int .i64 0, .int .i64 0] 27)
  generalize hwA : w.alloc (.cells #[.int .i64 0, .int .i64 0] 27) = wA at *
  have cW := chk_any us _ wA (h.below bA)
  rw [hl] at cW
  rw [hl, hn]
  have HL := hid5 hl
  have HLN := hid5 hn
  have HLL := hid5 hll
  have HI0 := hid5 h
  have HT0 := hid5 hT
  rw [hn] at cW
  clear hl hll h hn hT
  go_enter Tryz.func5, Tryz.ntmps5
  go_wp2_with fail
  refine cW.mono ?_
  rintro r w1 ⟨rfl, hb1⟩
  have m2 := (hb1.block _ (lt_of_block n1)).trans n1
  have hb1w := bA.trans (hb1.mono bA.size)
  clear cW n1 hb1 bA hwA
  by_cases h0 : (chkW l).1 = 0
  · have h40 := (chk_rt h0).1
    rw [HLL.out] at h40
    have H0 := hid5 h0
    rw [h0]
    generalize (((chkW l).2 : Nat) : Int) = at0 at *
    have bC := (Below.refl w1.heap.size w1).alloc (Nat.le_refl _) (.cells #[.int .i64 0, .int .i64 at0] 27)
    have HBw := hid5 (hb1w.trans (bC.mono hb1w.size))
    have HR := hid5 ((bC.block _ (lt_of_block m2)).trans m2)
    have m3 := heap_alloc_new w1 (.cells #[.int .i64 0, .int .i64 at0] 27)
    have Hn40 := hid5 h40
    have hI40 : (n : Int) ≤ 40 := by omega
    have hI0 : (0 : Int) ≤ (n : Int) := by omega
    clear bC hb1w m2 h0
    generalize hw2 : w1.alloc (.cells #[.int .i64 0, .int .i64 at0] 27) = wB at *
    have z0 := (cell_of_row _ _ 0 _ _ _ m3).trans rfl
    have cN := numbers_any us _ wB (HI0.out.below HBw.out)
    unfold OutNu at cN
    rw [HL.out, HLN.out] at cN
    clear m3
    go_wp2_with fail
    refine cN.mono ?_
    rintro r w3 ⟨mb, rfl, hmb, hmp, b3⟩
    have hB3 := HBw.out.trans (b3.mono HBw.out.size)
    have r3 := (b3.block _ (lt_of_block HR.out)).trans HR.out
    have bM := (Below.refl w3.heap.size w3).alloc (Nat.le_refl _) (.cells (zcodes n) 32)
    have nM := heap_alloc_new w3 (.cells (zcodes n) 32)
    have hmk := make_codes n (by omega) w3
    have hmpM := hmp.later (bM.block _ (lt_of_map hmp))
    have hBM := hB3.trans (bM.mono hB3.size)
    have rM := (bM.block _ (lt_of_block r3)).trans r3
    have hmbg := lt_of_map hmp
    have hrg := lt_of_block r3
    obtain ⟨go, hgo⟩ : ∃ q, w3.heap.size = q := ⟨_, rfl⟩
    have hwgo : w.heap.size ≤ go := by rw [← hgo]; exact hB3.size
    generalize hwM : w3.alloc (.cells (zcodes n) 32) = wM at *
    rw [hgo] at nM hmk hmbg hrg
    have hszM : w.heap.size ≤ wM.heap.size := hBM.size
    have HMM := hid5 (MeSt.made nM)
    have HMP := hid5 hmpM
    have HBM := hid5 hBM
    have HRM := hid5 rM
    have hgrne : w.heap.size ≠ go := by omega
    have hmbne : mb ≠ go := by omega
    clear hw2 cN hmp b3 hB3 r3 bM nM hmpM hBM rM HR HBw z0
    go_wp2_with fail
    clear hmk hwM hgo
    go_loopw [7, 8, 9, 25] (fun _ _ _ t wr => ∃ (j : Nat) (sv : Nat → Value) (Ss : Nat → List (In × Value)), t = .int .i64 (j : Int) ∧ j ≤ n ∧ MeSt go n sv (fun _ => 0) (fun _ => 0) wr ∧ (∀ k, k < j → Laid l wr sv Ss k) ∧ Kept go wM wr) (fun _ _ _ t _ => n - (intOf t).toNat)
    case atStart => exact ⟨0, _, fun _ => [], rfl, by omega, HMM.out, fun k hk => by omega, Kept.refl _ _⟩
    case round =>
      obtain ⟨j, sv, Ss, rfl, hj, hms, hld, hkp⟩ := hrel
      clear HMM
      have hj0 : (0 : Int) ≤ (j : Int) := by omega
      have hbr := below_kept HBM.out hkp hwgo hszM
      by_cases hlt : j < n
      · have hlt' : (j : Int) < (n : Int) := by omega
        obtain ⟨p, hjp⟩ : ∃ p, us[j]? = some p := ⟨us[j]'(by have := HLN.out; omega), List.getElem?_eq_getElem _⟩
        have hinr := HI0.out.below hbr
        have HCL := hid5 hinr.cells
        obtain ⟨g, o, hpe, d0, d1, d2, d3, d4, d5⟩ := HCL.out j p hjp
        subst hpe
        have hpm := List.mem_of_getElem? hjp
        obtain ⟨hnl, hel, dd, hkb⟩ := hinr.all p hpm
        obtain ⟨ps, cs, hps⟩ := hkb.form
        have hlj : l[j]? = some p.1 := by rw [← HL.out, List.getElem?_map, hjp]; rfl
        have hlm := List.mem_of_getElem? hlj
        obtain ⟨⟨nm, e⟩, sk⟩ := p
        dsimp only at d0 d1 d2 d3 d4 d5 hel hkb hps hnl hlj hlm
        subst hps
        have hrt := (chk_rt H0.out).2 _ hlm
        have HLJ := hid5 hlj
        have bR := (Below.refl wr.heap.size wr).alloc (Nat.le_refl _) (.cells #[.string ⟨nm.toArray⟩, .int .i64 e.kind, .int .i64 e.a, .int .i64 e.b, .string ⟨e.name.toArray⟩, .slice ps e.kids.length cs] 38)
        have nR := heap_alloc_new wr (.cells #[.string ⟨nm.toArray⟩, .int .i64 e.kind, .int .i64 e.a, .int .i64 e.b, .string ⟨e.name.toArray⟩, .slice ps e.kids.length cs] 38)
        generalize hwR : wr.alloc (.cells #[.string ⟨nm.toArray⟩, .int .i64 e.kind, .int .i64 e.a, .int .i64 e.b, .string ⟨e.name.toArray⟩, .slice ps e.kids.length cs] 38) = wR at *
        have bZ := (Below.refl wR.heap.size wR).alloc (Nat.le_refl _) (.cells #[.map none, .slice none 0 0] 53)
        have nZ := heap_alloc_new wR (.cells #[.map none, .slice none 0 0] 53)
        generalize hwZ : wR.alloc (.cells #[.map none, .slice none 0 0] 53) = wZ at *
        have bW := below_setRow bZ (Nat.le_refl _) #[.map (some mb), .slice none 0 0]
        have nW := setRow_heap _ _ _ #[.map (some mb), .slice none 0 0] _ _ nZ
        have nR2 := (bW.block _ (lt_of_block nR)).trans nR
        generalize hwW : wZ.setRow wR.heap.size #[.map (some mb), .slice none 0 0] = wW at *
        have hokW : WOk wR wR.heap.size (.map (some mb)) [] wW := ⟨⟨bW, Nat.le_refl _, _, nW, World.ownsRow_nil _ _ _ _⟩, fun u hu => by cases hu⟩
        have hmpR : MapN wR mb l := by
          have h1 := HMP.out.later (hkp.block _ (lt_of_map HMP.out) (fun e => hmbne (Option.some.inj e)))
          exact h1.later (bR.block _ (lt_of_map h1))
        have hTR : Tab wR := tab_below (tab_below HT0.out hbr) bR
        have hkbR : KidsB (fun k => k < wR.heap.size) dd wR (.slice ps e.kids.length cs) e.kids := (hkb.kept fun g _ hl => bR.block g hl).mono fun g hg => Nat.lt_of_lt_of_le hg bR.size
        have cE := expr_any wR wR.heap.size mb l hmpR hTR dd e _ hkbR hrt hel (fun x hx => (chk_nm H0.out hlm hx).1) [] wW hokW (by have := hrt.nod; simpa using Nat.le_trans this (by omega))
        unfold exV at cE
        have y1 := (cell_of_row _ _ 1 _ _ _ nR2).trans rfl
        have y2 := (cell_of_row _ _ 2 _ _ _ nR2).trans rfl
        have y3 := (cell_of_row _ _ 3 _ _ _ nR2).trans rfl
        have y4 := (cell_of_row _ _ 4 _ _ _ nR2).trans rfl
        have y5 := (cell_of_row _ _ 5 _ _ _ nR2).trans rfl
        have HMS := hid5 hms
        have HLD := hid5 hld
        have HKP := hid5 hkp
        have HBR := hid5 bR
        have hnod := hrt.nod
        have hcl := (code_len (atP5 l) _ e (Nat.le_refl _) hrt.ok 0)
        clear hinr HCL hjp hpm hkb hnl hel hlj hlm hms hld hkp hbr bR bW bZ nW hokW hmpR hTR hkbR nR hrt
        go_wp2_with (refine wpList_store_row rfl 53 _ _ rfl _ _ rfl rfl _ _ nZ (by kernel_rfl) (by simp) (by simp [Value.oneCell']) ?_; rw [hwW])
        refine cE.mono ?_
        rintro r w5 ⟨rfl, S', hS', hok5, _⟩
        obtain ⟨⟨hb5, _, sv5, n5, own5⟩, hsp5⟩ := hok5
        rw [List.nil_append] at own5 hsp5
        have hlS : S'.length = (codeE (atP5 l) e 0).length := by
          have h1 := congrArg List.length hS'
          rw [List.length_map] at h1
          exact h1
        obtain ⟨g5, c5, hv5⟩ : ∃ g5 c5, sv5 = .slice (some ⟨g5, 0, none⟩) S'.length c5 := by
          rcases own5.2 with ⟨_, e0⟩ | ⟨g', cap, cur, e0, _⟩
          · omega
          · exact ⟨g', cap, e0⟩
        subst hv5
        have z51 := (cell_of_row _ _ 1 _ _ _ n5).trans rfl
        have hbr5 : Below wr.heap.size wr w5 := HBR.out.trans (hb5.mono HBR.out.size)
        have hms5 := HMS.out.below hbr5
        have x0 := (hms5.cells hlt).1
        have xf := hms5.frozen (j * 3)
        have hk5 := HKP.out.trans (Kept.of_below hbr5)
        have hks := kept_set w5 go (j * 3) (.slice (some ⟨g5, 0, none⟩) S'.length c5)
        have HMN := hid5 (hms5.setV (.slice (some ⟨g5, 0, none⟩) S'.length c5) hlt)
        have HKN := hid5 (hk5.trans hks)
        have hq5 : InsQ w5 (.slice (some ⟨g5, 0, none⟩) S'.length c5) S' := own_zero own5
        have HLN2 : Hid (∀ k, k < j + 1 → Laid l (w5.setCell ⟨go, j * 3, none⟩ (.slice (some ⟨g5, 0, none⟩) S'.length c5)) (upV sv j (.slice (some ⟨g5, 0, none⟩) S'.length c5)) (upS Ss j S') k) := fun k hk => by
          by_cases e1 : k = j
          · subst e1
            have h1 : Laid l w5 (upV sv k (.slice (some ⟨g5, 0, none⟩) S'.length c5)) (upS Ss k S') k := by
              unfold Laid
              rw [upV_at, upS_at, codeL_at HLJ.out]
              exact ⟨hq5, hS', hsp5⟩
            exact h1.kept hms5 hks
          · have h1 := HLD.out k (by omega)
            have h2 : Laid l w5 sv Ss k := ⟨h1.1.below hbr5, h1.2.1, fun u hu => (h1.2.2 u hu).below hbr5⟩
            exact (h2.kept hms5 hks).ext (upV_ne _ _ e1) (upS_ne _ _ e1)
        generalize hw6 : w5.setCell ⟨go, j * 3, none⟩ (.slice (some ⟨g5, 0, none⟩) S'.length c5) = w6 at *
        clear hlS cE own5 hsp5 hS' hb5 n5 hbr5 hms5 hk5 hks hq5 y1 y2 y3 y4 y5 nR2 HMS HLD HKP HBR hwW hwZ nZ hwR d0 d1 d2 d3 d4 d5
        go_wp2_with fail
        go_roundw
        case rel => exact ⟨j + 1, _, _, by go_num, by omega, HMN.out, HLN2.out, HKN.out⟩
        case measure => simp [intOf]; omega
      · have hlt' : ¬ (j : Int) < (n : Int) := by omega
        obtain rfl : n = j := by omega
        generalize wr = wL at *
        have hCn : n = (codeL l).length := by rw [codeL_len]; exact HLL.out.symm
        have hin : ∀ k, k < n → k < l.length := fun k hk => by have := HLL.out; omega
        have hLd : ∀ k, k < n → 1 ≤ (Ss k).length ∧ (Ss k).length ≤ 700 := fun k hk => by
          have h1 := congrArg List.length (hld k hk).2.1
          rw [List.length_map] at h1
          have h2 := codeL_bd H0.out (hin k hk)
          omega
        have HME := hid5 (fun (w' : World) (i : Nat) => measure_any (codeL l) (muR l) (cmpM l) (code_ranked H0.out) (cmpM_small l) n go n hCn (by omega) sv Ss (fun k hk => (hld k hk).2.1) hLd (fun k hk u hu => ((hld k hk).2.2 u hu).form) (fun i hi => cmpM_eq H0.out (hin i hi)) (fun i hi => cmpM_pos H0.out (hin i hi)) _ i (Nat.le_refl _))
        have HLD := hid5 hld
        have HMS := hid5 hms
        have HKP := hid5 hkp
        have HLB := hid5 hLd
        have HCN := hid5 hCn
        clear hld hms hkp hLd hin hCn hbr
        go_wp2_with fail
        go_loopw [10, 44] (fun _ t w7 => ∃ (i : Nat) (H T : Nat → Int), t = .int .i64 (i : Int) ∧ i ≤ n ∧ MeSt go n sv H T w7 ∧ (∀ k, k < n → Okm (cmpM l) H T k) ∧ (∀ k, k < i → Me (cmpM l) H T k) ∧ Kept go wL w7) (fun _ t _ => n - (intOf t).toNat)
        case atStart => exact ⟨0, _, _, rfl, by omega, HMS.out, fun k _ => .inl ⟨rfl, rfl⟩, fun k hk => by omega, Kept.refl _ _⟩
        case round =>
          obtain ⟨i, H, T, rfl, hi, hms, hok, hme, hkp⟩ := hrel
          have hi0 : (0 : Int) ≤ (i : Int) := by omega
          by_cases hil : i < n
          · have hil' : (i : Int) < (n : Int) := by omega
            have cM := HME.out wr i hil H T wr hms (fun q hq => ((HLD.out q hq).1.kept HMS.out hkp)) (fun q hq _ => hok q hq)
            obtain ⟨ps, cs, hsv, _⟩ := ((HLD.out i hil).1.kept HMS.out hkp).form (HLB.out i hil).1
            unfold OutM at cM
            rw [hsv] at cM
            have HOK := hid5 hok
            have HMEE := hid5 hme
            have HKQ := hid5 hkp
            clear hsv hms hok hme hkp
            go_wp2_with fail
            refine cM.mono ?_
            rintro r w8 ⟨rfl, H', T', hms8, hme8, hrs8, hk8⟩
            have HOK8 : Hid (∀ k, k < n → Okm (cmpM l) H' T' k) := fun k hk => by
              by_cases e1 : k = i
              · subst e1; exact .inr hme8
              · have h1 := hrs8 k hk e1
                by_cases e2 : muR l k ≤ muR l i
                · exact (h1.1 e2).1
                · have h2 := h1.2 (by omega)
                  have h3 := HOK.out k hk
                  unfold Okm Me at h3 ⊢
                  rw [h2.1, h2.2]
                  exact h3
            have HME8 : Hid (∀ k, k < i + 1 → Me (cmpM l) H' T' k) := fun k hk => by
              by_cases e1 : k = i
              · subst e1; exact hme8
              · have h1 := hrs8 k (by omega) e1
                have h3 := HMEE.out k (by omega)
                by_cases e2 : muR l k ≤ muR l i
                · exact (h1.1 e2).2 h3
                · have h2 := h1.2 (by omega)
                  unfold Me at h3 ⊢
                  rw [h2.1, h2.2]
                  exact h3
            have HK8 := hid5 (HKQ.out.trans hk8)
            have HMS8 := hid5 hms8
            clear cM hms8 hme8 hrs8 hk8
            go_wp2_with fail
            go_roundw
            case rel => exact ⟨i + 1, H', T', by go_num, by omega, HMS8.out, HOK8.out, HME8.out, HK8.out⟩
            case measure => simp [intOf]; omega
          · have hil' : ¬ (i : Int) < (n : Int) := by omega
            obtain rfl : n = i := by omega
            have hms9 : MeSt go n sv (fun k => (cmpM l k).1) (fun k => (cmpM l k).2) wr := hms.congr fun k hk => hme k hk
            have hsv9 : ∀ k, k < n → ∃ p ln c, sv k = .slice p ln c ∧ ln ≤ 700 := fun k hk => by
              obtain ⟨g', c', e', _⟩ := (HLD.out k hk).1.form (HLB.out k hk).1
              exact ⟨_, _, _, e', (HLB.out k hk).2⟩
            have cI := indexMuch_any n go n sv (cmpM l) wr hms9 hsv9 (by omega)
            have HIV : Hid (∀ (W : World) (c xs : Array Value), Below wr.heap.size wr W → W.heap[w.heap.size]? = some (.cells c 27 (0, 0)) → InV (W.setRow w.heap.size xs) (.slice (some ⟨go, 0, none⟩) n n) (cmpL l)) := fun W c xs hW hg => by
              refine inV_own HCN.out (by omega) ((hms9.below hW).same (setRow_other W w.heap.size go xs (fun e => hgrne e.symm))) (fun k hk => (((HLD.out k hk).1.kept HMS.out hkp).below hW).set hg xs) HLB.out (fun k hk u hu => ((((HLD.out k hk).2.2 u hu).kept HMS.out hkp).below hW).set hg xs) (fun k hk => (HLD.out k hk).2.1)
            have hk9 := HKP.out.trans hkp
            have HB9 := hid5 (below_kept HBM.out hk9 hwgo hszM)
            have HR9 := hid5 ((hk9.block _ (lt_of_block HRM.out) (fun e => hgrne (Option.some.inj e))).trans HRM.out)
            obtain ⟨fx, hfx⟩ : ∃ q, fstM (cmpM l) n 0 = q := ⟨_, rfl⟩
            rw [hfx] at cI
            have HFX : Hid (fstM (cmpM l) l.length 0 = fx) := by show _ = _; rw [HLL.out]; exact hfx
            have hfb : -1 ≤ fx ∧ fx ≤ (n : Int) := by rw [← hfx]; exact fst_bd (cmpM l) n 0 n (by omega)
            clear hms hok hme hkp hms9 hsv9 hk9 hfx HMS HLD HME
            go_wp2_with fail
            refine cI.mono ?_
            rintro r w9 ⟨rfl, b9⟩
            have n9 := (b9.block _ (lt_of_block HR9.out)).trans HR9.out
            have hb9 := HB9.out.trans (b9.mono HB9.out.size)
            have HIV9 := hid5 (HIV.out w9 _ #[.int .i64 0, .int .i64 0] b9 n9)
            have hw9 := lt_of_block n9
            clear cI HIV HB9 HR9 b9
            by_cases hf0 : 0 ≤ fx
            · have HCF : Hid (cflt l = (4, fx)) := by
                show _ = _
                unfold cflt
                rw [if_neg (by simpa using H0.out), HFX.out, if_pos hf0]
              have HO : Hid (OutC l w (.returned (.tuple #[.slice none 0 0, .agg #[.int .i64 4, .int .i64 fx]])) (w9.setRow w.heap.size #[.int .i64 4, .int .i64 fx])) := by
                refine ⟨_, by rw [HCF.out], fun e => ?_, fun _ => rfl, below_setRow hb9 (Nat.le_refl _) _⟩
                rw [HCF.out] at e
                exact absurd e (by show ¬ (4 : Int) = 0; omega)
              have HNN := hid5 (setRow_heap _ _ _ #[.int .i64 4, .int .i64 fx] _ _ n9)
              clear HIV9 hb9
              go_wp2_with (refine wpList_store_row rfl 27 _ _ rfl _ _ rfl rfl _ _ n9 (by kernel_rfl) (by simp) (by simp [Value.oneCell']) ?_)
              exact comp_post w.heap.size _ 4 fx rfl rfl rfl HNN.out HO.out
            · have HCF : Hid (cflt l = (0, 0)) := by
                show _ = _
                unfold cflt
                rw [if_neg (by simpa using H0.out), HFX.out, if_neg hf0]
              have HO : Hid (OutC l w (.returned (.tuple #[.slice (some ⟨go, 0, none⟩) n n, .agg #[.int .i64 0, .int .i64 0]])) (w9.setRow w.heap.size #[.int .i64 0, .int .i64 0])) := by
                refine ⟨_, by rw [HCF.out], fun _ => ?_, fun e => ?_, below_setRow hb9 (Nat.le_refl _) _⟩
                · exact HIV9.out
                · rw [HCF.out] at e
                  exact absurd rfl e
              have HNN := hid5 (setRow_heap _ _ _ #[.int .i64 0, .int .i64 0] _ _ n9)
              clear HIV9 hb9
              go_wp2_with (refine wpList_store_row rfl 27 _ _ rfl _ _ rfl rfl _ _ n9 (by kernel_rfl) (by simp) (by simp [Value.oneCell']) ?_)
              exact comp_post w.heap.size _ 0 0 rfl rfl rfl HNN.out HO.out
  · have H0 := hid5 h0
    have HF : Hid (cflt l = ((chkW l).1, ((chkW l).2 : Int))) := by
      show _ = _
      unfold cflt
      rw [if_pos h0]
    have hne : ((chkW l).1 != 0) = true := by simpa using h0
    have bC := (Below.refl w1.heap.size w1).alloc (Nat.le_refl _) (.cells #[.int .i64 (chkW l).1, .int .i64 ((chkW l).2 : Int)] 27)
    have HBw := hid5 (hb1w.trans (bC.mono hb1w.size))
    have n9 := (bC.block _ (lt_of_block m2)).trans m2
    have m3 := heap_alloc_new w1 (.cells #[.int .i64 (chkW l).1, .int .i64 ((chkW l).2 : Int)] 27)
    clear bC hb1w m2 h0
    generalize hw2 : w1.alloc (.cells #[.int .i64 (chkW l).1, .int .i64 ((chkW l).2 : Int)] 27) = wB at *
    have HO : Hid (∀ W, Below w.heap.size w W → OutC l w (.returned (.tuple #[.slice none 0 0, .agg #[.int .i64 (chkW l).1, .int .i64 ((chkW l).2 : Int)]])) W) := fun W hW => by
      refine ⟨_, by rw [HF.out], fun e => ?_, fun _ => rfl, hW⟩
      rw [HF.out] at e
      exact absurd e H0.out
    have z0 := (cell_of_row _ _ 0 _ _ _ m3).trans rfl
    have z1 := (cell_of_row _ _ 1 _ _ _ m3).trans rfl
    have y0 := (cell_of_row _ _ 0 _ _ _ n9).trans rfl
    have y1 := (cell_of_row _ _ 1 _ _ _ n9).trans rfl
    have x0 := frozen_of_row _ _ 0 _ _ n9
    have x1 := frozen_of_row _ _ 1 _ _ n9
    have hmm := heap_setCell_same _ _ 1 _ _ (.int .i64 ((chkW l).2 : Int)) (heap_setCell_same _ _ 0 _ _ (.int .i64 (chkW l).1) n9)
    have HBB := hid5 ((HBw.out.setCell (p := ⟨w.heap.size, 0, none⟩) (Nat.le_refl _) (.int .i64 (chkW l).1)).setCell (p := ⟨w.heap.size, 1, none⟩) (Nat.le_refl _) (.int .i64 ((chkW l).2 : Int)))
    have HMM := hid5 hmm
    clear hmm n9 m3
    clear HF H0
    generalize (chkW l).1 = er at *
    generalize (((chkW l).2 : Nat) : Int) = at0 at *
    go_wp2_with fail
    go_region
    go_wp2_with fail
    exact comp_post w.heap.size _ er at0 rfl rfl rfl HMM.out (HO.out _ (below_drewN HBB.out 1))
end Go.Proofs.YtpmobjgnmidolaaGreatDoor
