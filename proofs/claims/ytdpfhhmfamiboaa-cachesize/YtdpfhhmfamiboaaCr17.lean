/- A map whose keys are pairs of numbers. -/
import Derived.Test.YtdpfhhmfamiboaaCr15
import Derived.Test.YtdpfhhmfamiboaaCr05
import Derived.Laws.StructEq
namespace Go.Proofs.Ytdpfhhmfamiboaa
open Go.RowKit Msk Vx

theorem arr2T : Try.prog.underlying 52 = some (.array 2 3) := by kernel_rfl
theorem hadT : Try.prog.underlying 49 = some (.map 52 4) := by kernel_rfl
theorem chk2 (z : Bool) (a b : Int) (w : World) : (Instr.checkKey z 10000 52 (.agg #[.int .i64 a, .int .i64 b])).run Try.prog w = .ok () w := by
  cases z <;> kernel_rfl
set_option maxRecDepth 100000 in
theorem i64info : ∃ i, Try.prog.info? 3 = some i ∧ Try.prog.cellsOf 3 = 1 := ⟨_, rfl, by kernel_rfl⟩
theorem i64type : Try.prog.underlying 3 = some (.int .i64) := by kernel_rfl
theorem eq2 (a b c d : Int) (w : World) : (Op.equal 52 (.agg #[.int .i64 a, .int .i64 b]) (.agg #[.int .i64 c, .int .i64 d])).run Try.prog w = .ok ((a == c) && (b == d)) w := by
  obtain ⟨i, hi, hc⟩ := i64info
  unfold Op.equal
  rw [show Op.maxDepth = 10000 from rfl, run_equalIn_array w 9999 _ _ arr2T hi, hc]
  have p0 : ∀ x y : Int, (Go.part 3 #[.int .i64 x, .int .i64 y] (0 * 1)).run Try.prog w = .ok (.int .i64 x) w := fun x y => by simp [Go.part, isAgg, run_underlying i64type]
  have p1 : ∀ x y : Int, (Go.part 3 #[.int .i64 x, .int .i64 y] (1 * 1)).run Try.prog w = .ok (.int .i64 y) w := fun x y => by simp [Go.part, isAgg, run_underlying i64type]
  have q1 := run_equalIn_int w 9998 3 .i64 .i64 a c i64type
  have q2 := run_equalIn_int w 9998 3 .i64 .i64 b d i64type
  show (Op.eqItems 9999 3 1 _ _ [0, 1]).run Try.prog w = _
  rw [Op.eqItems]
  simp only [Sem.run_bind, p0, Result.andThen_ok]
  rw [q1]
  simp only [Result.andThen_ok]
  cases (a == c)
  · rfl
  · show (Op.eqItems 9999 3 1 _ _ [1]).run Try.prog w = _
    rw [Op.eqItems]
    simp only [Sem.run_bind, p1, Result.andThen_ok]
    rw [q2]
    simp only [Result.andThen_ok]
    cases (b == d) <;> rfl
/-- Pairs as keys. -/
def keyQ (p : Int × Int) : Value := .agg #[.int .i64 p.1, .int .i64 p.2]
/-- The pairs that are there. -/
def MapQ (w : World) (b : Nat) (S : List (Int × Int)) : Prop := ∃ es c, w.heap[b]? = some (.map es c) ∧ es.toList.map (fun e => e.key) = S.map keyQ
theorem MapQ.later {w w' : World} {b : Nat} {S : List (Int × Int)} (h : MapQ w b S) (hk : w'.heap[b]? = w.heap[b]?) : MapQ w' b S := by
  obtain ⟨es, c, h1, h2⟩ := h
  exact ⟨es, c, hk.trans h1, h2⟩
theorem lt_of_mapQ {w : World} {b : Nat} {S : List (Int × Int)} (h : MapQ w b S) : b < w.heap.size := by
  obtain ⟨es, c, h1, _⟩ := h
  exact (Array.getElem?_eq_some_iff.1 h1).1
theorem askQ (p : Int × Int) (w : World) : ∀ (es : List MapEntry) (S : List (Int × Int)) (i : Nat), es.map (fun e => e.key) = S.map keyQ → p ∉ S → (Instr.findAsking 52 (keyQ p) es i).run Try.prog w = .ok none w
  | [], [], i, _, _ => by simp [Instr.findAsking]
  | [], _ :: _, i, h, _ => by simp at h
  | _ :: _, [], i, h, _ => by simp at h
  | e :: es, q :: S, i, h, hn => by
    simp only [List.map_cons, List.cons.injEq] at h
    have hq := eq2 p.1 p.2 q.1 q.2 w
    have hne : ((p.1 == q.1) && (p.2 == q.2)) = false := by
      rw [Bool.and_eq_false_iff]
      by_cases h1 : p.1 = q.1
      · refine .inr (beq_eq_false_iff_ne.2 fun h2 => hn ?_)
        rw [show p = q from Prod.ext h1 h2]
        exact List.mem_cons_self
      · exact .inl (beq_eq_false_iff_ne.2 h1)
    rw [hne] at hq
    have ih := askQ p w es S (i + 1) h.2 fun hm => hn (List.mem_cons_of_mem _ hm)
    unfold Instr.findAsking
    rw [h.1]
    simp only [Sem.run_bind, keyQ, hq, Result.andThen_ok]
    exact ih
theorem findQ {p : Int × Int} {w : World} {es : List MapEntry} {S : List (Int × Int)} (h : es.map (fun e => e.key) = S.map keyQ) (hn : p ∉ S) : (Instr.findKey 52 (keyQ p) es).run Try.prog w = .ok none w := by
  unfold Instr.findKey
  simp only [Sem.run_bind, run_underlying arr2T, Result.andThen_ok]
  cases es with
  | nil => rfl
  | cons e es => exact askQ p w _ S 0 h hn
theorem lookQ {w : World} {b : Nat} {S : List (Int × Int)} (h : MapQ w b S) (x y : Int) (hn : (x, y) ∉ S) : (Instr.lookup 49 (.map (some b)) (.agg #[.int .i64 x, .int .i64 y]) false).run Try.prog w = .ok (.bool false) w := by
  obtain ⟨es, c, hb, hE⟩ := h
  have hz : (zeroValue 4).run Try.prog w = .ok (.bool false) w := by kernel_rfl
  have hf := findQ (w := w) hE hn
  have hc := chk2 es.isEmpty x y w
  unfold keyQ at hf
  simp [Instr.lookup, run_underlying hadT, MapKept.run_getObj_map hb, hc, hf, hz, Result.andThen]
theorem insQ {w : World} {b : Nat} {S : List (Int × Int)} (h : MapQ w b S) (x y : Int) (hn : (x, y) ∉ S) : ∃ o, (Instr.mapUpdate 49 (.map (some b)) (.agg #[.int .i64 x, .int .i64 y]) (.bool true)).run Try.prog w = .ok () (putI w b o) ∧ MapQ (putI w b o) b (S ++ [(x, y)]) := by
  obtain ⟨es, c, hb, hE⟩ := h
  have hf := findQ (w := w) hE hn
  have hc := chk2 false x y w
  unfold keyQ at hf
  refine ⟨.map (es.push ⟨.agg #[.int .i64 x, .int .i64 y], .bool true, c⟩) (c + 1), ?_, _, c + 1, (MapKept.heap_set hb).1, ?_⟩
  · simp [Instr.mapUpdate, run_underlying hadT, MapKept.run_getObj_map hb, hc, hf, MapKept.run_setObj_map _ hb, Result.andThen, putI]
  · rw [Array.toList_push, List.map_append, hE, List.map_append]
    rfl
theorem makeQ (w : World) : (Instr.makeMap 49 none).run Try.prog w = .ok (.map (some w.heap.size)) (w.alloc (.map #[] 0)) := by
  unfold Instr.makeMap
  simp [go_sem]
/-- Each rule's day once. -/
def kd (k : Kp) : Int × Int := (k.r, k.d)
structure KOnce (l : List Kp) : Prop where
  nd : (l.map kd).Nodup
  len : l.length ≤ 64
theorem KOnce.nil : KOnce [] := ⟨by simp, by simp⟩
theorem dropAt_sub (l : List Kp) (i : Int) : (dropAt l i).Sublist l := by
  unfold dropAt
  split
  · conv => rhs; rw [← List.take_append_drop i.toNat l]
    refine List.Sublist.append (List.Sublist.refl _) ?_
    rw [show l.drop (i.toNat + 1) = (l.drop i.toNat).drop 1 by rw [List.drop_drop]]
    exact List.drop_sublist _ _
  · exact List.Sublist.refl _
theorem dropAt_not {l : List Kp} (h : (l.map kd).Nodup) (r d : Int) : (r, d) ∉ (dropAt l (idxK r d l 0)).map kd := by
  rcases idxK_ge r d l 0 with hm | ⟨h0, h1⟩
  · rw [hm]
    have e : dropAt l (-1) = l := by unfold dropAt; rw [if_neg (by omega)]
    rw [e]
    intro hk
    obtain ⟨k, hk1, hk2⟩ := List.mem_map.1 hk
    have := idxK_none l 0 hm k hk1
    exact this ⟨congrArg Prod.fst hk2, congrArg Prod.snd hk2⟩
  · obtain ⟨n, k, e, h2, h3, h4⟩ := idxK_at (r := r) (d := d) l 0 (by omega)
    have hn := (List.getElem?_eq_some_iff.1 h2).1
    have el : l = l.take n ++ (k :: l.drop (n + 1)) := by
      conv => lhs; rw [← List.take_append_drop n l]
      congr 1
      rw [List.drop_eq_getElem_cons hn, (List.getElem?_eq_some_iff.1 h2).2]
    have ed : dropAt l (idxK r d l 0) = l.take n ++ l.drop (n + 1) := by
      unfold dropAt
      rw [if_pos (by omega), e]
      simp
    rw [ed]
    rw [el, List.map_append, List.map_cons] at h
    rw [List.map_append]
    have hkd : kd k = (r, d) := by unfold kd; rw [h3, h4]
    rw [hkd] at h
    rw [List.nodup_append] at h
    obtain ⟨_, h6, h7⟩ := h
    intro hm
    rcases List.mem_append.1 hm with hm | hm
    · exact h7 _ hm _ List.mem_cons_self rfl
    · exact (List.nodup_cons.1 h6).1 hm
theorem KOnce.get {cs : List Cd} {l : List Kp} (h : KOnce l) (runs v r d : Int) (he : (getP cs l runs v r d).er = 0) : KOnce (getP cs l runs v r d).l ∧ ∃ l0 m, (getP cs l runs v r d).l = l0 ++ [⟨r, d, v, m⟩] := by
  have nd2 : ∀ k : Kp, kd k = (r, d) → ((dropAt l (idxK r d l 0) ++ [k]).map kd).Nodup := fun k hk => by
    rw [List.map_append, List.map_cons, List.map_nil, hk, List.nodup_append]
    refine ⟨((dropAt_sub l _).map kd).nodup h.nd, by simp, fun a ha b hb => ?_⟩
    rw [List.mem_singleton.1 hb]
    rintro rfl
    exact dropAt_not h.nd r d ha
  unfold getP at he ⊢
  by_cases hh : hitK l v r d = true
  · rw [if_pos hh]
    obtain ⟨n, k, e, h1, h2, h3, h4, h5⟩ := hit_at hh
    rw [h5]
    refine ⟨⟨nd2 k (by unfold kd; rw [h2, h3]), ?_⟩, dropAt l (idxK r d l 0), k.m, ?_⟩
    · have hn := (List.getElem?_eq_some_iff.1 h1).1
      have := dropAt_len1 (l := l) (i := idxK r d l 0) (by omega) (by omega)
      have h64 := h.len
      show (dropAt l (idxK r d l 0) ++ [k]).length ≤ 64
      rw [List.length_append, List.length_singleton]
      omega
    · show dropAt l (idxK r d l 0) ++ [k] = _
      rw [← h2, ← h3, ← h4]
  · rw [if_neg hh] at he ⊢
    by_cases h0 : (runE cs r d).1 ≠ 0
    · rw [if_pos h0] at he
      exact absurd he h0
    · rw [if_neg h0]
      refine ⟨⟨?_, lastN_len _⟩, ?_⟩
      · exact ((List.drop_sublist _ _).map kd).nodup (nd2 ⟨r, d, v, runM cs r d⟩ rfl)
      · dsimp only
        have hlen : (dropAt l (idxK r d l 0) ++ [(⟨r, d, v, runM cs r d⟩ : Kp)]).length - 64 ≤ (dropAt l (idxK r d l 0)).length := by rw [List.length_append, List.length_singleton]; omega
        have e9 : lastN (dropAt l (idxK r d l 0) ++ [(⟨r, d, v, runM cs r d⟩ : Kp)]) = (dropAt l (idxK r d l 0)).drop ((dropAt l (idxK r d l 0) ++ [(⟨r, d, v, runM cs r d⟩ : Kp)]).length - 64) ++ [(⟨r, d, v, runM cs r d⟩ : Kp)] := by
          unfold lastN
          rw [List.drop_append_of_le_length hlen]
        exact ⟨_, _, e9⟩
end Go.Proofs.Ytdpfhhmfamiboaa

/- What the law CacheSize comes to. Written by gencas.py. -/
namespace Go.Proofs.Ytdpfhhmfamiboaa
open Go.RowKit Msk Vx

set_option maxRecDepth 100000 in
set_option maxHeartbeats 4000000 in
theorem csize_walk (cs : List Cd) (lv av : Value) (asks : List Aq) (w : World) (h : InV w lv cs) (ha : ARow w av asks) :
    Calls Try.prog 8 #[lv, av] w fun e w' => e = .returned (.bool true) ∧ Below w.heap.size w w' := by
  have HIN := hidv h
  obtain ⟨pa, ca, rfl, hal, hac⟩ := ha
  have HAC := hidv hac
  have c0 := alive9_any w
  have hz := mv_lit
  clear h hac
  go_enter Try.func8, Try.ntmps8
  go_wp2_with fail
  refine c0.mono ?_
  rintro e w0 ⟨rfl, b0⟩
  have bA := (Below.refl w0.heap.size w0).alloc (Nat.le_refl _) (.cells #[.slice none 0 0, .int .i64 0] 40)
  have n5 := heap_alloc_new w0 (.cells #[.slice none 0 0, .int .i64 0] 40)
  have hb1 := b0.trans (bA.mono b0.size)
  obtain ⟨g5, hg5e⟩ : ∃ q, w0.heap.size = q := ⟨_, rfl⟩
  have HG5 : Hid (w.heap.size ≤ g5) := by show _ ≤ _; rw [← hg5e]; exact b0.size
  generalize hw1 : w0.alloc (.cells #[.slice none 0 0, .int .i64 0] 40) = w1 at *
  rw [hg5e] at n5
  clear c0 bA b0
  go_wp2_with fail
  go_loopw [7, 8, 9, 10, 11, 13, 14, 19] (fun _ _ _ _ _ _ _ t wr => ∃ (j : Nat) (l : List Kp) (runs : Int) (cv : Value), t = .int .i64 (j : Int) ∧ j ≤ asks.length ∧ wr.heap[g5]? = some (.cells #[cv, .int .i64 runs] 40 (0, 0)) ∧ KRow (g5 + 1) wr cv l ∧ KOnce l ∧ Below w.heap.size w wr) (fun _ _ _ _ _ _ _ t _ => asks.length - (intOf t).toNat)
  case atStart => exact ⟨0, [], 0, _, rfl, by omega, n5, KRow.none _ _ _ _ (Nat.zero_le _), KOnce.nil, hb1⟩
  case round =>
    clear n5 hb1 hw1 hg5e
    obtain ⟨j, l, runs, cv, rfl, hj, c5, hk, hinv, hb⟩ := hrel
    have hj0 : (0 : Int) ≤ (j : Int) := by omega
    have hg5 := lt_of_block c5
    by_cases hlt : j < asks.length
    · have hlt' : (j : Int) < (asks.length : Int) := by omega
      obtain ⟨a, hja⟩ : ∃ p, asks[j]? = some p := ⟨asks[j], List.getElem?_eq_getElem hlt⟩
      obtain ⟨g, o, hpe, k0, k1, k2⟩ := HAC.out j a hja
      subst hpe
      obtain ⟨r, d, v⟩ := a
      dsimp only at k0 k1 k2
      have d0 := (hb.cell (block_lt_of_cell k0)).trans k0
      have d1 := (hb.cell (block_lt_of_cell k1)).trans k1
      have d2 := (hb.cell (block_lt_of_cell k2)).trans k2
      -- the ask in a place of its own
      have bA := (Below.refl wr.heap.size wr).alloc (Nat.le_refl _) (.cells #[.int .i64 r, .int .i64 d, .int .i64 v] 47)
      have a7 := heap_alloc_new wr (.cells #[.int .i64 r, .int .i64 d, .int .i64 v] 47)
      obtain ⟨g7, hg7⟩ : ∃ q, wr.heap.size = q := ⟨_, rfl⟩
      rw [hg7] at a7
      have hg57 : g5 < g7 := by omega
      replace c5 := (bA.block _ (lt_of_block c5)).trans c5
      have hk2 := hk.later bA
      have hb2 := hb.trans (bA.mono hb.size)
      generalize hw2 : wr.alloc (.cells #[.int .i64 r, .int .i64 d, .int .i64 v] 47) = w2 at *
      have z50 := (cell_of_row _ _ 0 _ _ _ c5).trans rfl
      have z51 := (cell_of_row _ _ 1 _ _ _ c5).trans rfl
      have z70 := (cell_of_row _ _ 0 _ _ _ a7).trans rfl
      have z71 := (cell_of_row _ _ 1 _ _ _ a7).trans rfl
      have z72 := (cell_of_row _ _ 2 _ _ _ a7).trans rfl
      have HINV := hidv hinv
      have HKI := hidv (fun he => hinv.get (cs := cs) runs v r d he)
      have c2 := get_any cs l cv lv runs v r d w2 (hk2.low (Nat.zero_le _)) (by have := hinv.len; omega) (HIN.out.below hb2)
      have HG : Hid (∃ gm gl rn er at0, (getP cs l runs v r d).m = gm ∧ (getP cs l runs v r d).l = gl ∧ (getP cs l runs v r d).n = rn ∧ (getP cs l runs v r d).er = er ∧ ((getP cs l runs v r d).at_ : Int) = at0) := ⟨_, _, _, _, _, rfl, rfl, rfl, rfl, rfl⟩
      obtain ⟨gm, gl, rn, er, at0, e1, e2, e3, e4, e5⟩ := HG.out
      rw [e1, e2, e3, e4, e5] at c2
      have HI3 : Hid (er = 0 → KOnce gl ∧ ∃ l0 m, gl = l0 ++ [⟨r, d, v, m⟩]) := fun he => by
        have := HKI.out (e4.trans he)
        rw [e2] at this
        exact this
      obtain ⟨pv, cvc, hcv, _⟩ := id hk2
      subst hcv
      clear hja k0 k1 k2 bA hk hb hinv HG e1 e2 e3 e4 e5 HKI
      go_wp2_with fail
      refine c2.mono ?_
      rintro e w5 ⟨cv2, rfl, hk5, b5⟩
      obtain ⟨pq, cq, hcv2, _⟩ := id hk5
      subst hcv2
      have hg5S : g5 < w2.heap.size := lt_of_block c5
      have hg7S : g7 < w2.heap.size := lt_of_block a7
      replace c5 := (b5.block _ (lt_of_block c5)).trans c5
      replace a7 := (b5.block _ (lt_of_block a7)).trans a7
      have hk6 := (hk5.low (Nat.succ_le_of_lt hg5S) : KRow (g5 + 1) w5 _ gl)
      have hk7 := hk2.later b5
      have hb5 := hb2.trans (b5.mono hb2.size)
      have hg75 : g7 < w5.heap.size := lt_of_block a7
      clear c2 hk2 hk5 hb2 b5 z50 z51 z70 z71 z72 d0 d1 d2 hw2
      have bA3 : Below w5.heap.size w5 (((w5.alloc (.cells (mv fun _ => false) 25)).alloc (.cells #[.slice none 0 0, .int .i64 0] 40)).alloc (.cells #[.int .i64 0, .int .i64 0] 28)) := (((Below.refl _ _).alloc (Nat.le_refl _) _).alloc (by simp) _).alloc (by simp; omega) _
      have n13 : (((w5.alloc (.cells (mv fun _ => false) 25)).alloc (.cells #[.slice none 0 0, .int .i64 0] 40)).alloc (.cells #[.int .i64 0, .int .i64 0] 28)).heap[w5.heap.size]? = some (.cells (mv fun _ => false) 25 (0, 0)) := by (repeat (first | refine blk_old _ _ _ (by simp only [size_alloc]; omega) ?_ | exact blk_new _ _ _ (by first | rfl | simp only [size_alloc])))
      have n23 : (((w5.alloc (.cells (mv fun _ => false) 25)).alloc (.cells #[.slice none 0 0, .int .i64 0] 40)).alloc (.cells #[.int .i64 0, .int .i64 0] 28)).heap[w5.heap.size + 1]? = some (.cells #[.slice none 0 0, .int .i64 0] 40 (0, 0)) := by (repeat (first | refine blk_old _ _ _ (by simp only [size_alloc]; omega) ?_ | exact blk_new _ _ _ (by first | rfl | simp only [size_alloc])))
      have n33 : (((w5.alloc (.cells (mv fun _ => false) 25)).alloc (.cells #[.slice none 0 0, .int .i64 0] 40)).alloc (.cells #[.int .i64 0, .int .i64 0] 28)).heap[w5.heap.size + 2]? = some (.cells #[.int .i64 0, .int .i64 0] 28 (0, 0)) := by (repeat (first | refine blk_old _ _ _ (by simp only [size_alloc]; omega) ?_ | exact blk_new _ _ _ (by first | rfl | simp only [size_alloc])))
      generalize hwA3 : ((w5.alloc (.cells (mv fun _ => false) 25)).alloc (.cells #[.slice none 0 0, .int .i64 0] 40)).alloc (.cells #[.int .i64 0, .int .i64 0] 28) = wA3 at *
      have p13 := setRow_heap _ _ _ (mv gm) _ _ n13
      have p23 := (setRow_other wA3 w5.heap.size (w5.heap.size + 1) (mv gm) (by omega)).trans n23
      have p33 := (setRow_other wA3 w5.heap.size (w5.heap.size + 2) (mv gm) (by omega)).trans n33
      have bB3 := below_setRow bA3 (Nat.le_refl _) (mv gm)
      generalize hwB3 : wA3.setRow w5.heap.size (mv gm) = wB3 at *
      have q13 := (setRow_other wB3 (w5.heap.size + 1) w5.heap.size #[.slice pq gl.length cq, .int .i64 rn] (by omega)).trans p13
      have q23 := setRow_heap _ _ _ #[.slice pq gl.length cq, .int .i64 rn] _ _ p23
      have q33 := (setRow_other wB3 (w5.heap.size + 1) (w5.heap.size + 2) #[.slice pq gl.length cq, .int .i64 rn] (by omega)).trans p33
      have bC3 := below_setRow bB3 (by omega : w5.heap.size ≤ w5.heap.size + 1) #[.slice pq gl.length cq, .int .i64 rn]
      generalize hwC3 : wB3.setRow (w5.heap.size + 1) #[.slice pq gl.length cq, .int .i64 rn] = wC3 at *
      have mM3 := (setRow_other wC3 (w5.heap.size + 2) w5.heap.size #[.int .i64 er, .int .i64 at0] (by omega)).trans q13
      have mC3 := (setRow_other wC3 (w5.heap.size + 2) (w5.heap.size + 1) #[.int .i64 er, .int .i64 at0] (by omega)).trans q23
      have mF3 := setRow_heap _ _ _ #[.int .i64 er, .int .i64 at0] _ _ q33
      have bD3 := below_setRow bC3 (by omega : w5.heap.size ≤ w5.heap.size + 2) #[.int .i64 er, .int .i64 at0]
      generalize hwD3 : wC3.setRow (w5.heap.size + 2) #[.int .i64 er, .int .i64 at0] = wS3 at *
      replace c5 := (bD3.block _ (lt_of_block c5)).trans c5
      replace a7 := (bD3.block _ (lt_of_block a7)).trans a7
      have hk8 := hk6.later bD3
      have hk9 := hk7.later bD3
      have hb6 := hb5.trans (bD3.mono hb5.size)
      have zF2 := (cell_of_row _ _ 0 _ _ _ mF3).trans rfl
      have zC0 := (cell_of_row _ _ 0 _ _ _ mC3).trans rfl
      have zC1 := (cell_of_row _ _ 1 _ _ _ mC3).trans rfl
      have z51 := (cell_of_row _ _ 1 _ _ _ c5).trans rfl
      have HK8 := hidv hk8
      have HK9 := hidv hk9
      have HB6 := hidv hb6
      clear bA3 bB3 bC3 bD3 hk6 hk7 hb5 hk8 hk9 hb6
      by_cases he : er = 0
      · subst he
        obtain ⟨e2, l0, m0, e3⟩ := HI3.out rfl
        have c6 := setRow_heap _ _ _ #[.slice pq gl.length cq, .int .i64 rn] _ _ c5
        have a8 := (setRow_other wS3 g5 g7 #[.slice pq gl.length cq, .int .i64 rn] (by omega)).trans a7
        have hb7 := below_setRow HB6.out HG5.out #[.slice pq gl.length cq, .int .i64 rn]
        have hk10 := HK8.out.set (Nat.lt_succ_self g5) #[.slice pq gl.length cq, .int .i64 rn]
        generalize hw6 : wS3.setRow g5 #[.slice pq gl.length cq, .int .i64 rn] = w6 at *
        have hmk := makeQ w6
        have bM := (Below.refl w6.heap.size w6).alloc (Nat.le_refl _) (.map #[] 0)
        have nM := heap_alloc_new w6 (.map #[] 0)
        have hmq : MapQ (w6.alloc (.map #[] 0)) w6.heap.size [] := ⟨#[], 0, nM, rfl⟩
        obtain ⟨g11, hg11⟩ : ∃ q, w6.heap.size = q := ⟨_, rfl⟩
        have hg511 : g5 < g11 := by rw [← hg11]; exact lt_of_block c6
        have hg711 : g7 < g11 := by rw [← hg11]; exact lt_of_block a8
        generalize hw7 : w6.alloc (.map #[] 0) = w7 at *
        rw [hg11] at hmq
        have c7 := (bM.block _ (lt_of_block c6)).trans c6
        have zc6 := (cell_of_row _ _ 0 _ _ _ c7).trans rfl
        have a9 := (bM.block _ (lt_of_block a8)).trans a8
        have hk11 := hk10.later bM
        have hb8 := hb7.trans (bM.mono hb7.size)
        have h64 : (gl.length : Int) ≤ 64 := by have := e2.len; omega
        have hgl1 : (1 : Int) ≤ (gl.length : Int) := by rw [e3]; simp; omega
        have HE2 := hidv e2
        have HE3 := hidv e3
        have HC6 := hidv c6
        have HA8 := hidv a8
        have HK10 := hidv hk10
        have HB7 := hidv hb7
        have HBM := hidv bM
        have HG11 := hidv hg11
        clear e2 e3 HI3 HINV HK8 HK9 HB6 c6 a8 hb7 hk10 bM nM hk11 hb8 c7 a9
        go_wp2_with (first
          | (refine wpList_store_row rfl 25 _ _ rfl _ _ rfl rfl _ _ n13 (maskSize _) (by simp [mv_size]) (mv_all _) ?_; rw [hwB3]; refine wpList_store_row rfl 40 _ _ rfl _ _ rfl rfl _ _ p23 (by kernel_rfl) (by simp) (by simp [Value.oneCell']) ?_; rw [hwC3]; refine wpList_store_row rfl 28 _ _ rfl _ _ rfl rfl _ _ q33 (by kernel_rfl) (by simp) (by simp [Value.oneCell']) ?_; rw [hwD3])
          | (refine wpList_load_row rfl 40 _ rfl _ rfl _ _ _ _ mC3 cacheType rfl (by kernel_rfl) ?_)
          | (refine wpList_store_row rfl 40 _ _ rfl _ _ rfl rfl _ _ c5 (by kernel_rfl) (by simp) (by simp [Value.oneCell']) ?_; rw [hw6]))
        clear hw6 hw7 hmk hg11 zc6 c5 a7 zC0 zC1 z51 mM3 mC3 mF3 hwA3 hwB3 hwC3 hwD3 n13 n23 n33 p13 p23 p33 q13 q23 q33
        go_loopw [13, 44] (fun _ t wq => ∃ i : Nat, t = .int .i64 (i : Int) ∧ i ≤ gl.length ∧ MapQ wq g11 ((gl.take i).map kd) ∧ Below w6.heap.size w6 wq) (fun _ t _ => gl.length - (intOf t).toNat)
        case atStart => exact ⟨0, rfl, by omega, hmq, HBM.out⟩
        case round =>
          clear hmq HBM
          obtain ⟨i, rfl, hi, hm, hbq⟩ := hrel
          have hi0 : (0 : Int) ≤ (i : Int) := by omega
          by_cases hil : i < gl.length
          · have hil' : (i : Int) < (gl.length : Int) := by omega
            obtain ⟨k, hik⟩ : ∃ p, gl[i]? = some p := ⟨gl[i], List.getElem?_eq_getElem hil⟩
            obtain ⟨gg, oo, hpe, hrg⟩ := HK10.out.at hik
            subst hpe
            have rg := rangeAt_below hrg hbq
            have hnm : (k.r, k.d) ∉ (gl.take i).map kd := by
              have hnd := HE2.out.nd
              have el : gl = gl.take i ++ (k :: gl.drop (i + 1)) := by
                conv => lhs; rw [← List.take_append_drop i gl]
                congr 1
                rw [List.drop_eq_getElem_cons hil, (List.getElem?_eq_some_iff.1 hik).2]
              rw [el, List.map_append, List.map_cons, List.nodup_append] at hnd
              intro hmm
              exact hnd.2.2 _ hmm _ List.mem_cons_self rfl
            have hst : (gl.take i).map kd ++ [(k.r, k.d)] = (gl.take (i + 1)).map kd := by
              rw [List.take_add_one, hik, List.map_append]
              rfl
            have bE := (Below.refl wr.heap.size wr).alloc (Nat.le_refl _) (.cells (kv ⟨0, 0, 0, fun _ => false⟩) 51)
            have nE := heap_alloc_new wr (.cells (kv ⟨0, 0, 0, fun _ => false⟩) 51)
            generalize hwE : wr.alloc (.cells (kv ⟨0, 0, 0, fun _ => false⟩) 51) = wE at *
            have bF := below_setRow bE (Nat.le_refl _) (kv k)
            have nF := setRow_heap _ _ _ (kv k) _ _ nE
            generalize hwF : wE.setRow wr.heap.size (kv k) = wF at *
            have hm2 := hm.later (bF.block _ (lt_of_mapQ hm))
            have hlk := lookQ hm2 k.r k.d hnm
            obtain ⟨ob, hin, hm3⟩ := insQ hm2 k.r k.d hnm
            rw [hst] at hm3
            have hbF := hbq.trans (bF.mono hbq.size)
            have hb9 := putI_below hbF (Nat.le_of_eq HG11.out) ob
            have y0 := (cell_of_row _ _ 0 _ _ _ nF).trans (kv_0 k)
            have y1 := (cell_of_row _ _ 1 _ _ _ nF).trans (kv_1 k)
            have hzk := kv_lit
            generalize hwP : putI wF g11 ob = wP at *
            have HM3 := hidv hm3
            have HB9 := hidv hb9
            clear bE bF hik hrg hnm hst hm hm2 hm3 hbq hbF hb9 HK10 HC6 HA8 HE2 HE3 HB7
            go_wp2_with (first
              | (refine wpList_loadK rfl _ rfl gg (oo + i * 26) rfl k rg ?_)
              | (refine wpList_store_row rfl 51 _ _ rfl _ _ rfl rfl _ _ nE (keptSize _) (by simp [kv_size]) (kv_all _) ?_))
            go_roundw
            case rel => exact ⟨i + 1, by go_num, by omega, HM3.out, HB9.out⟩
            case measure => simp [intOf]; omega
          · have hil' : ¬ (i : Int) < (gl.length : Int) := by omega
            obtain ⟨q0, hq0⟩ : ∃ q, l0.length = q := ⟨_, rfl⟩
            have hgq : gl.length = q0 + 1 := by rw [HE3.out, ← hq0]; simp
            have hlast : gl[q0]? = some ⟨r, d, v, m0⟩ := by rw [HE3.out, ← hq0]; simp
            obtain ⟨gg, oo, hpe, hrg⟩ := HK10.out.at hlast
            subst hpe
            have rg := rangeAt_below hrg hbq
            have c9 := (hbq.block _ (lt_of_block HC6.out)).trans HC6.out
            have a9 := (hbq.block _ (lt_of_block HA8.out)).trans HA8.out
            have zc0 := (cell_of_row _ _ 0 _ _ _ c9).trans rfl
            have za0 := (cell_of_row _ _ 0 _ _ _ a9).trans rfl
            have za1 := (cell_of_row _ _ 1 _ _ _ a9).trans rfl
            have za2 := (cell_of_row _ _ 2 _ _ _ a9).trans rfl
            have y0 : wr.cell? ⟨gg, oo + q0 * 26, none⟩ = some (.int .i64 r) := rg 0 _ (by rw [Array.getElem?_toList]; exact kv_0 _)
            have y1 : wr.cell? ⟨gg, oo + q0 * 26 + 1, none⟩ = some (.int .i64 d) := rg 1 _ (by rw [Array.getElem?_toList]; exact kv_1 _)
            have y2 : wr.cell? ⟨gg, oo + q0 * 26 + 2, none⟩ = some (.int .i64 v) := rg 2 _ (by rw [Array.getElem?_toList]; exact kv_2 _)
            have hn1 : (gl.length : Int) - 1 = (q0 : Int) := by omega
            have hn2 : (q0 : Int) < (gl.length : Int) := by omega
            have hn3 : IntKind.i64.wrap ((gl.length : Int) - 1) = (q0 : Int) := by rw [IntKind.wrap_i64]; omega
            have hn4 : IntKind.i64.wrap (q0 : Int) = (q0 : Int) := by rw [IntKind.wrap_i64]; omega
            have hn5 : (0 : Int) ≤ (q0 : Int) := by omega
            have hn6 : ¬ (gl.length : Int) < 1 := by omega
            have hn7 : ¬ 64 < (gl.length : Int) := by omega
            clear hgq hlast hrg rg
            go_wp2_with fail
            go_quiet (fail)
            have hbz : Below w6.heap.size w6 (wr.drewN nq) := hbq.trans ((below_drewN (Below.refl _ _) nq).mono hbq.size)
            have c10 := (hbz.block _ (lt_of_block HC6.out)).trans HC6.out
            have HKZ := hidv (HK10.out.later hbz)
            have HBZ := hidv (HB7.out.trans (hbz.mono HB7.out.size))
            clear hbq hbz c9 a9 zc0 za0 za1 za2 y0 y1 y2 hm
            go_wp2_with fail
            go_roundw
            case rel => exact ⟨j + 1, gl, rn, _, by go_num, by omega, c10, HKZ.out, HE2.out, HBZ.out⟩
            case measure => simp [intOf]; omega
      · have hbe : (er == 0) = false := beq_eq_false_iff_ne.2 he
        have hbn : (er != 0) = true := by simpa using he
        clear HI3 he HK8
        go_wp2_with (first
          | (refine wpList_store_row rfl 25 _ _ rfl _ _ rfl rfl _ _ n13 (maskSize _) (by simp [mv_size]) (mv_all _) ?_; rw [hwB3]; refine wpList_store_row rfl 40 _ _ rfl _ _ rfl rfl _ _ p23 (by kernel_rfl) (by simp) (by simp [Value.oneCell']) ?_; rw [hwC3]; refine wpList_store_row rfl 28 _ _ rfl _ _ rfl rfl _ _ q33 (by kernel_rfl) (by simp) (by simp [Value.oneCell']) ?_; rw [hwD3]))
        go_roundw
        case rel => exact ⟨j + 1, l, runs, _, by go_num, by omega, c5, HK9.out, HINV.out, HB6.out⟩
        case measure => simp [intOf]; omega
    · have hlt' : ¬ (j : Int) < (asks.length : Int) := by omega
      clear HAC
      go_wp2_with fail
      go_ret
      exact ⟨rfl, hb⟩
end Go.Proofs.Ytdpfhhmfamiboaa
