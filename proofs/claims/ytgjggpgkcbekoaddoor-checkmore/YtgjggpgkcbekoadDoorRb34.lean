/- Rules that came in, appended to a row of the call's own. -/
import Derived.Test.YtgjggpgkcbekoadDoorRb30
import Derived.Test.YtgjggpgkcbekoadDoorRb33
import Derived.Laws.StructEq
namespace Go.Proofs.YtgjggpgkcbekoadDoor
open Go.RowKit Lx
theorem flatR_len : ∀ us : List (Ru × Value), (flatR us).length = us.length * 6
  | [] => rfl
  | p :: us => by simp [flatR, flatR_len us]; omega
theorem flatR_oneC (us : List (Ru × Value)) (hf : ∀ p ∈ us, ∃ q n c, p.2 = .slice q n c) : ∀ u ∈ flatR us, u.oneCell' = true := by
  induction us with
  | nil => intro u hu; simp [flatR] at hu
  | cons p us ih =>
    intro u hu
    obtain ⟨q, n, c, e⟩ := hf p List.mem_cons_self
    simp only [flatR, e, List.mem_cons] at hu
    rcases hu with rfl | rfl | rfl | rfl | rfl | rfl | hu
    · rfl
    · rfl
    · rfl
    · rfl
    · rfl
    · rfl
    · exact ih (fun p hp => hf p (List.mem_cons_of_mem _ hp)) u hu
theorem flatR_cells {w : World} {g : Nat} : ∀ (us : List (Ru × Value)) (o : Nat), (∀ (j : Nat) (p : Ru × Value), us[j]? = some p → w.cell? ⟨g, o + j * 6, none⟩ = some (.string ⟨p.1.1.toArray⟩) ∧ w.cell? ⟨g, o + j * 6 + 1, none⟩ = some (.int .i64 p.1.2.kind) ∧ w.cell? ⟨g, o + j * 6 + 2, none⟩ = some (.int .i64 p.1.2.a) ∧ w.cell? ⟨g, o + j * 6 + 3, none⟩ = some (.int .i64 p.1.2.b) ∧
      w.cell? ⟨g, o + j * 6 + 4, none⟩ = some (.string ⟨p.1.2.name.toArray⟩) ∧ w.cell? ⟨g, o + j * 6 + 5, none⟩ = some p.2) → ∀ (j : Nat) (u : Value), (flatR us)[j]? = some u → w.cell? ⟨g, o + j, none⟩ = some u
  | [], _, _, j, u, h => by simp [flatR] at h
  | p :: us, o, hc, j, u, h => by
    obtain ⟨h0, h1, h2, h3, h4, h5⟩ := hc 0 p rfl
    simp only [Nat.zero_mul, Nat.add_zero] at h0 h1 h2 h3 h4 h5
    match j, h with
    | 0, h => cases h; exact h0
    | 1, h => cases h; exact h1
    | 2, h => cases h; exact h2
    | 3, h => cases h; exact h3
    | 4, h => cases h; exact h4
    | 5, h => cases h; exact h5
    | j + 6, h =>
      have := flatR_cells us (o + 6) (fun q p' hq => by
        have := hc (q + 1) p' (by simpa using hq)
        rw [show o + (q + 1) * 6 = o + 6 + q * 6 by omega] at this
        exact this) j u (by simpa [flatR] using h)
      rw [show o + (j + 6) = o + 6 + j by omega]
      exact this
theorem wpList_append_in {w : World} {ops : Array Oper} {rest : List Oper} {o : Oper} {a : Act} {Q : Exit → Act → World → Prop} (hgd : o.guard = none) (s x : Operand)
    (ho : o.op = .call { callee := .builtin .append, args := #[s, x], argTypes := #[22, 22] }) (base : Nat) (i : TypeInfo) (hi : Tryd.prog.info? 36 = some i) (hz : i.zero = some (.agg #[.string ⟨#[]⟩, .int .i64 0, .int .i64 0, .int .i64 0, .string ⟨#[]⟩, .slice none 0 0])) (hsize : i.size = 6) (hby : i.bytes = 80)
    (v : Value) (n : Nat) (xs : List Value) (hs : a.eval s = v) (hown : w.ownsRow base 36 6 v n xs) (us : List (Ru × Value)) (pv : Option Addr) (cv : Nat) (hx : a.eval x = .slice pv us.length cv) (hin : InR w (.slice pv us.length cv) us) (hp : pv = none → cv = 0)
    (h63 : n + us.length ≤ maxLen) (hbytes : (n + us.length) * 80 ≤ 140737488355328) (hbase : base ≤ w.heap.size)
    (h : ∀ v' w', w'.ownsRow base 36 6 v' (n + us.length) (xs ++ flatR us) → w.grownBy w' v.ownBlock → wpList Tryd.prog ops Q rest (a.put o.dst v') w') : wpList Tryd.prog ops Q (o :: rest) a w := by
  have hf := flatR_oneC us fun p hp => by
    obtain ⟨_, _, d, hd⟩ := hin.all p hp
    obtain ⟨q, c, e⟩ := hd.form
    exact ⟨q, _, c, e⟩
  have hc := hin.cells
  cases pv with
  | none =>
    have e0 : us = [] := by
      cases us with
      | nil => rfl
      | cons p us =>
        obtain ⟨_, _, e, _⟩ := hc 0 p rfl
        cases e
    subst e0
    rw [hp rfl] at hx
    exact wpList_append_own_none hgd s x 22 ho base 36 i 6 rulesType hi v n xs hs hown hx (h v w (by rw [flatR, List.append_nil]; exact hown) ⟨rfl, rfl, rfl, Nat.le_refl _, fun _ _ _ => rfl⟩)
  | some ad =>
    refine wpList_append_own w hgd s x 22 ho base 36 i _ 6 80 rulesType hi hz hsize hby rfl (by decide) v n xs hs hown ad us.length cv (flatR us) hx (flatR_len us) (fun j u hj => ?_) hf h63 hbytes hbase fun v' w' h2 h3 _ => h v' w' h2 h3
    cases us with
    | nil => simp [flatR] at hj
    | cons p0 us =>
      obtain ⟨g, o', e, _⟩ := hc 0 p0 rfl
      obtain rfl := Option.some.inj e
      have t := flatR_cells (p0 :: us) o' (fun q p hq => by
        obtain ⟨g', o'', e', hh⟩ := hc q p hq
        cases e'
        exact hh) j u hj
      by_cases hj0 : j = 0
      · subst hj0
        simpa [Addr.add] using t
      · simpa [Addr.add, hj0] using t
end Go.Proofs.YtgjggpgkcbekoadDoor

/- What the law CheckMore comes to. -/
namespace Go.Proofs.YtgjggpgkcbekoadDoor
open Go.RowKit Lx
theorem eqFaultM (a b : Int) (w : World) : (Op.equalIn 10000 26 (.agg #[.int .i64 a, .int .i64 b]) (.agg #[.int .i64 a, .int .i64 b])).run Tryd.prog w = .ok true w := by
  rw [run_equalIn_struct w 9999 26 _ _ (by kernel_rfl) (by kernel_rfl)]
  simp [Program.fieldsOf, Tryd.underlying26, Op.eqFields]
  go_simp
theorem neqFaultM (a b : Int) (w : World) : (binOp .neq 26 (.agg #[.int .i64 a, .int .i64 b]) (.agg #[.int .i64 a, .int .i64 b])).run Tryd.prog w = .ok (.bool false) w := by
  rw [run_neq_struct, eqFaultM]; simp [Result.andThen]
attribute [local go_sem] neqFaultM fieldFlt5
/-- Nobody is of that name, and nobody speaks of it, of the first so many. -/
def NoN (l : List Ru) (nm : List UInt8) (j : Nat) : Prop := ∀ v ∈ l.take j, v.1 ≠ nm ∧ spk v.2 nm = false
def MoRel (l : List Ru) (nm : List UInt8) (n : Nat) (w : World) (t : Value) (wr : World) : Prop := ∃ j : Nat, t = .int .i64 (j : Int) ∧ j ≤ n ∧ NoN l nm j ∧ Below w.heap.size w wr
theorem NoN.step {l : List Ru} {nm : List UInt8} {j : Nat} {u : Ru} (h : NoN l nm j) (hu : l[j]? = some u) (h1 : u.1 ≠ nm) (h2 : spk u.2 nm = false) : NoN l nm (j + 1) := fun v hv => by
  rw [List.take_add_one, hu, Option.toList_some, List.mem_append, List.mem_singleton] at hv
  rcases hv with hv | rfl
  · exact h v hv
  · exact ⟨h1, h2⟩
set_option maxRecDepth 100000 in
set_option maxHeartbeats 4000000 in
theorem cmore_walk (us : List (Ru × Value)) (v : Value) (nm : List UInt8) (w : World) (h : InR w v us) (h80 : us.length * 80 ≤ 140737488351232) (hnm : nm.length ≤ 9223372036854775807) (hnil : ∀ n c, v = .slice none n c → c = 0) (hPT : PT2 w) : Calls Tryd.prog 4 #[v, .string ⟨nm.toArray⟩] w fun e w' => e = .returned (.bool true) ∧ Below w.heap.size w w' := by
  obtain ⟨l, hl⟩ : ∃ l, us.map (fun p => p.1) = l := ⟨_, rfl⟩
  have hll : l.length = us.length := by rw [← hl, List.length_map]
  obtain ⟨pv, cv, rfl⟩ := h.form
  have hlen := h.len
  have c0 := alive5_any w hPT
  have HI := hid5 h
  have HL := hid5 hl
  have HLL := hid5 hll
  have hp0 : pv = none → cv = 0 := fun e => hnil us.length cv (by rw [e])
  obtain ⟨i0, hi, hz0, hz1, hz2⟩ := info_parts ruleInfo
  clear h hl hll hPT hnil
  go_enter Tryd.func4, Tryd.ntmps4
  go_wp2_with fail
  refine c0.mono ?_
  rintro e w0 ⟨rfl, hb0⟩
  clear c0
  have o0 := World.ownsRow_made (base := w0.heap.size) (e := 36) (size := 6) w0 #[] 0 (Nat.le_refl _) (by unfold maxLen; omega) rfl
  have bG := (Below.refl w0.heap.size w0).alloc (Nat.le_refl _) (.cells #[] 36)
  have hbG := hb0.trans (bG.mono hb0.size)
  have hinG := HI.out.below hbG
  have hsG : (w0.alloc (.cells #[] 36)).heap.size = w0.heap.size + 1 := by simp
  go_wp2_with (at_builtin; refine wpList_append_in rfl _ _ rfl w0.heap.size i0 hi hz0 hz1 hz2 (.slice (some ⟨w0.heap.size, 0, none⟩) 0 0) 0 [] rfl o0 us pv cv rfl hinG hp0 (by unfold maxLen; omega) (by omega) (by omega) ?_)
  intro v5 w5 o5 g5
  have bel5 : Below w0.heap.size w0 w5 := bG.grown g5 (by omega) (fun k hk => by
    have e : w0.heap.size = k := Option.some.inj hk
    omega)
  have hb5 := hb0.trans (bel5.mono hb0.size)
  have o5 : w5.ownsRow w0.heap.size 36 6 v5 us.length (flatR us) := by simpa using o5
  have b6 := (Below.refl w5.heap.size w5).alloc (Nat.le_refl _) (.cells #[.string ⟨nm.toArray⟩, .int .i64 1, .int .i64 0, .int .i64 0, .string ⟨#[]⟩, .slice none 0 0] 36)
  have n6 := heap_alloc_new w5 (.cells #[.string ⟨nm.toArray⟩, .int .i64 1, .int .i64 0, .int .i64 0, .string ⟨#[]⟩, .slice none 0 0] 36)
  have o6 := owns_keep (w' := w5.alloc (.cells #[.string ⟨nm.toArray⟩, .int .i64 1, .int .i64 0, .int .i64 0, .string ⟨#[]⟩, .slice none 0 0] 36)) o5 fun b hb => b6.block b (o5.lt b hb).2
  have bel6 := bel5.trans (b6.mono bel5.size)
  have hs6 := bel6.size
  clear g5 o0 bG hbG hinG hsG o5 hp0 bel5
  generalize hw6 : w5.alloc (.cells #[.string ⟨nm.toArray⟩, .int .i64 1, .int .i64 0, .int .i64 0, .string ⟨#[]⟩, .slice none 0 0] 36) = w6 at *
  go_wp2_with (at_builtin; refine wpList_append_own _ rfl _ _ 22 rfl w0.heap.size 36 i0 (.agg #[.string ⟨#[]⟩, .int .i64 0, .int .i64 0, .int .i64 0, .string ⟨#[]⟩, .slice none 0 0]) 6 80 rulesType hi hz0 hz1 hz2 rfl (by decide) v5 us.length (flatR us) rfl o6 ⟨w5.heap.size, 0, none⟩ 1 1 [.string ⟨nm.toArray⟩, .int .i64 1, .int .i64 0, .int .i64 0, .string ⟨#[]⟩, .slice none 0 0] rfl rfl ?c1 ?c2 ?c3 ?c4 ?c5 ?_)
  case c1 =>
    intro k u' hk'
    match k, hk' with
    | 0, hk' => cases hk'; exact (cell_of_row _ _ 0 _ _ _ n6).trans rfl
    | 1, hk' => cases hk'; exact (cell_of_row _ _ 1 _ _ _ n6).trans rfl
    | 2, hk' => cases hk'; exact (cell_of_row _ _ 2 _ _ _ n6).trans rfl
    | 3, hk' => cases hk'; exact (cell_of_row _ _ 3 _ _ _ n6).trans rfl
    | 4, hk' => cases hk'; exact (cell_of_row _ _ 4 _ _ _ n6).trans rfl
    | 5, hk' => cases hk'; exact (cell_of_row _ _ 5 _ _ _ n6).trans rfl
    | k + 6, hk' => simp at hk'
  case c2 =>
    intro u hu
    simp only [List.mem_cons, List.not_mem_nil, or_false] at hu
    rcases hu with rfl | rfl | rfl | rfl | rfl | rfl <;> rfl
  case c3 => unfold maxLen; omega
  case c4 => omega
  case c5 => omega
  intro v7 w7 o7 g7 _
  have bel7 : Below w0.heap.size w0 w7 := bel6.grown g7 (by omega) (fun k hk => (o6.lt k hk).1)
  have hb7 := hb0.trans (bel7.mono hb0.size)
  obtain ⟨us2, hus2⟩ : ∃ us2, us ++ [(newR nm, Value.slice none 0 0)] = us2 := ⟨_, rfl⟩
  have hl2 : us2.length = us.length + 1 := by rw [← hus2]; simp
  have hin7 : InR w7 v7 us2 := by
    have o7' : w7.ownsRow w0.heap.size 36 6 v7 us2.length (flatR us2) := by
      rw [hl2, ← hus2, flatR_snoc]
      exact o7
    refine ⟨rrow_of_owns o7' (by omega), by omega, fun p hp => ?_⟩
    rw [← hus2, List.mem_append, List.mem_singleton] at hp
    rcases hp with hp | rfl
    · exact (HI.out.below hb7).all p hp
    · exact ⟨hnm, by simp [newR], 0, rfl, none, 0, rfl⟩
  have HM : Hid (us2.map (fun p => p.1) = l ++ [newR nm]) := by
    show _ = _
    rw [← hus2, List.map_append, HL.out]
    rfl
  obtain ⟨p7, c7, rfl⟩ := hin7.form
  rw [hl2] at hin7
  have HI2 : Hid (∀ W, Below w7.heap.size w7 W → InR W (.slice p7 (us.length + 1) c7) us2) := fun W hW => hin7.below hW
  have HBW := hid5 hb7
  have hcP := wrong_any us2 _ w7 hin7
  rw [HM.out] at hcP
  rw [hl2]
  clear o7 g7 o6 n6 b6 hw6 bel6 bel7 hb5 hb0 hin7 hus2 hs6 hi hz0 hz1 hz2
  by_cases h40 : (40 : Int) ≤ (us.length : Int)
  · clear hcP HI2 HI
    go_wp2_with fail
    go_ret
    exact ⟨rfl, HBW.out⟩
  by_cases hW : (wrongR (l ++ [newR nm])).1 = 0
  · rw [hW] at hcP
    have HW := hid5 hW
    generalize (((wrongR (l ++ [newR nm])).2 : Nat) : Int) = at0 at *
    clear hW
    go_wp2_with fail
    refine hcP.mono ?_
    rintro e w8 ⟨rfl, b8⟩
    have hb8 := HBW.out.trans (b8.mono HBW.out.size)
    have HI3 : Hid (∀ W, Below w8.heap.size w8 W → InR W (.slice p7 (us.length + 1) c7) us2) := fun W hW => HI2.out W (b8.trans (hW.mono b8.size))
    have HI1 := hid5 (HI.out.below hb8)
    have HB8 := hid5 hb8
    clear hcP HI2 HI HBW b8 hb8
    go_wp2_with fail
    go_loopw [7, 30] (fun _ t wr => MoRel l nm us.length w8 t wr) (fun _ t _ => us.length - (intOf t).toNat)
    case atStart => exact ⟨0, rfl, by omega, fun v hv => by simp at hv, Below.refl _ _⟩
    case round =>
      obtain ⟨j, rfl, hj, hno, hbr⟩ := hrel
      have hj0 : (0 : Int) ≤ (j : Int) := by omega
      have Hno := hid5 hno
      clear hno
      by_cases hlt : j < us.length
      · have hlt' : (j : Int) < (us.length : Int) := by omega
        obtain ⟨⟨u, sk⟩, hik⟩ : ∃ p, us[j]? = some p := ⟨us[j], List.getElem?_eq_getElem hlt⟩
        have hul : l[j]? = some u := by rw [← HL.out, List.getElem?_map, hik]; rfl
        obtain ⟨g, o, hpe, c0, c1, c2, c3, c4, c5⟩ := HI1.out.cells j _ hik
        obtain ⟨_, _, _, hkk⟩ := HI1.out.all _ (List.mem_of_getElem? hik)
        dsimp only at c0 c1 c2 c3 c4 c5 hkk
        obtain ⟨ps, cs, rfl⟩ := hkk.form
        have hme := List.mem_of_getElem? hik
        subst hpe
        have d0 := (hbr.cell (block_lt_of_cell c0)).trans c0
        have d1 := (hbr.cell (block_lt_of_cell c1)).trans c1
        have d2 := (hbr.cell (block_lt_of_cell c2)).trans c2
        have d3 := (hbr.cell (block_lt_of_cell c3)).trans c3
        have d4 := (hbr.cell (block_lt_of_cell c4)).trans c4
        have d5 := (hbr.cell (block_lt_of_cell c5)).trans c5
        have hbA := hbr.alloc hbr.size (.cells #[.string ⟨u.1.toArray⟩, .int .i64 u.2.kind, .int .i64 u.2.a, .int .i64 u.2.b, .string ⟨u.2.name.toArray⟩, .slice ps u.2.kids.length cs] 36)
        have hxB := heap_alloc_new wr (.cells #[.string ⟨u.1.toArray⟩, .int .i64 u.2.kind, .int .i64 u.2.a, .int .i64 u.2.b, .string ⟨u.2.name.toArray⟩, .slice ps u.2.kids.length cs] 36)
        generalize hwB : wr.alloc (.cells #[.string ⟨u.1.toArray⟩, .int .i64 u.2.kind, .int .i64 u.2.a, .int .i64 u.2.b, .string ⟨u.2.name.toArray⟩, .slice ps u.2.kids.length cs] 36) = wB at *
        have r0 := (cell_of_row _ _ 0 _ _ _ hxB).trans rfl
        have r1 := (cell_of_row _ _ 1 _ _ _ hxB).trans rfl
        have r2 := (cell_of_row _ _ 2 _ _ _ hxB).trans rfl
        have r3 := (cell_of_row _ _ 3 _ _ _ hxB).trans rfl
        have r4 := (cell_of_row _ _ 4 _ _ _ hxB).trans rfl
        have r5 := (cell_of_row _ _ 5 _ _ _ hxB).trans rfl
        have hns := name_same u.1 nm
        have HB8A := hid5 (HB8.out.trans (hbA.mono HB8.out.size))
        have cS := speaks_any nm _ u.2 _ wB ((HI1.out.below hbA).all _ hme).2.2.choose_spec
        unfold exV at cS
        clear c0 c1 c2 c3 c4 c5 hxB hbr hkk hik hme
        by_cases hux : u.1 = nm
        · rw [decide_eq_true hux] at hns
          clear cS hux hul
          go_wp2_with fail
          go_ret
          exact ⟨rfl, HB8A.out⟩
        · rw [decide_eq_false hux] at hns
          cases hsp : spk u.2 nm with
          | true =>
            rw [hsp] at cS
            clear hux hul hsp
            go_wp2_with fail
            refine cS.mono ?_
            rintro e w9 ⟨rfl, b9⟩
            have hb9 := HB8A.out.trans (b9.mono HB8A.out.size)
            clear cS b9
            go_wp2_with fail
            go_ret
            exact ⟨rfl, hb9⟩
          | false =>
            rw [hsp] at cS
            have HN := hid5 (Hno.out.step hul hux hsp)
            clear hux hul hsp
            go_wp2_with fail
            refine cS.mono ?_
            rintro e w9 ⟨rfl, b9⟩
            have hb9 := hbA.trans (b9.mono hbA.size)
            clear cS b9 hbA
            go_wp2_with fail
            go_roundw
            case rel => first
              | exact ⟨j + 1, by go_num, by omega, HN.out, hb9⟩
              | ((repeat apply Exists.intro); exact ⟨⟨j + 1, by go_num, by omega, HN.out, hb9⟩, rfl⟩)
            case measure => simp [intOf]; omega
      · have hlt' : ¬ (j : Int) < (us.length : Int) := by omega
        have HMo : Hid (More l nm) := by
          have hno := Hno.out
          unfold NoN at hno
          rw [List.take_of_length_le (by rw [HLL.out]; omega)] at hno
          exact ⟨HW.out, fun v hv => (hno v hv).1, fun v hv => (hno v hv).2⟩
        have e1 := chk_any us _ wr (HI1.out.below hbr)
        have e2 := fun W (hW : Below wr.heap.size wr W) => chk_any us2 _ W (HI3.out W (hbr.trans (hW.mono hbr.size)))
        rw [HL.out] at e1
        rw [HM.out, HMo.out.chk] at e2
        generalize (chkW l).1 = er at *
        generalize (((chkW l).2 : Nat) : Int) = at1 at *
        clear Hno
        go_wp2_with fail
        refine e1.mono ?_
        rintro e w9 ⟨rfl, b9⟩
        have e3 := e2 w9 b9
        have hb9 := hbr.trans (b9.mono hbr.size)
        clear e1 e2 b9 hbr
        go_wp2_with fail
        refine e3.mono ?_
        rintro e w10 ⟨rfl, b10⟩
        have hb10 := hb9.trans (b10.mono hb9.size)
        clear e3 b10 hb9
        go_wp2_with fail
        go_loopw [8, 52] (fun _ t wr => ∃ i : Nat, t = .int .i64 (i : Int) ∧ i ≤ us.length ∧ Below w8.heap.size w8 wr) (fun _ t _ => us.length - (intOf t).toNat)
        case atStart => exact ⟨0, rfl, by omega, hb10⟩
        case round =>
          obtain ⟨i, rfl, hi, hbr⟩ := hrel
          clear hb10
          have hi0 : (0 : Int) ≤ (i : Int) := by omega
          by_cases hlti : i < us.length
          · have hlti' : (i : Int) < (us.length : Int) := by omega
            have f1 := uses_any us _ (i : Int) wr (HI1.out.below hbr)
            have f2 := fun W (hW : Below wr.heap.size wr W) => uses_any us2 _ (i : Int) W (HI3.out W (hbr.trans (hW.mono hbr.size)))
            rw [HL.out] at f1
            rw [HM.out, HMo.out.uses (by rw [HLL.out]; exact hlti)] at f2
            generalize usesL l (i : Int) = ns at *
            go_wp2_with fail
            refine f1.mono ?_
            rintro e w11 ⟨va, rfl, hra, b11⟩
            have f3 := f2 w11 b11
            have hb11 := hbr.trans (b11.mono hbr.size)
            clear f1 f2 b11 hbr
            go_wp2_with fail
            refine f3.mono ?_
            rintro e w12 ⟨vb, rfl, hrb, b12⟩
            have f4 := ints_any ns va vb w12 (hra.below b12) hrb
            have hb12 := hb11.trans (b12.mono hb11.size)
            clear f3 b12 hb11 hra hrb
            go_wp2_with fail
            refine f4.mono ?_
            rintro e w13 ⟨rfl, b13⟩
            have hb13 := hb12.trans (b13.mono hb12.size)
            clear f4 b13 hb12
            go_wp2_with fail
            go_roundw
            case rel => first
              | exact ⟨i + 1, by go_num, by omega, hb13⟩
              | ((repeat apply Exists.intro); exact ⟨⟨i + 1, by go_num, by omega, hb13⟩, rfl⟩)
            case measure => simp [intOf]; omega
          · have hlti' : ¬ (i : Int) < (us.length : Int) := by omega
            have f1 := uses_any us2 _ (us.length : Int) wr (HI3.out wr hbr)
            have hnone := HMo.out.none
            rw [HLL.out] at hnone
            rw [HM.out, hnone] at f1
            have HBr := hid5 (HB8.out.trans (hbr.mono HB8.out.size))
            clear hnone hbr
            go_wp2_with fail
            refine f1.mono ?_
            rintro e w11 ⟨va, rfl, ⟨pa, ca, rfl, _, _⟩, b11⟩
            have hb11 := HBr.out.trans (b11.mono HBr.out.size)
            clear f1 b11
            go_wp2_with fail
            go_ret
            exact ⟨rfl, hb11⟩
  · have hne : ((wrongR (l ++ [newR nm])).1 != 0) = true := by simpa using hW
    generalize (wrongR (l ++ [newR nm])).1 = er at *
    generalize (((wrongR (l ++ [newR nm])).2 : Nat) : Int) = at0 at *
    clear hW HI2 HI
    go_wp2_with fail
    refine hcP.mono ?_
    rintro e w8 ⟨rfl, b8⟩
    have hb8 := HBW.out.trans (b8.mono HBW.out.size)
    clear hcP b8
    go_wp2_with fail
    go_ret
    exact ⟨rfl, hb8⟩
end Go.Proofs.YtgjggpgkcbekoadDoor
